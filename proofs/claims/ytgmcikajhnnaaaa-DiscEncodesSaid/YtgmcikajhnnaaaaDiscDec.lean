/- Bytes as timelines in plain words: what is decoded, and that it is there and back. Conditions: none beyond each lemma's own premises. -/
import Derived.Test.YtgmcikajhnnaaaaDiscMath
namespace Go.Proofs.Ytgmcikajhnnaaaa

/-! ### Reading -/

def toldOk (n : Int) : Prop := 0 ≤ n ∧ n < 8192 ∧ n % 2048 < 1440
instance (n : Int) : Decidable (toldOk n) := by unfold toldOk; infer_instance

/-- A day's records behind one more change, or that it may not be. -/
def stepV (a b : Int) (l : List Rc) (n : Int) : Option (List Rc) :=
  if toldOk n then
    match l.getLast? with
    | none => if a - a % 1440 + n % 2048 = a then some [(n / 2048, a - a % 1440 + n % 2048, b)] else none
    | some (k, f, _) => if f < a - a % 1440 + n % 2048 ∧ a - a % 1440 + n % 2048 < b ∧ k ≠ n / 2048 then some (l.dropLast ++ [(k, f, a - a % 1440 + n % 2048)] ++ [(n / 2048, a - a % 1440 + n % 2048, b)]) else none
  else none

theorem step_bad {a b n : Int} {l : List Rc} (h : ¬ toldOk n) : stepV a b l n = none := if_neg h
theorem step_nil {a b n : Int} (h : toldOk n) : stepV a b [] n = if a - a % 1440 + n % 2048 = a then some [(n / 2048, a - a % 1440 + n % 2048, b)] else none := if_pos h
theorem step_snoc {a b n k f e : Int} {o : List Rc} (h : toldOk n) : stepV a b (o ++ [(k, f, e)]) n =
    if f < a - a % 1440 + n % 2048 ∧ a - a % 1440 + n % 2048 < b ∧ k ≠ n / 2048 then some (o ++ [(k, f, a - a % 1440 + n % 2048)] ++ [(n / 2048, a - a % 1440 + n % 2048, b)]) else none := by
  unfold stepV
  rw [if_pos h]
  simp

def rdN (a b : Int) : Nat → List Rc → List UInt8 → Option (List Rc × List UInt8)
  | 0, l, u => some (l, u)
  | n + 1, l, x :: y :: u => (stepV a b l (val x y)).bind fun l' => rdN a b n l' u
  | _ + 1, _, [_] => none
  | _ + 1, _, [] => none

def rdDay (a b : Int) : List UInt8 → Option (List Rc × List UInt8)
  | x :: y :: u => if val x y = 0 then none else rdN a b (val x y).toNat [] u
  | [_] => none
  | [] => none

def rdDays : List (Int × Int) → List UInt8 → Option (List (List Rc) × List UInt8)
  | [], u => some ([], u)
  | s :: ss, u => (rdDay s.1 s.2 u).bind fun q => (rdDays ss q.2).map fun r => (q.1 :: r.1, r.2)

/-- What the bytes ahead of the sum are decoded as. -/
def decT : List UInt8 → Option (List Rc)
  | h :: d :: a1 :: a2 :: b1 :: b2 :: u =>
    if h = 72 ∧ d = 68 ∧ val a1 a2 < val b1 b2 ∧ val b1 b2 ≤ 40320 then
      match rdDays (daysV (val a1 a2) (val b1 b2)) u with
      | some (P, []) => some (normV P.flatten)
      | _ => none
    else none
  | _ => none

/-! ### What is right on a day -/

structure VD (a b : Int) (R : List Rc) : Prop where
  tl : Tl a R
  ne : R ≠ []
  en : fin R = b
  nm : normV R = R

theorem norm_snoc (l : List Rc) (r : Rc) : normV (l ++ [r]) = put (normV l) r.1 r.2.1 r.2.2 := by
  unfold normV
  rw [List.foldl_append]
  rfl

theorem put_inv {X Q : List Rc} {k f t k' f' t' : Int} (h : put X k f t = Q ++ [(k', f', t')]) (hX : X.length ≤ Q.length) : X = Q ∧ k' = k ∧ f' = f ∧ t' = t ∧ (∀ o a b c, X = o ++ [(a, b, c)] → a ≠ k) := by
  rcases List.eq_nil_or_concat X with rfl | ⟨o, ⟨a, b, c⟩, rfl⟩
  · rw [put_nil] at h
    have hq : Q = [] := by
      have := congrArg List.length h
      simpa using this
    subst hq
    simp at h
    exact ⟨rfl, h.1.symm, h.2.1.symm, h.2.2.symm, fun o a b c e => by simp at e⟩
  · simp only [List.concat_eq_append] at *
    by_cases hk : a = k
    · subst hk
      rw [put_same] at h
      have := congrArg List.length h
      simp at this hX
      omega
    · rw [put_other o hk] at h
      have h2 := List.append_inj' h rfl
      have h3 := h2.2
      simp at h3
      refine ⟨h2.1, h3.1.symm, h3.2.1.symm, h3.2.2.symm, fun o' a' b' c' e => ?_⟩
      have e2 := (List.append_inj' e rfl).2
      simp at e2
      rw [← e2.1]; exact hk

theorem put_end {X o : List Rc} {k f e e' f' : Int} (h : put X k f e = o ++ [(k, f', e)]) : put X k f e' = o ++ [(k, f', e')] := by
  rcases List.eq_nil_or_concat X with rfl | ⟨p, ⟨a, b, c⟩, rfl⟩
  · rw [put_nil] at h ⊢
    have h2 := List.append_inj' (show [] ++ [(k, f, e)] = o ++ [(k, f', e)] from h) rfl
    rw [← h2.1]
    have := h2.2
    simp at this
    rw [this]; rfl
  · simp only [List.concat_eq_append] at *
    by_cases hk : a = k
    · subst hk
      rw [put_same] at h ⊢
      have h2 := List.append_inj' h rfl
      have := h2.2
      simp at this
      rw [h2.1, this]
    · rw [put_other p hk] at h ⊢
      have h2 := List.append_inj' h rfl
      have := h2.2
      simp at this
      rw [h2.1, this]

/-- A day's records taken apart: ahead of the last one they are right up to its begin. -/
theorem vd_snoc {a b : Int} {Q : List Rc} {r : Rc} (h : VD a b (Q ++ [r])) : r.2.2 = b ∧ ((0 ≤ r.1 ∧ r.1 < 4) ∧ (0 ≤ r.2.1 ∧ r.2.1 < r.2.2 ∧ r.2.2 ≤ 40320)) ∧ Tl a Q ∧ normV Q = Q ∧ r.2.1 = (if Q = [] then a else fin Q) ∧ (∀ o k x y, Q = o ++ [(k, x, y)] → k ≠ r.1) := by
  have hi := h.tl.init
  have hf := (Tl.snoc hi.1 hi.2.1 hi.2.2).2
  have hn := h.nm
  rw [norm_snoc] at hn
  obtain ⟨r1, r2, r3⟩ := r
  have hp := put_inv hn (norm_len Q)
  refine ⟨by rw [← hf]; exact h.en, hi.2.1, hi.1, hp.1, hi.2.2, fun o k x y e => hp.2.2.2.2 o k x y (by rw [hp.1]; exact e)⟩

theorem vd_move {a b : Int} {o : List Rc} {k x y : Int} (h : Tl a (o ++ [(k, x, y)])) (hn : normV (o ++ [(k, x, y)]) = o ++ [(k, x, y)]) (hb : x < b) (hm : b ≤ 40320) : VD a b (o ++ [(k, x, b)]) := by
  have hi := h.init
  obtain ⟨h1, ⟨h2, h3⟩, h4⟩ := hi
  dsimp only at h2 h3 h4
  have hs := Tl.snoc (r := (k, x, b)) h1 ⟨h2, by dsimp only; omega⟩ h4
  refine ⟨hs.1, by simp, hs.2, ?_⟩
  rw [norm_snoc] at hn ⊢
  exact put_end hn

theorem vd_one {a b k : Int} (hk : 0 ≤ k ∧ k < 4) (ha : 0 ≤ a) (hab : a < b) (hb : b ≤ 40320) : VD a b [(k, a, b)] :=
  ⟨⟨⟨hk, by dsimp only; omega⟩, rfl, trivial⟩, by simp, rfl, rfl⟩

theorem vd_two {a b : Int} {o : List Rc} {k f m k2 : Int} (h : VD a m (o ++ [(k, f, m)])) (hk : 0 ≤ k2 ∧ k2 < 4) (hne : k ≠ k2) (hm : m < b) (hb : b ≤ 40320) : VD a b (o ++ [(k, f, m)] ++ [(k2, m, b)]) := by
  have hl := h.tl.len (by simp)
  have hf : fin (o ++ [(k, f, m)]) = m := h.en
  have hs := Tl.snoc (r := (k2, m, b)) h.tl ⟨hk, by dsimp only; omega⟩ (by rw [if_neg (by simp)]; exact hf.symm)
  refine ⟨hs.1, by simp, hs.2, ?_⟩
  rw [norm_snoc, h.nm]
  exact put_other o hne

/-! ### What is read is right -/

theorem num_of {k f n a : Int} (hk : k = n / 2048) (hf : f = a - a % 1440 + n % 2048) (hn : toldOk n) : 2048 * k + f % 1440 = n := by
  unfold toldOk at hn
  omega

theorem step_sound {a b n : Int} {l l' : List Rc} (h : stepV a b l n = some l') (ha : 0 ≤ a) (hab : a < b) (hb : b ≤ 40320) (hl : l = [] ∨ VD a b l) : VD a b l' ∧ nums l' = nums l ++ [n] := by
  by_cases hn : toldOk n
  · have hn' := hn
    unfold toldOk at hn'
    rcases List.eq_nil_or_concat l with rfl | ⟨o, ⟨k, f, e⟩, rfl⟩
    · rw [step_nil hn] at h
      by_cases hc : a - a % 1440 + n % 2048 = a
      · rw [if_pos hc] at h
        injection h with h
        subst h
        rw [hc]
        refine ⟨vd_one (by omega) ha hab hb, ?_⟩
        show [2048 * (n / 2048) + a % 1440] = [n]
        rw [num_of rfl hc.symm hn]
      · rw [if_neg hc] at h; cases h
    · simp only [List.concat_eq_append] at *
      rw [step_snoc hn] at h
      by_cases hc : f < a - a % 1440 + n % 2048 ∧ a - a % 1440 + n % 2048 < b ∧ k ≠ n / 2048
      · rw [if_pos hc] at h
        injection h with h
        subst h
        rcases hl with hl | hl
        · simp at hl
        · have hv := vd_snoc hl
          dsimp only at hv
          obtain ⟨rfl, h2, h3, h4, h5, h6⟩ := hv
          have hm := vd_move (b := a - a % 1440 + n % 2048) hl.tl hl.nm hc.1 (by omega)
          refine ⟨vd_two hm (by omega) hc.2.2 hc.2.1 hb, ?_⟩
          rw [nums_append, nums_append, nums_append]
          show nums o ++ [2048 * k + f % 1440] ++ [2048 * (n / 2048) + (a - a % 1440 + n % 2048) % 1440] = nums o ++ [2048 * k + f % 1440] ++ [n]
          rw [num_of rfl rfl hn]
      · rw [if_neg hc] at h; cases h
  · rw [step_bad hn] at h; cases h

theorem rdN_sound {a b : Int} (ha : 0 ≤ a) (hab : a < b) (hb : b ≤ 40320) (n : Nat) : ∀ (l : List Rc) (u : List UInt8) (l' : List Rc) (v : List UInt8), rdN a b n l u = some (l', v) → (l = [] ∨ VD a b l) →
    ∃ ns, u = twos ns ++ v ∧ ns.length = n ∧ nums l' = nums l ++ ns ∧ (l' = [] ∨ VD a b l') := by
  induction n with
  | zero =>
    intro l u l' v h hl
    have e : some (l, u) = some (l', v) := h
    injection e with e
    injection e with e1 e2
    subst e1 e2
    exact ⟨[], rfl, rfl, by simp, hl⟩
  | succ n ih =>
    intro l u l' v h hl
    rcases u with _ | ⟨x, _ | ⟨y, u⟩⟩
    · cases h
    · cases h
    · have h' : ((stepV a b l (val x y)).bind fun l' => rdN a b n l' u) = some (l', v) := h
      obtain ⟨l1, h1, h2⟩ := Option.bind_eq_some_iff.1 h'
      have hs := step_sound h1 ha hab hb hl
      obtain ⟨ns, e1, e2, e3, e4⟩ := ih l1 u l' v h2 (.inr hs.1)
      refine ⟨val x y :: ns, ?_, by simp [e2], by rw [e3, hs.2]; simp, e4⟩
      rw [twos_cons, two_val, e1]
      rfl

theorem rdDay_sound {a b : Int} (ha : 0 ≤ a) (hab : a < b) (hb : b ≤ 40320) {u v : List UInt8} {R : List Rc} (h : rdDay a b u = some (R, v)) : VD a b R ∧ u = dayT R ++ v := by
  match u, h with
  | [], h => simp [rdDay] at h
  | [_], h => simp [rdDay] at h
  | x :: y :: u, h =>
    rw [rdDay] at h
    have hv := val_bd x y
    by_cases h0 : val x y = 0
    · rw [if_pos h0] at h; cases h
    · rw [if_neg h0] at h
      obtain ⟨ns, e1, e2, e3, e4⟩ := rdN_sound ha hab hb _ _ _ _ _ h (.inl rfl)
      have hl : R.length = (val x y).toNat := by
        have := congrArg List.length e3
        rw [nums_len] at this
        simp [nums, e2] at this
        exact this
      refine ⟨e4.resolve_left (fun e => ?_), ?_⟩
      · rw [e] at hl; simp at hl; omega
      · unfold dayT
        rw [hl, show (((val x y).toNat : Nat) : Int) = val x y by omega, two_val, e1, e3]
        simp [nums]

/-- Each day's records are right. -/
def AllV : List (Int × Int) → List (List Rc) → Prop
  | [], [] => True
  | s :: ss, R :: P => VD s.1 s.2 R ∧ AllV ss P
  | _, _ => False

theorem rdDays_sound : ∀ (ss : List (Int × Int)) (a b : Int) (u v : List UInt8) (P : List (List Rc)), Chn a b ss → 0 ≤ a → b ≤ 40320 → rdDays ss u = some (P, v) → AllV ss P ∧ u = P.flatMap dayT ++ v
  | [], a, b, u, v, P, _, _, _, h => by
    simp [rdDays] at h
    obtain ⟨rfl, rfl⟩ := h
    exact ⟨trivial, rfl⟩
  | s :: ss, a, b, u, v, P, hc, h0, h1, h => by
    obtain ⟨hc1, hc2, hc3, hc4, hc5⟩ := hc
    subst hc1
    rw [rdDays] at h
    obtain ⟨⟨R, u'⟩, hd, h⟩ := Option.bind_eq_some_iff.1 h
    obtain ⟨⟨P', v'⟩, hr, h⟩ := Option.map_eq_some_iff.1 h
    simp at h
    obtain ⟨rfl, rfl⟩ := h
    have h2 := rdDay_sound h0 hc2 (by omega) hd
    have h3 := rdDays_sound ss s.2 b u' v' P' hc5 (by omega) h1 hr
    refine ⟨⟨h2.1, h3.1⟩, ?_⟩
    rw [h2.2, h3.2]
    simp

theorem all_tl : ∀ (ss : List (Int × Int)) (P : List (List Rc)) (a b : Int), Chn a b ss → AllV ss P → Tl a P.flatten ∧ (ss ≠ [] → P.flatten ≠ [] ∧ fin P.flatten = b)
  | [], [], a, b, _, _ => ⟨trivial, fun h => absurd rfl h⟩
  | [], _ :: _, _, _, _, h => by cases h
  | _ :: _, [], _, _, _, h => by cases h
  | s :: ss, R :: P, a, b, hc, h => by
    obtain ⟨hc1, hc2, hc3, hc4, hc5⟩ := hc
    subst hc1
    have ih := all_tl ss P s.2 b hc5 h.2
    have hR := h.1
    have key : ∀ (R : List Rc) (e m : Int) (L : List Rc), Tl e R → R ≠ [] → fin R = m → Tl m L → Tl e (R ++ L) ∧ fin (R ++ L) = (if L = [] then m else fin L) := by
      intro R
      induction R with
      | nil => intro e m L _ h; exact absurd rfl h
      | cons r R ih =>
        intro e m L h1 _ h3 h4
        cases R with
        | nil =>
          have h3' : r.2.2 = m := h3
          refine ⟨⟨h1.1, h1.2.1, by rw [h3']; exact h4⟩, ?_⟩
          cases L with
          | nil => rw [if_pos rfl]; exact h3
          | cons x L => rw [if_neg (by simp)]; rfl
        | cons q R =>
          have := ih r.2.2 m L h1.2.2 (by simp) h3 h4
          exact ⟨⟨h1.1, h1.2.1, this.1⟩, this.2⟩
    have hk := key R s.1 s.2 P.flatten hR.tl hR.ne hR.en ih.1
    rw [List.flatten_cons]
    refine ⟨hk.1, fun _ => ⟨by have := hR.ne; simp [this], ?_⟩⟩
    rw [hk.2]
    by_cases hs : ss = []
    · subst hs
      have hP : P = [] := by
        cases P with
        | nil => rfl
        | cons x P => exact absurd h.2 (by intro h; cases h)
      subst hP
      rw [List.flatten_nil, if_pos rfl]
      exact hc5
    · have := ih.2 hs
      rw [if_neg this.1]
      exact this.2

theorem all_part : ∀ (ss : List (Int × Int)) (P : List (List Rc)) (c b at_ : Int) (ks0 ks1 : List Int), Chn c b ss → AllV ss P → at_ + (ks0.length : Int) = c →
    ss.map (partR at_ (ks0 ++ kindsV P.flatten ++ ks1)) = P
  | [], [], _, _, _, _, _, _, _, _ => rfl
  | [], _ :: _, _, _, _, _, _, _, h, _ => by cases h
  | _ :: _, [], _, _, _, _, _, _, h, _ => by cases h
  | s :: ss, R :: P, c, b, at_, ks0, ks1, hc, h, hk => by
    obtain ⟨hc1, hc2, hc3, hc4, hc5⟩ := hc
    subst hc1
    have hR := h.1
    have hl := hR.tl.len hR.ne
    rw [hR.en] at hl
    have hbeg : beg R = s.1 := by
      cases R with
      | nil => exact absurd rfl hR.ne
      | cons r R => exact hR.tl.2.1
    have e1 : partR at_ (ks0 ++ kindsV (R :: P).flatten ++ ks1) s = R := by
      unfold partR slc
      rw [List.flatten_cons, kinds_append, show (s.1 - at_).toNat = ks0.length by omega, show (s.2 - s.1).toNat = (kindsV R).length by omega]
      rw [List.append_assoc, List.append_assoc, List.drop_left, List.take_left]
      have := norm_of hR.tl
      rw [hbeg] at this
      rw [this]
      exact hR.nm
    have ih := all_part ss P s.2 b at_ (ks0 ++ kindsV R) ks1 hc5 h.2 (by rw [List.length_append]; omega)
    rw [List.map_cons, e1]
    congr 1
    rw [List.flatten_cons, kinds_append, ← List.append_assoc]
    exact ih

theorem map_days (ds : List (Int × Int)) (f : Int × Int → List Rc) : daysT ds f = (ds.map f).flatMap dayT := by
  unfold daysT
  rw [List.flatMap_map]

/-- What is decoded is encoded as it was. -/
theorem dec_sound {u : List UInt8} {l : List Rc} (h : decT u = some l) : (checkV l).2 = 0 ∧ l ≠ [] ∧ bodyL l = u := by
  match u, h with
  | h_ :: d :: a1 :: a2 :: b1 :: b2 :: u, h =>
    rw [decT] at h
    by_cases hc : h_ = 72 ∧ d = 68 ∧ val a1 a2 < val b1 b2 ∧ val b1 b2 ≤ 40320
    · rw [if_pos hc] at h
      obtain ⟨rfl, rfl, hab, hb⟩ := hc
      have ha := val_bd a1 a2
      rcases hr : rdDays (daysV (val a1 a2) (val b1 b2)) u with _ | ⟨P, v⟩
      · rw [hr] at h; cases h
      · rw [hr] at h
        cases v with
        | cons x v => cases h
        | nil =>
          injection h with h
          have hch := chn_daysV (a := val a1 a2) (b := val b1 b2) (by omega)
          have hs := rdDays_sound _ _ _ _ _ _ hch ha.1 hb hr
          have hdn : daysV (val a1 a2) (val b1 b2) ≠ [] := by
            obtain ⟨k, _, _, e⟩ := days_one (n := (val b1 b2 - val a1 a2).toNat) hab (by omega)
            unfold daysV
            rw [e]; simp
          have ht := all_tl _ _ _ _ hch hs.1
          obtain ⟨hne, hfin⟩ := ht.2 hdn
          have hbeg : beg P.flatten = val a1 a2 := by
            have := ht.1
            cases hq : P.flatten with
            | nil => exact absurd hq hne
            | cons r L => rw [hq] at this; exact this.2.1
          have hnt := norm_tl ht.1
          rw [hbeg, h] at hnt
          have hlne : l ≠ [] := fun e => hne (hnt.2.2.1 e)
          have hlbeg : beg l = val a1 a2 := by
            cases l with
            | nil => exact absurd rfl hlne
            | cons r L => exact hnt.1.2.1
          have hlen := hnt.1.len hlne
          have hlen2 := ht.1.len hne
          rw [hnt.2.1] at hlen
          have hlfin : fin l = val b1 b2 := by omega
          refine ⟨by rw [tl_check hnt.1], hlne, ?_⟩
          have hp := all_part _ _ _ _ (val a1 a2) [] [] hch hs.1 (by simp)
          simp only [List.nil_append, List.append_nil] at hp
          unfold bodyL bodyV
          rw [hlbeg, hlfin, two_val, two_val, chn_congr (g := partR (val a1 a2) (kindsV P.flatten)) hch (Int.le_refl _) (Int.le_refl _) (fun x y h1 h2 h3 => ?_), map_days, hp, hs.2]
          · simp
          · have := cut_part (a := x) (b := y) hnt.1 hlne (by rw [hlbeg]; exact h1) h2 (by rw [hlfin]; exact h3)
            rw [hlbeg, hnt.2.1] at this
            exact this
    · rw [if_neg hc] at h; cases h

/-! ### What is right is read -/

def runN (a b : Int) : List Int → List Rc → Option (List Rc)
  | [], l => some l
  | n :: ns, l => (stepV a b l n).bind fun l' => runN a b ns l'

theorem runN_snoc (a b : Int) (n : Int) : ∀ (ns : List Int) (l : List Rc), runN a b (ns ++ [n]) l = (runN a b ns l).bind fun l' => stepV a b l' n
  | [], l => by simp [runN]
  | m :: ns, l => by
    rw [List.cons_append, runN, runN]
    cases stepV a b l m with
    | none => rfl
    | some l' => exact runN_snoc a b n ns l'

theorem rdN_run {a b : Int} {v : List UInt8} : ∀ (ns : List Int) (l : List Rc), (∀ n ∈ ns, 0 ≤ n ∧ n ≤ 65535) → rdN a b ns.length l (twos ns ++ v) = (runN a b ns l).map fun l' => (l', v)
  | [], l, _ => rfl
  | n :: ns, l, h => by
    obtain ⟨h0, h1⟩ := h n List.mem_cons_self
    obtain ⟨x, y, e, hv⟩ := two_is h0 h1
    rw [twos_cons, e, List.length_cons]
    show rdN a b (ns.length + 1) l (x :: y :: (twos ns ++ v)) = _
    rw [rdN, hv, runN]
    cases stepV a b l n with
    | none => rfl
    | some l' => exact rdN_run ns l' (fun m hm => h m (List.mem_cons_of_mem _ hm))

theorem vd_run {a b : Int} (ha : 0 ≤ a) (hab : a < b) (hb : b ≤ 40320) (hd : b ≤ dEnd a) : ∀ (m : Nat) (R : List Rc), R.length = m → VD a b R → runN a b (nums R) [] = some R
  | 0, R, hm, h => absurd (List.eq_nil_of_length_eq_zero hm) h.ne
  | m + 1, R, hm, h => by
    rcases List.eq_nil_or_concat R with rfl | ⟨Q, ⟨k, f, e⟩, rfl⟩
    · cases hm
    · simp only [List.concat_eq_append] at *
      obtain ⟨he, ⟨hk, hf⟩, hQ, hn, hq, hkk⟩ := vd_snoc h
      dsimp only at he hk hf hq
      subst he
      unfold dEnd at hd
      have haf : a ≤ f := by
        by_cases hQn : Q = []
        · rw [if_pos hQn] at hq; omega
        · rw [if_neg hQn] at hq
          have := hQ.len hQn
          omega
      have hnum : num (k, f, e) = 2048 * k + f % 1440 := rfl
      have hday : f - f % 1440 = a - a % 1440 := by omega
      have hmod : (2048 * k + f % 1440) % 2048 = f % 1440 := by omega
      have hdiv : (2048 * k + f % 1440) / 2048 = k := by omega
      have hok : toldOk (num (k, f, e)) := by rw [hnum]; unfold toldOk; omega
      have hfe : a - a % 1440 + num (k, f, e) % 2048 = f := by rw [hnum, hmod]; omega
      rw [nums_append]
      show runN a e (nums Q ++ [num (k, f, e)]) [] = _
      rw [runN_snoc]
      rcases List.eq_nil_or_concat Q with rfl | ⟨o, ⟨k0, f0, e0⟩, rfl⟩
      · rw [if_pos rfl] at hq
        show stepV a e [] (num (k, f, e)) = _
        rw [step_nil hok, hfe, if_pos hq, hnum, hdiv]
        rfl
      · simp only [List.concat_eq_append] at *
        rw [if_neg (by simp)] at hq
        have hi := hQ.init
        obtain ⟨hi1, ⟨hi2, hi3⟩, hi4⟩ := hi
        dsimp only at hi2 hi3 hi4
        have hfq := (Tl.snoc (r := (k0, f0, e0)) hi1 ⟨hi2, by dsimp only; exact hi3⟩ hi4).2
        rw [hfq] at hq
        dsimp only at hq
        subst hq
        have hv := vd_move (b := e) hQ hn (by omega) (by omega)
        have ih := vd_run ha hab hb (by unfold dEnd; exact hd) m _ (by simp at hm ⊢; omega) hv
        have e1 : nums (o ++ [(k0, f0, f)]) = nums (o ++ [(k0, f0, e)]) := by rw [nums_append, nums_append]; rfl
        rw [e1, ih]
        show stepV a e (o ++ [(k0, f0, e)]) (num (k, f, e)) = _
        rw [step_snoc hok, hfe, hnum, hdiv, if_pos ⟨by omega, by omega, hkk o k0 f0 f rfl⟩]

theorem kinds_ge : ∀ (l : List Rc) (e : Int), Tl e l → l.length ≤ (kindsV l).length
  | [], _, _ => by simp
  | r :: l, e, h => by
    have ih := kinds_ge l r.2.2 h.2.2
    have := h.1.2
    rw [kinds_cons, List.length_append, List.length_replicate, List.length_cons]
    omega

theorem rdDay_full {a b : Int} (ha : 0 ≤ a) (hab : a < b) (hb : b ≤ 40320) (hd : b ≤ dEnd a) {R : List Rc} (h : VD a b R) (v : List UInt8) : rdDay a b (dayT R ++ v) = some (R, v) := by
  have hl := h.tl.len h.ne
  have hg := kinds_ge R a h.tl
  rw [h.en] at hl
  have hd' := hd
  unfold dEnd at hd'
  have h0 : 0 < R.length := List.length_pos_iff.2 h.ne
  obtain ⟨x, y, e, hv⟩ := two_is (n := (R.length : Nat)) (by omega) (by omega)
  unfold dayT
  rw [e]
  show rdDay a b (x :: y :: (twos (nums R) ++ v)) = _
  rw [rdDay, hv, if_neg (by omega), show ((R.length : Nat) : Int).toNat = (nums R).length by rw [nums_len]; omega]
  rw [rdN_run, vd_run ha hab hb hd _ R rfl h]
  · rfl
  · intro n hn
    obtain ⟨r, hr, rfl⟩ := List.mem_map.1 hn
    obtain ⟨j, hj, hjr⟩ := List.getElem_of_mem hr
    have := h.tl.at_ j hj
    rw [List.getD_eq_getElem?_getD, List.getElem?_eq_getElem hj, Option.getD_some, hjr] at this
    show 0 ≤ 2048 * r.1 + r.2.1 % 1440 ∧ 2048 * r.1 + r.2.1 % 1440 ≤ 65535
    omega

theorem rdDays_full : ∀ (ss : List (Int × Int)) (P : List (List Rc)) (a b : Int) (v : List UInt8), Chn a b ss → 0 ≤ a → b ≤ 40320 → AllV ss P → rdDays ss (P.flatMap dayT ++ v) = some (P, v)
  | [], [], _, _, _, _, _, _, _ => rfl
  | [], _ :: _, _, _, _, _, _, _, h => by cases h
  | _ :: _, [], _, _, _, _, _, _, h => by cases h
  | s :: ss, R :: P, a, b, v, hc, h0, h1, h => by
    obtain ⟨hc1, hc2, hc3, hc4, hc5⟩ := hc
    subst hc1
    rw [List.flatMap_cons, List.append_assoc, rdDays, rdDay_full h0 hc2 (by omega) hc3 h.1]
    show (rdDays ss (P.flatMap dayT ++ v)).map _ = _
    rw [rdDays_full ss P s.2 b v hc5 (by omega) h1 h.2]
    rfl

theorem slc_len {at_ a b : Int} {ks : List Int} (h0 : at_ ≤ a) (h1 : a ≤ b) (h2 : b ≤ at_ + (ks.length : Int)) : ((slc at_ ks a b).length : Int) = b - a := by
  unfold slc
  rw [List.length_take, List.length_drop]
  omega

theorem slc_join {at_ a b c : Int} {ks : List Int} (h0 : at_ ≤ a) (h1 : a ≤ b) (h2 : b ≤ c) : slc at_ ks a b ++ slc at_ ks b c = slc at_ ks a c := by
  unfold slc
  have e : ks.drop (b - at_).toNat = (ks.drop (a - at_).toNat).drop (b - a).toNat := by
    rw [List.drop_drop]
    congr 1
    omega
  rw [e, show (c - a).toNat = (b - a).toNat + (c - b).toNat by omega, List.take_add]

theorem cut_vd {l : List Rc} {a b : Int} (h : (checkV l).2 = 0) (hne : l ≠ []) (ha : beg l ≤ a) (hab : a < b) (hb : b ≤ fin l) : VD a b (cutR l (a, b)) ∧ kindsV (cutR l (a, b)) = slc (beg l) (kindsV l) a b := by
  have ht := check_tl h
  have hu := up2_is (beg l) a
  have hv := lo2_is (fin l) b
  have hw := within_beg (a := a) (b := b) ht hne (by omega)
  have htw := within_tl (a := a) (b := b) hab ht
  rw [hw.2, show up2 (beg l) a = a by omega] at htw
  have hk := within_kinds (b := b) ht ha
  have hl := ht.len hne
  have hlen := slc_len (at_ := beg l) (ks := kindsV l) ha (by omega : a ≤ b) (by omega)
  have hnt := norm_tl htw
  rw [hw.2, show up2 (beg l) a = a by omega] at hnt
  have hnn : normV (withinV a b l) ≠ [] := fun e => hw.1 (hnt.2.2.1 e)
  have hfl := hnt.1.len hnn
  rw [hnt.2.1, hk] at hfl
  have hnb : beg (normV (withinV a b l)) = a := by
    have := hnt.1
    cases hq : normV (withinV a b l) with
    | nil => exact absurd hq hnn
    | cons r L => rw [hq] at this; exact this.2.1
  refine ⟨⟨hnt.1, hnn, by show fin (normV (withinV a b l)) = b; omega, ?_⟩, by show kindsV (normV (withinV a b l)) = _; rw [hnt.2.1, hk]⟩
  show normV (normV (withinV a b l)) = normV (withinV a b l)
  rw [← norm_of hnt.1, hnb, hnt.2.1]
  have := norm_of htw
  rw [hw.2, show up2 (beg l) a = a by omega] at this
  exact this

theorem cut_all_vd {l : List Rc} (h : (checkV l).2 = 0) (hne : l ≠ []) : ∀ (ss : List (Int × Int)) (a : Int), beg l ≤ a → Chn a (fin l) ss → AllV ss (ss.map (cutR l)) ∧ kindsV (ss.map (cutR l)).flatten = slc (beg l) (kindsV l) a (fin l)
  | [], a, h0, hc => by
    have hc' : a = fin l := hc
    subst hc'
    refine ⟨trivial, ?_⟩
    unfold slc
    rw [show (fin l - fin l).toNat = 0 by omega]
    rfl
  | (x, y) :: ss, a, h0, hc => by
    obtain ⟨hc1, hc2, hc3, hc4, hc5⟩ := hc
    dsimp only at hc1 hc2 hc4 hc5
    subst hc1
    have hv := cut_vd h hne h0 hc2 hc4
    have ih := cut_all_vd h hne ss y (by omega) hc5
    refine ⟨⟨hv.1, ih.1⟩, ?_⟩
    rw [List.map_cons, List.flatten_cons, kinds_append, hv.2, ih.2]
    exact slc_join h0 (by omega) hc4

/-- A timeline's bytes are decoded as its normal one. -/
theorem dec_full {l : List Rc} (h : (checkV l).2 = 0) (hne : l ≠ []) : decT (bodyL l) = some (normV l) := by
  have ht := check_tl h
  have hl := ht.len hne
  have hpos : 0 < (kindsV l).length := by
    have := kinds_ge l _ ht
    have := List.length_pos_iff.2 hne
    omega
  obtain ⟨a1, a2, ea, va⟩ := two_is (n := beg l) (by omega) (by omega)
  obtain ⟨b1, b2, eb, vb⟩ := two_is (n := fin l) (by omega) (by omega)
  have hch := chn_daysV (a := beg l) (b := fin l) (by omega)
  have hc := cut_all_vd h hne _ _ (Int.le_refl _) hch
  have hrd := rdDays_full _ _ _ _ [] hch hl.2.1 hl.2.2 hc.1
  rw [List.append_nil] at hrd
  unfold bodyL bodyV
  rw [ea, eb, map_days]
  show decT (72 :: 68 :: a1 :: a2 :: b1 :: b2 :: ((daysV (beg l) (fin l)).map (cutR l)).flatMap dayT) = _
  rw [decT, va, vb, if_pos ⟨rfl, rfl, by omega, hl.2.2⟩, hrd]
  dsimp only
  congr 1
  have hdn : daysV (beg l) (fin l) ≠ [] := by
    obtain ⟨k, _, _, e⟩ := days_one (n := (fin l - beg l).toNat) (a := beg l) (b := fin l) (by omega) (by omega)
    unfold daysV
    rw [e]; simp
  have htp := all_tl _ _ _ _ hch hc.1
  have hbeg : beg ((daysV (beg l) (fin l)).map (cutR l)).flatten = beg l := by
    have h1 := htp.1
    have h2 := (htp.2 hdn).1
    cases hq : ((daysV (beg l) (fin l)).map (cutR l)).flatten with
    | nil => exact absurd hq h2
    | cons r L => rw [hq] at h1; exact h1.2.1
  rw [← norm_of htp.1, hbeg, hc.2, ← norm_of ht]
  congr 1
  unfold slc
  rw [show (beg l - beg l).toNat = 0 by omega, List.drop_zero, List.take_of_length_le (by omega)]

end Go.Proofs.Ytgmcikajhnnaaaa
