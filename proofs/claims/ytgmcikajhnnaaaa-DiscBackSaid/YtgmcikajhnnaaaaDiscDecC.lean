/- What decode and Decode of layer 11 return. Conditions: the text has at most a million bytes. -/
import Derived.Test.YtgmcikajhnnaaaaRows
import Derived.Test.YtgmcikajhnnaaaaDiscWhole
import Derived.Test.YtgmcikajhnnaaaaDiscDay
import Derived.Test.YtgmcikajhnnaaaaDiscDays
import Derived.Test.YtgmcikajhnnaaaaDiscEncC
import Derived.Test.YtgmcikajhnnaaaaDiscCat
import Derived.Test.YtgmcikajhnnaaaaSumOpen2
import Derived.WalkKit
import Derived.WalkSpells
import Derived.WalkSmall
import Derived.Below
import Derived.Lib.Hide
import Derived.Outline
import Derived.OwnWalk
import Derived.BigQuiet
import Derived.RegionTactic
import Derived.Deep.QuietTactic
namespace Go.Proofs.Ytgmcikajhnnaaaa
open Go.RowKit

theorem KT.slis {T base : Nat} {w w' : World} {vs : List Value} {P : List (List Rc)} (h : Slis base w vs P) (k : KT T w w') (hb : T < base) : Slis base w' vs P :=
  ⟨h.1, fun j hj => by obtain ⟨x, h1, h2⟩ := h.2 j hj; exact ⟨x, h1, KT.row h2 k hb⟩⟩

theorem row_grown {base sz n : Nat} {e : TypeId} {w w5 : World} {v : Value} {cs : List Value} {row : Option Nat} (h : w.ownsRow base e sz v n cs) (hg : w.grownBy w5 row) (hne : ∀ g, v.ownBlock = some g → row ≠ some g) : w5.ownsRow base e sz v n cs := by
  have h0 := h
  refine ⟨h.1, ?_⟩
  rcases h.2 with h2 | ⟨g, cap, cur, hv, hb, hh, r⟩
  · exact Or.inl h2
  · have hob : v.ownBlock = some g := by rw [hv]; rfl
    refine Or.inr ⟨g, cap, cur, hv, hb, ?_, r⟩
    rw [hg.block g (World.ownsRow.lt h0 g hob).2 (fun e => hne g hob e.symm)]
    exact hh

/-- Rows of two types lie in two blocks. -/
theorem rows_apart {b1 b2 s1 s2 n1 n2 : Nat} {e1 e2 : TypeId} {w : World} {v1 v2 : Value} {c1 c2 : List Value} (h1 : w.ownsRow b1 e1 s1 v1 n1 c1) (h2 : w.ownsRow b2 e2 s2 v2 n2 c2) (he : e1 ≠ e2) : ∀ g, v1.ownBlock = some g → v2.ownBlock ≠ some g := by
  intro g hg1 hg2
  rcases h1.2 with ⟨rfl, _⟩ | ⟨g1, cap1, cur1, rfl, _, hh1, _⟩
  · cases hg1
  · rcases h2.2 with ⟨rfl, _⟩ | ⟨g2, cap2, cur2, rfl, _, hh2, _⟩
    · cases hg2
    · injection hg1 with hg1
      injection hg2 with hg2
      subst hg1
      have e : g2 = g1 := hg2
      rw [e, hh1] at hh2
      injection hh2 with hh2
      injection hh2 with _ hh3 _
      exact he hh3

theorem Slis.grown {base b2 s2 n2 : Nat} {e2 : TypeId} {w w5 : World} {vs : List Value} {P : List (List Rc)} {v2 : Value} {c2 : List Value} (h : Slis base w vs P) (h2 : w.ownsRow b2 e2 s2 v2 n2 c2) (he : 73 ≠ e2) (hg : w.grownBy w5 v2.ownBlock) : Slis base w5 vs P :=
  ⟨h.1, fun j hj => by obtain ⟨x, h3, h4⟩ := h.2 j hj; exact ⟨x, h3, row_grown h4 hg (rows_apart h4 h2 he)⟩⟩

theorem KT.grown {T : Nat} {u w w5 : World} {row : Option Nat} (h : KT T u w) (hg : w.grownBy w5 row) (hrow : ∀ k, row = some k → u.heap.size ≤ k) : KT T u w5 :=
  ⟨hg.os.trans h.os, hg.tape.trans h.tape, hg.output.trans h.output, Nat.le_trans h.size hg.size, fun q h1 h2 => (hg.block q (Nat.lt_of_lt_of_le h1 h.size) (fun e => by have := hrow q e.symm; omega)).trans (h.block q h1 h2)⟩

theorem Tak.grown {T p : Nat} {t : ByteArray} {w w5 : World} {row : Option Nat} (h : Tak T t p w) (hg : w.grownBy w5 row) (hne : row ≠ some T) : Tak T t p w5 := by
  have hl := h.lt
  unfold Tak at *
  rw [hg.block T hl (fun e => hne e.symm)]; exact h

/-- What decode answers. -/
def DecP (T : Nat) (w : World) (D : Option (List Rc)) (r : Ending) (w' : World) : Prop :=
  KT T w w' ∧ (∀ l, D = some l → ∃ v, r = .returned (.tuple #[v, .int .i64 0, .int .i64 0]) ∧ OwnR w.heap.size w' v l) ∧
    (D = none → ∃ pl er : Int, r = .returned (.tuple #[.slice none 0 0, .int .i64 pl, .int .i64 er]) ∧ er ≠ 0)

theorem dec_no {T : Nat} {w w' : World} {D : Option (List Rc)} {r : Ending} (pl er : Int) (hD : D = none) (hr : r = .returned (.tuple #[.slice none 0 0, .int .i64 pl, .int .i64 er])) (hne : er ≠ 0) (k : KT T w w') : DecP T w D r w' :=
  ⟨k, fun l h => (by rw [hD] at h; cases h), fun _ => ⟨pl, er, hr, hne⟩⟩

theorem dec_ok {T : Nat} {w w' : World} {D : Option (List Rc)} {r : Ending} {v : Value} {l : List Rc} (hD : D = some l) (hr : r = .returned (.tuple #[v, .int .i64 0, .int .i64 0])) (ho : OwnR w.heap.size w' v l) (k : KT T w w') : DecP T w D r w' :=
  ⟨k, fun l' h => (by rw [hD] at h; injection h with h; subst h; exact ⟨v, hr, ho⟩), fun h => by rw [hD] at h; cases h⟩

/-- What the days tell. -/
def finT (tot : Option (List (List Rc) × List UInt8)) : Option (List Rc) := match tot with | some (P, []) => some (normV P.flatten) | _ => none

theorem dec_whole {u : List UInt8} {a b : Int} (h : wholeV u = some (a, b)) : decT u = finT (rdDays (daysV a b) (u.drop 6)) ∧ 0 ≤ a ∧ a < b ∧ b ≤ 40320 := by
  match u, h with
  | h_ :: d :: a1 :: a2 :: b1 :: b2 :: u, h =>
    have h' : (if h_ = 72 ∧ d = 68 ∧ val a1 a2 < val b1 b2 ∧ val b1 b2 ≤ 40320 then some (val a1 a2, val b1 b2) else none) = some (a, b) := h
    by_cases hc : h_ = 72 ∧ d = 68 ∧ val a1 a2 < val b1 b2 ∧ val b1 b2 ≤ 40320
    · rw [if_pos hc] at h'
      injection h' with h'
      injection h' with e1 e2
      subst e1 e2
      refine ⟨?_, (val_bd a1 a2).1, hc.2.2.1, hc.2.2.2⟩
      rw [decT, if_pos hc]
      rfl
    · rw [if_neg hc] at h'; cases h'

theorem dec_whole_no {u : List UInt8} (h : wholeV u = none) : decT u = none := by
  match u with
  | [] | [_] | [_, _] | [_, _, _] | [_, _, _, _] | [_, _, _, _, _] => rfl
  | h_ :: d :: a1 :: a2 :: b1 :: b2 :: u =>
    have h' : (if h_ = 72 ∧ d = 68 ∧ val a1 a2 < val b1 b2 ∧ val b1 b2 ≤ 40320 then some (val a1 a2, val b1 b2) else none) = none := h
    by_cases hc : h_ = 72 ∧ d = 68 ∧ val a1 a2 < val b1 b2 ∧ val b1 b2 ≤ 40320
    · rw [if_pos hc] at h'; cases h'
    · rw [decT, if_neg hc]

theorem rest_drop (t : ByteArray) (p : Nat) : rest t p = (rest t 0).drop p := rfl

/-- What is known of what the days tell. -/
theorem days_tell {a b : Int} {u v : List UInt8} {P : List (List Rc)} (ha : 0 ≤ a) (hab : a < b) (hb : b ≤ 40320) (h : rdDays (daysV a b) u = some (P, v)) :
    (checkV P.flatten).2 = 0 ∧ nrmV P.flatten = normV P.flatten ∧ P.flatten.length ≤ 40320 ∧ P.length = (daysV a b).length := by
  have hch := chn_daysV (a := a) (b := b) (by omega)
  have hs := rdDays_sound _ _ _ _ _ _ hch ha hb h
  have ht := (all_tl _ _ _ _ hch hs.1).1
  have hk := kinds_ge _ _ ht
  have hsh := ht.short
  have hlen : ∀ (ss : List (Int × Int)) (P : List (List Rc)), AllV ss P → P.length = ss.length := by
    intro ss
    induction ss with
    | nil => intro P h; cases P with
      | nil => rfl
      | cons _ _ => cases h
    | cons s ss ih => intro P h; cases P with
      | nil => cases h
      | cons R P => rw [List.length_cons, List.length_cons, ih P h.2]
  exact ⟨by rw [tl_check ht], nrm_ok ht, by omega, hlen _ _ hs.1⟩

theorem rdDays_drop {ds : List (Int × Int)} {k : Nat} {x y : Int} (u : List UInt8) (h : k < ds.length) (hr : ds.getD k (0, 0) = (x, y)) : rdDays (ds.drop k) u = (rdDay x y u).bind fun q => (rdDays (ds.drop (k + 1)) q.2).map fun r => (q.1 :: r.1, r.2) := by
  have e : ds.drop k = (x, y) :: ds.drop (k + 1) := by
    rw [List.drop_eq_getElem_cons h]
    congr 1
    rw [List.getD_eq_getElem?_getD, List.getElem?_eq_getElem h] at hr
    simpa using hr
  rw [e]
  rfl

theorem one_news_v {w : World} {n : Nat} (hn : n = w.heap.size) {x : Value} {t : TypeId} : ∀ j u, ([x] : List Value)[j]? = some u → (w.alloc (.cells #[x] t)).cell? ((⟨n, 0, none⟩ : Addr).add j) = some u := by
  intro j u hj
  subst hn
  match j, hj with
  | 0, hj => simp at hj; subst hj; simp [Addr.add]
  | j + 1, hj => simp at hj

set_option maxRecDepth 100000 in
set_option maxHeartbeats 4000000 in
theorem decode_any (T : Nat) (t : ByteArray) (w : World) (hT : Tak T t 0 w) (ht : t.size ≤ 1000000) :
    Calls Try.prog 33 #[.pointer (some ⟨T, 0, none⟩)] w fun r w' => DecP T w (decT (rest t 0)) r w' := by
  obtain ⟨i1, hj, hy0, hy1, hy2⟩ := info_parts info_recs
  have hTl := hT.lt
  have WA := whole_any T t w hT ht
  cases hw : wholeV (rest t 0) with
  | none =>
    have HN := Lib.hid (dec_whole_no hw)
    rw [HN.out]
    have WA2 := WA.mono (R' := fun r w' => ∃ pl er : Int, r = .returned (.tuple #[.agg #[.int .i64 0, .int .i64 0], .int .i64 pl, .int .i64 er]) ∧ (er != 0) = true ∧ KT T w w') fun r w' h => (by
      obtain ⟨k, _, hn⟩ := h
      obtain ⟨pl, er, h1, h2⟩ := hn hw
      exact ⟨pl, er, h1, by simpa using h2, k⟩)
    clear WA hw HN hT
    go_enter Try.func33, Try.ntmps33
    go_wp2_with (go_at_call 44; (with_reducible refine WA2.mono ?_); rintro r1 w1 ⟨pl, er, rfl, hne, hk1⟩)
    go_ret3
    exact dec_no pl er rfl rfl (by simpa using hne) (hk1.alloc _)
  | some q =>
    obtain ⟨a, b⟩ := q
    have hdw := dec_whole hw
    rw [← rest_drop] at hdw
    obtain ⟨hde, ha, hab, hb⟩ := hdw
    rw [hde]
    have WA2 := WA.mono (R' := fun r w' => r = .returned (.tuple #[.agg #[.int .i64 a, .int .i64 b], .int .i64 0, .int .i64 0]) ∧ Tak T t 6 w' ∧ KT T w w') fun r w' h => (by
      obtain ⟨k, hy, _⟩ := h
      exact ⟨(hy a b hw).1, (hy a b hw).2, k⟩)
    have DY := fun W => days_any a b W ha (by omega) hb (by omega)
    have hfew := days_few (b - a).toNat a b (by omega)
    rw [show days (b - a).toNat a b = daysV a b from rfl] at hfew
    have HCH := Lib.hid (chn_mem (chn_daysV (a := a) (b := b) (by omega)))
    have HTELL := Lib.hid fun (P : List (List Rc)) (v : List UInt8) (h : rdDays (daysV a b) (rest t 6) = some (P, v)) => days_tell ha hab hb h
    obtain ⟨tot, htot⟩ : ∃ tot, rdDays (daysV a b) (rest t 6) = tot := ⟨_, rfl⟩
    rw [htot] at HTELL ⊢
    have HTOT := Lib.hid htot
    obtain ⟨ds, hds⟩ : ∃ ds, daysV a b = ds := ⟨_, rfl⟩
    rw [hds] at DY hfew HCH HTELL HTOT
    obtain ⟨N, hN⟩ : ∃ N, ds.length = N := ⟨_, rfl⟩
    rw [hN] at hfew
    have hN30 : N ≤ 30 := by omega
    have HN := Lib.hid hN
    have DY2 : ∀ W, Calls Try.prog 22 #[.agg #[.int .i64 a, .int .i64 b]] W fun e w' => ∃ A2 c2, e = .returned (.slice A2 N c2) ∧ Own W.heap.size w' (.slice A2 N c2) ds ∧ Below W.heap.size W w' := fun W => (DY W).mono fun e w' ⟨v, he, ho, hb⟩ => by
      obtain ⟨A2, c2, hv, _, _, _⟩ := ho.form
      rw [HN.out] at hv
      exact ⟨A2, c2, by rw [he, hv], by rw [← hv]; exact ho, hb⟩
    clear WA hw hT DY hde htot hds hN hfew
    go_enter Try.func33, Try.ntmps33
    go_wp2_with (first
      | (go_at_call 44; (with_reducible refine WA2.mono ?_); rintro r1 w1 ⟨rfl, ht1, hk1⟩; have HT1 := Lib.hid (Tak.alloc ht1 (.cells #[.int .i64 a, .int .i64 b] 45)); have HK1 := Lib.hid (hk1.alloc (.cells #[.int .i64 a, .int .i64 b] 45)); have hz1 := hk1.size; clear ht1 hk1)
      | (go_at_call 22; (with_reducible refine (DY2 _).mono ?_); rintro r2 w2 ⟨A2, c2, rfl, ho2, hb2⟩; have HT2 := Lib.hid (HT1.out.below hb2); have HK2 := Lib.hid (HK1.out.cl hb2); have HO2 := Lib.hid (Own.more (base' := T + 1) ho2 (by simp; omega)); have hz2 := hb2.size; clear ho2 hb2))
    clear WA2 DY2 HT1 HK1
    go_loopw [8, 31] (fun v8 i wr => ∃ (k p' : Nat) (vs : List Value) (P : List (List Rc)) (A8 : Option Addr) (c8 : Nat), k ≤ N ∧ i = .int .i64 k ∧ v8 = .slice A8 k c8 ∧ Hid (vs.length = k) ∧ Hid (((rdDays (ds.drop k) (rest t p')).map fun q => (P ++ q.1, q.2)) = tot) ∧
        Hid (OwnL (w.heap.size) wr (.slice A8 k c8) vs) ∧ Hid (Slis (T + 1) wr vs P) ∧ Hid (Own (T + 1) wr (.slice A2 N c2) ds) ∧ Hid (Tak T t p' wr) ∧ Hid (KT T w wr)) (fun _ i _ => N - (intOf i).toNat)
    case atStart => exact ⟨0, 6, [], [], none, 0, Nat.zero_le _, rfl, rfl, Lib.hid rfl, Lib.hid (by rw [List.drop_zero, HTOT.out]; cases tot <;> rfl), Lib.hid (OwnL.nil _ _), Lib.hid (Slis.nil _ _), HO2, HT2, HK2⟩
    case round =>
      clear HO2 HT2 HK2 HTOT
      obtain ⟨k, p', vs, P, A8, c8, hk, rfl, rfl, HV, HQ, HL, HS, HO, HT, HK⟩ := hrel
      have hzr := HK.out.size
      by_cases hlt : k < N
      · obtain ⟨bo, off, x, y, rfl, hbo, hc0, hc1, hxy⟩ := (own_rd HO.out).at_ (k := k) (by rw [HN.out]; exact hlt)
        have hch := HCH.out k (by rw [HN.out]; exact hlt)
        rw [hxy.out] at hch
        obtain ⟨hch1, hch2, hch3, hch4⟩ := hch
        dsimp only at hch1 hch2 hch3 hch4
        have hq := HQ.out
        rw [rdDays_drop _ (by rw [HN.out]; exact hlt) hxy.out] at hq
        have RA := fun W (h : Tak T t p' W) => readDay_any T p' x y t W h (by omega) hch2 (by omega) hch4 ht
        obtain ⟨o, ho⟩ : ∃ o, rdDay x y (rest t p') = o := ⟨_, rfl⟩
        rw [ho] at hq RA
        have HT2 := Lib.hid (HT.out.alloc (.cells #[.int .i64 x, .int .i64 y] 45))
        have HK2 := Lib.hid (HK.out.alloc (.cells #[.int .i64 x, .int .i64 y] 45))
        clear ho hch1 hch2 hch3 hch4 HQ
        cases o with
        | none =>
          have HNO := Lib.hid (show finT tot = none by rw [← hq]; rfl)
          have RA2 := fun W h => (RA W h).mono (R' := fun r W' => ∃ (v : Value) (pl er : Int), r = .returned (.tuple #[v, .int .i64 pl, .int .i64 er]) ∧ (er != 0) = true ∧ KT T W W') fun r W' ⟨hk, _, hn⟩ => (by obtain ⟨v, pl, er, h1, h2⟩ := hn rfl; exact ⟨v, pl, er, h1, by simpa using h2, hk⟩)
          clear RA hq
          go_wp2_with (go_at_call 47; (with_reducible refine (RA2 _ HT2.out).mono ?_); rintro r3 w3 ⟨v3, pl, er, rfl, hne, hk3⟩)
          go_ret3
          exact dec_no pl er HNO.out rfl (by simpa using hne) (HK2.out.trans hk3)
        | some q =>
          obtain ⟨R, u⟩ := q
          have hq' : ((rdDays (ds.drop (k + 1)) u).map fun q => (P ++ [R] ++ q.1, q.2)) = tot := by
            rw [← hq]
            show _ = Option.map _ (Option.map _ _)
            rw [Option.map_map]
            congr 1
            funext q
            simp
          have HQ2 := Lib.hid hq'
          have RA2 := fun W h => (RA W h).mono (R' := fun r W' => ∃ (A3 : Option Addr) (m c3 p2 : Nat), r = .returned (.tuple #[.slice A3 m c3, .int .i64 0, .int .i64 0]) ∧ OwnR W.heap.size W' (.slice A3 m c3) R ∧ Tak T t p2 W' ∧ rest t p2 = u ∧ KT T W W') fun r W' ⟨hk, hy, _⟩ => (by
            obtain ⟨v, p2, h1, h2, h3, h4⟩ := hy R u rfl
            obtain ⟨A3, c3, hv, _, _⟩ := h2.read
            subst hv
            exact ⟨A3, _, c3, p2, h1, h2, h3, h4, hk⟩)
          have HS2 := Lib.hid (HS.out.below ((Below.refl _ _).alloc (Nat.le_refl _) (.cells #[.int .i64 x, .int .i64 y] 45)))
          have HL2 := Lib.hid (show (wr.alloc (.cells #[.int .i64 x, .int .i64 y] 45)).ownsRow w.heap.size 29 1 (.slice A8 k c8) k vs from by have h := HL.out; unfold OwnL at h; rw [HV.out] at h; exact World.ownsRow.alloc h _)
          have HO2 := Lib.hid (HO.out.alloc (.cells #[.int .i64 x, .int .i64 y] 45))
          have hvl : vs.length ≤ 30 := by rw [HV.out]; omega
          clear RA hq hq' HS HL HO HT HK
          go_wp2_with (first
            | (go_at_call 47; (with_reducible refine (RA2 _ HT2.out).mono ?_); rintro r3 w3 ⟨A3, m, c3, p2, rfl, ho3, ht3, hr3, hk3⟩; have HK3 := Lib.hid (HK2.out.trans hk3); have HS3 := Lib.hid (KT.slis HS2.out hk3 (Nat.lt_succ_self T)); have HL3 := Lib.hid (KT.row HL2.out hk3 hTl); have HO3 := Lib.hid (KT.row HO2.out hk3 (Nat.lt_succ_self T)); have HR3 := Lib.hid (OwnR.more (base' := T + 1) ho3 (by simp; omega)); have HT3 := Lib.hid ht3; have HE3 := Lib.hid hr3; have hz3 := HK3.out.size; clear ho3 ht3 hr3 hk3)
            | (at_builtin; refine wpList_append_own _ rfl _ _ 82 rfl w.heap.size 29 i1 (.slice none 0 0) 1 24 Try.underlying82 hj hy0 hy1 hy2 rfl (by decide) _ k _ rfl (World.ownsRow.alloc HL3.out _) ⟨w3.heap.size, 0, none⟩ 1 1 [.slice A3 m c3] rfl rfl (one_news_v rfl) (by intro u hu; simp at hu; subst hu; rfl) (by unfold maxLen; omega) (by omega) (by simp; omega) ?_; intro v5 w5 hown5 hgrow5 _; have HL5 := Lib.hid hown5; have HG5 := Lib.hid (show (w3.alloc (.cells #[.slice A3 m c3] 29)).grownBy w5 (Value.slice A8 k c8).ownBlock from hgrow5); clear hown5 hgrow5))
          obtain ⟨A5, c5, rfl, _, _⟩ := row_form HL5.out
          have hrow : ∀ q, (Value.slice A8 k c8).ownBlock = some q → w.heap.size ≤ q := fun q e => (World.ownsRow.lt HL3.out q e).1
          have hg5 := HG5.out
          have hla := World.ownsRow.alloc HL3.out (.cells #[.slice A3 m c3] 29)
          have HS5 := Lib.hid (Slis.grown ((HS3.out.snoc HR3.out).below ((Below.refl _ _).alloc (Nat.le_refl _) (.cells #[.slice A3 m c3] 29))) hla (by decide) hg5)
          have HO5 := Lib.hid (show Own (T + 1) w5 (.slice (some ⟨bo, off, none⟩) N c2) ds from row_grown (World.ownsRow.alloc HO3.out (.cells #[.slice A3 m c3] 29)) hg5 (rows_apart (World.ownsRow.alloc HO3.out (.cells #[.slice A3 m c3] 29)) hla (by decide)))
          have HT5 := Lib.hid (Tak.grown (HT3.out.alloc (.cells #[.slice A3 m c3] 29)) hg5 (fun e => by have := hrow T e; omega))
          have HK5 := Lib.hid ((HK3.out.alloc (.cells #[.slice A3 m c3] 29)).grown hg5 hrow)
          have HV5 := Lib.hid (show (vs ++ [Value.slice A3 m c3]).length = k + 1 by rw [List.length_append, HV.out]; rfl)
          go_roundw
          case rel => exact ⟨k + 1, p2, vs ++ [.slice A3 m c3], P ++ [R], A5, c5, by omega, by go_num, rfl, HV5, Lib.hid (by rw [HE3.out]; exact HQ2.out), Lib.hid (by unfold OwnL; rw [HV5.out]; exact HL5.out), HS5, HO5, HT5, HK5⟩
          case measure => simp [intOf]; omega
      · have hkN : k = N := by omega
        have HTE : Hid (tot = some (P, rest t p')) := Lib.hid (by
          rw [← HQ.out, List.drop_of_length_le (by rw [HN.out]; omega)]
          simp [rdDays])
        have htl := HTELL.out P (rest t p') HTE.out
        obtain ⟨ht1, ht2, ht3, ht4⟩ := htl
        rw [HN.out] at ht4
        subst hkN
        obtain ⟨A9, c9, hv9, hrl⟩ := HL.out.read
        injection hv9 with e1 e2 e3
        rw [← e1] at hrl
        have JN := fun W (h1 : RdL W A8 vs) (h2 : Slis (T + 1) W vs P) => join_of (concatL_any A8 c8 k (T + 1) vs P W h1 h2 ht4 (by omega) (by omega)) (by omega)
        rw [ht1, ht2] at JN
        have HRL := Lib.hid hrl
        have d0 := HT.out.c0
        have d1 := HT.out.c1
        obtain ⟨r0, hr0⟩ : ∃ r0, rest t p' = r0 := ⟨_, rfl⟩
        rw [hr0] at HTE
        have hwz := HK.out.size
        cases r0 with
        | nil =>
          have hsz := rest_nil hr0
          have hsz2 : (t.size : Int) ≤ (p' : Int) := by omega
          have HD := Lib.hid (show finT tot = some (normV P.flatten) by rw [HTE.out]; rfl)
          obtain ⟨NF, hNF⟩ : ∃ NF, normV P.flatten = NF := ⟨_, rfl⟩
          rw [hNF] at JN HD
          clear e1 e2 e3 hrl ht1 ht2 ht3 ht4 hr0 HTE hNF HQ HL HO HTELL
          go_wp2
          go_quiet (fail)
          go_wp2_with (go_at_call 48; (with_reducible refine (JN _ (HRL.out.below (b_dn (Below.refl _ _))) (HS.out.below (b_dn (Below.refl _ _)))).mono ?_); rintro r3 w3 ⟨v3, rfl, ho3, hb3⟩; have HO3 := Lib.hid ho3; clear ho3)
          go_ret3
          exact dec_ok HD.out rfl (OwnR.more HO3.out (by simpa using hwz)) (HK.out.dn.cl hb3)
        | cons z u2 =>
          have hsz := (rest_one hr0).1
          have hsz2 : (p' : Int) < (t.size : Int) := by omega
          have HD := Lib.hid (show finT tot = none by rw [HTE.out]; rfl)
          clear e1 e2 e3 hrl ht1 ht2 ht3 ht4 hr0 HTE HQ HL HO HTELL JN
          go_wp2
          go_quiet (fail)
          go_wp2
          go_quiet (fail)
          go_wp2
          go_ret3
          exact dec_no (p' : Int) 7 HD.out rfl (by decide) HK.out.dn.dn

/-- What Decode answers. -/
def DecodeP (s : ByteArray) (w : World) (r : Ending) (w' : World) : Prop :=
  Below w.heap.size w w' ∧ ((openV s).2 ≠ 0 → ∃ pl : Int, r = .returned (.tuple #[.slice none 0 0, .int .i64 pl, .int .i64 (openV s).2])) ∧
    ((openV s).2 = 0 → (∀ l, decT (openV s).1.data.toList = some l → ∃ v, r = .returned (.tuple #[v, .int .i64 0, .int .i64 0]) ∧ OwnR w.heap.size w' v l) ∧
      (decT (openV s).1.data.toList = none → ∃ pl er : Int, r = .returned (.tuple #[.slice none 0 0, .int .i64 pl, .int .i64 er]) ∧ er ≠ 0))

theorem open_is (s : ByteArray) : ((openV s).2 = 0 ∧ (openV s).1.size ≤ s.size) ∨ (openV s).2 = 8 ∨ ((openV s).2 = 9 ∧ 2 ≤ s.size) := by
  unfold openV
  split
  · exact .inr (.inl rfl)
  · split
    · refine .inl ⟨rfl, ?_⟩
      show (s.extract 0 (s.size - 2)).size ≤ s.size
      rw [ByteArray.size_extract]; omega
    · exact .inr (.inr ⟨rfl, by omega⟩)

set_option maxRecDepth 20000 in
set_option maxHeartbeats 1000000 in
theorem dec_any (s : ByteArray) (w : World) (hs : s.size ≤ 1000000) :
    Calls Try.prog 12 #[.string s] w fun r w' => DecodeP s w r w' := by
  have O := fun W => open_any s W (by omega)
  unfold DecodeP
  rcases open_is s with ⟨he, hz⟩ | he | ⟨he, hz⟩
  · rw [he] at O ⊢
    obtain ⟨t, ht⟩ : ∃ t, (openV s).1 = t := ⟨_, rfl⟩
    rw [ht] at O hz ⊢
    have DD := fun T W (h : Tak T t 0 W) => decode_any T t W h (by omega)
    clear ht he
    cases hd : decT t.data.toList with
    | none =>
      have DD2 := fun T W h => (DD T W h).mono (R' := fun r w' => ∃ pl er : Int, r = .returned (.tuple #[.slice none 0 0, .int .i64 pl, .int .i64 er]) ∧ er ≠ 0 ∧ KT T W w') fun r w' ⟨k, _, hn⟩ => (by obtain ⟨pl, er, h1, h2⟩ := hn hd; exact ⟨pl, er, h1, h2, k⟩)
      clear DD hd
      go_enter Try.func12, Try.ntmps12
      go_wp2_with (first
        | (go_at_call 32; (with_reducible refine (O _).mono ?_); rintro r1 w1 ⟨rfl, hb1⟩; have HT1 := Lib.hid (show Tak w1.heap.size t 0 (w1.alloc (.cells #[.string t, .int .i64 0] 70)) from heap_alloc_new w1 _); have hz1 := hb1.size)
        | (go_at_call 33; (with_reducible refine (DD2 _ _ HT1.out).mono ?_); rintro r2 w2 ⟨pl, er, rfl, hne, hk2⟩))
      go_ret3
      exact ⟨(hb1.alloc hz1 _).trans (hk2.below hz1 (by simp; omega)), fun h => absurd rfl h, fun _ => ⟨fun l h => (by cases h), fun _ => ⟨pl, er, rfl, hne⟩⟩⟩
    | some l =>
      have DD2 := fun T W h => (DD T W h).mono (R' := fun r w' => ∃ v, r = .returned (.tuple #[v, .int .i64 0, .int .i64 0]) ∧ OwnR W.heap.size w' v l ∧ KT T W w') fun r w' ⟨k, hy, _⟩ => (by obtain ⟨v, h1, h2⟩ := hy l hd; exact ⟨v, h1, h2, k⟩)
      clear DD hd
      go_enter Try.func12, Try.ntmps12
      go_wp2_with (first
        | (go_at_call 32; (with_reducible refine (O _).mono ?_); rintro r1 w1 ⟨rfl, hb1⟩; have HT1 := Lib.hid (show Tak w1.heap.size t 0 (w1.alloc (.cells #[.string t, .int .i64 0] 70)) from heap_alloc_new w1 _); have hz1 := hb1.size)
        | (go_at_call 33; (with_reducible refine (DD2 _ _ HT1.out).mono ?_); rintro r2 w2 ⟨v, rfl, ho2, hk2⟩; have HO2 := Lib.hid ho2; clear ho2))
      go_ret3
      refine ⟨(hb1.alloc hz1 _).trans (hk2.below hz1 (by simp; omega)), fun h => absurd rfl h, fun _ => ⟨fun l' h => ?_, fun h => by cases h⟩⟩
      injection h with h
      subst h
      exact ⟨v, rfl, OwnR.more HO2.out (by simp; omega)⟩
  · rw [he] at O ⊢
    generalize (openV s).1 = t at O ⊢
    clear he
    go_enter Try.func12, Try.ntmps12
    go_wp2_with (go_at_call 32; (with_reducible refine (O _).mono ?_); rintro r1 w1 ⟨rfl, hb1⟩)
    go_ret3
    exact ⟨hb1, fun _ => ⟨_, rfl⟩, fun h => absurd h (by decide)⟩
  · rw [he] at O ⊢
    generalize (openV s).1 = t at O ⊢
    clear he
    go_enter Try.func12, Try.ntmps12
    go_wp2_with (go_at_call 32; (with_reducible refine (O _).mono ?_); rintro r1 w1 ⟨rfl, hb1⟩)
    go_ret3
    exact ⟨hb1, fun _ => ⟨_, rfl⟩, fun h => absurd h (by decide)⟩

end Go.Proofs.Ytgmcikajhnnaaaa
