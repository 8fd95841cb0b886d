/- What Visits of layer 20 returns. Conditions: the tasks and records can be read. -/
import Derived.Test.YthiiipbfdgaemaaRows
import Derived.Test.YthiiipbfdgaemaaZ1
import Derived.Test.YthiiipbfdgaemaaZ2
import Derived.Test.YthiiipbfdgaemaaErrandPast
import Derived.Test.YthiiipbfdgaemaaErrandFits
import Derived.Test.YthiiipbfdgaemaaErrandSpot
import Derived.Test.YthiiipbfdgaemaaErrandLeftC
import Derived.Test.YthiiipbfdgaemaaErrandOverC
import Derived.Test.YthiiipbfdgaemaaZ4
import Derived.Test.YthiiipbfdgaemaaTrailLeaf
import Derived.Test.YthiiipbfdgaemaaTrailFollow
import Derived.Test.YthiiipbfdgaemaaTrailVis
import Derived.Test.YthiiipbfdgaemaaTrailVisit
import Derived.WalkKit
import Derived.WalkSpells
import Derived.WalkSmall
import Derived.Below
import Derived.Lib.Hide
import Derived.Outline
import Derived.Deep.DeepCutAuto
import Derived.OwnWalk
import Derived.BigQuiet
import Derived.Deep.QuietTactic
import Derived.Deep.LoopGhost
import Derived.WalkMore
import Derived.OrdersHeld
import Derived.Deep.RegionHeld3
namespace Go.Proofs.Ythiiipbfdgaemaa
open Go.RowKit

theorem pc_spot {l : List Tk} (ok : ∀ t ∈ l, TkOk t) {s s' : Pt} (h : Fits l s) {n : Nat} (hp : Pc l s 2 n) {m : Int} (hm : 0 ≤ m) {f : Fs} (hr : runK l 2 n m (s, none4) = (s', f)) : s = s' ∨ (s.1 = s'.1 ∧ s.2.1 = s'.2.1 ∧ ¬ s.2.2 = s'.2.2) ∨ s.1 < s'.1 := by
  have := pc_run ok h hp hm
  rw [hr] at this
  have e1 : s' = (pcV l s 2 n m).1 := by rw [← this]
  unfold pcV at e1
  rw [if_neg (fun c => absurd c.1 (by decide))] at e1
  by_cases hw : CanW l s
  · rw [if_pos ⟨rfl, hw⟩] at e1
    simp only at e1
    by_cases hf : Full l (s.1, s.2.1, s.2.2 + (n : Int))
    · right; right
      have := pastT_full hf
      rw [← e1] at this
      exact this
    · right; left
      rw [pastT_still hf] at e1
      have := hp.1
      rw [e1]
      exact ⟨rfl, rfl, by simp only; omega⟩
  · rw [if_neg (fun c => hw c.2)] at e1
    exact .inl e1.symm

/-- What the function of Visits keeps, behind i minutes. -/
def VisI (base B Z L : Nat) (l : List Tk) (ks : List Int) (m0 : Int) (s0 : Pt) (i : Nat) (W : World) : Prop :=
  ∃ (s : Pt) (b : Int) (o : List Vt) (g : Vt), visS l (ks.take i) m0 (s0, -1, []) = (s, b, o) ∧ JV s b g ∧ VisS base B Z L g o W

theorem vis20_any {l : List Tk} (ok : ∀ t ∈ l, TkOk t) (base B Z L : Nat) (k a b : Int) (s s' : Pt) (f : Fs) (g : Vt) (o : List Vt) (W : World) (h : VisS base B Z L g o W) (fit : Fits l s) {n : Nat} (hp : Pc l s k n) (ha : 0 ≤ a) (hr : runK l k n a (s, none4) = (s', f))
    {q : Int} (hj : JV s q g) (hlen : o.length ≤ 100000) :
    Calls Try.prog 33 #[.agg (pc13 k a b s s' f), .pointer (some ⟨B, 0, none⟩), .pointer (some ⟨Z, 0, none⟩), .pointer (some ⟨L, 0, none⟩)] W fun e W' => e = .returned (.tuple #[]) ∧ VisS base B Z L (pieceV k a b s s' g o).1 (pieceV k a b s s' g o).2 W' ∧ KpT 49 base B L W W' := by
  obtain ⟨s1, s2, s3⟩ := s
  obtain ⟨t1, t2, t3⟩ := s'
  by_cases hk : k = 2
  · have hs := fit.1
    simp only at hs
    have hc : s1 = t1 ∧ s2 = t2 ∧ s3 = t3 ∨ (s1 = t1 ∧ s2 = t2 ∧ ¬ s3 = t3) ∨ s1 < t1 := by
      subst hk
      rcases pc_spot ok fit hp ha hr with c | c | c
      · injection c with c1 c2; injection c2 with c2 c3; exact .inl ⟨c1, c2, c3⟩
      · exact .inr (.inl c)
      · exact .inr (.inr c)
    rcases hc with ⟨c1, c2, c3⟩ | ⟨c1, c2, c3⟩ | c
    · exact vis20_same base B Z L k a b s1 s2 s3 t1 t2 t3 f g o W h c1 c2 c3 hk
    · by_cases h0 : s3 = 0
      · exact vis20_first base B Z L k a b s1 s2 s3 t1 t2 t3 f g o W h c1 c2 c3 hk h0
      · exact vis20_on base B Z L k a b s1 s2 s3 t1 t2 t3 f g o W h c1 c2 c3 hk h0
    · by_cases h0 : s3 = 0
      · exact vis20_whole base B Z L k a b s1 s2 s3 t1 t2 t3 f g o W h c hk h0 hs hlen
      · have hp3 : 0 ≤ s3 := by
          by_cases he : s1 = l.length
          · have := fit.2.2.1 he; simp only at this; omega
          · have h1 := fit.2.1
            have := (fit.2.2.2 (by simp only at h1 ⊢; omega)).2.2.1
            exact this
        rcases hj (by simp only; omega) with ⟨_, hg⟩ | ⟨_, hg⟩
        · exact vis20_none base B Z L k a b s1 s2 s3 t1 t2 t3 f g o W h c hk h0 hg
        · exact vis20_rest base B Z L k a b s1 s2 s3 t1 t2 t3 f g o W h c hk h0 hs hlen q hg
  · exact vis20_other base B Z L k a b s1 s2 s3 t1 t2 t3 f g o W h hk

theorem vis_does {base B Z L n0 : Nat} {l : List Tk} {ks : List Int} {m0 : Int} {s0 : Pt} (ok : ∀ t ∈ l, TkOk t) (fit : Fits l s0) (hm : 0 ≤ m0) (hks : m0 + (ks.length : Int) ≤ 40320) (hB : n0 ≤ B) (hL : n0 ≤ L) (hb : n0 ≤ base) :
    Does 33 #[.pointer (some ⟨B, 0, none⟩), .pointer (some ⟨Z, 0, none⟩), .pointer (some ⟨L, 0, none⟩)] n0 base (VisI base B Z L l ks m0 s0) l ks m0 s0 where
  bel i W W' h hW := by
    obtain ⟨s, b, o, g, h1, h2, h3⟩ := h
    exact ⟨s, b, o, g, h1, h2, h3.below hW⟩
  upd i W W' q t old cs h hq ht hB u := by
    obtain ⟨s, b, o, g, h1, h2, h3⟩ := h
    exact ⟨s, b, o, g, h1, h2, h3.upd ht hB u hq⟩
  step i n k s F s' f W h hn hi hk hs hp hr := by
    obtain ⟨s1, b, o, g, h1, h2, h3⟩ := h
    have e1 := vis_spot l (ks.take i) m0 s0 (-1) [] none4
    rw [h1, hs] at e1
    simp only at e1
    subst e1
    have fs := runS_fits ok (ks.take i) m0 (s0, none4) fit
    rw [hs] at fs
    have hlen := vis_len l (ks.take i) m0 s0 (-1) []
    rw [h1, List.length_take] at hlen
    simp only [List.length_nil] at hlen
    obtain ⟨b', hv, hj⟩ := piece_vis ok fs hp (m := m0 + i) (by omega) hr (o := o) h2
    refine (vis20_any ok base B Z L k (m0 + i) (m0 + i + n) s1 s' f g o W h3 fs hp (by omega) hr h2 (by omega)).mono ?_
    rintro e W' ⟨rfl, hV, hK⟩
    refine ⟨rfl, ⟨s', b', _, _, ?_, hj, hV⟩, ?_⟩
    · rw [hk, visS_append, h1, List.length_take, Nat.min_eq_left (by omega)]
      exact hv
    · obtain ⟨v, hv, _⟩ := h3.bL
      exact hK.keep h3.bB hv (by rintro (h | h | h) <;> exact absurd h (by decide)) (by rintro (h | h | h) <;> exact absurd h (by decide)) (by rintro (h | h | h) <;> exact absurd h (by decide)) hb hB hL (Nat.le_trans hb h3.sz)

/-- The world in which follow is called by Visits. -/
abbrev visW (w1 : World) : World := (((w1.alloc (.cells #[.slice none 0 0] 34)).alloc (.cells #[.int .i64 (-1), .int .i64 0, .int .i64 0] 49)).alloc (.cells #[.int .i64 (-1), .int .i64 0, .int .i64 0] 49))
theorem vis_bel {n : Nat} {w1 : World} (h : n ≤ w1.heap.size) : Below n w1 (visW w1) :=
  (((Below.refl n w1).alloc h _).alloc (by simp; omega) _).alloc (by simp; omega) _
theorem vis_start (w1 : World) (l : List Tk) (ks : List Int) (m0 : Int) (s0 : Pt) : VisI (w1.heap.size + 1 + 1 + 1) (w1.heap.size + 1 + 1) (w1.heap.size + 1) (w1.heap.size) l ks m0 s0 0 (visW w1) := by
  refine ⟨s0, -1, [], (-1, 0, 0), rfl, fun _ => .inl ⟨rfl, rfl⟩, ⟨?_, ?_, ⟨.slice none 0 0, ((Bx.new (W := w1) _ _ rfl).alloc _).alloc _, OwnT.nil _ _ _⟩, by omega, by omega, by omega, by omega, by omega, by omega, by simp⟩⟩
  · exact Bx.new (W := (w1.alloc (.cells #[.slice none 0 0] 34)).alloc (.cells #[.int .i64 (-1), .int .i64 0, .int .i64 0] 49)) (g := w1.heap.size + 1 + 1) _ _ (by simp)
  · exact (Bx.new (W := w1.alloc (.cells #[.slice none 0 0] 34)) (g := w1.heap.size + 1) _ _ (by simp)).alloc _

set_option maxRecDepth 20000 in
set_option maxHeartbeats 2000000 in
theorem visits20_any (A : Option Addr) (n c : Nat) (l : List Tk) (hn : l.length = n) (i x y : Int) (A' : Option Addr) (n' c' : Nat) (r : List Rc) (hn' : r.length = n') (w : World) (h : RdK w A l) (hf : Few l) (hcn : n ≤ c) (hz : A = none → c = 0)
    (hx : -9223372036854775808 ≤ x ∧ x ≤ 9223372036854775807) (hy : -9223372036854775808 ≤ y ∧ y ≤ 9223372036854775807) (hr : RdR w A' r) (hl : n' ≤ 4611686018427387904) {vl : List Vt} {er : Int} (hV : visV l (i, x, y) r = (vl, er)) {m : Nat} (hm : vl.length = m) :
    Calls Try.prog 12 #[.slice A n c, .agg #[.int .i64 i, .int .i64 x, .int .i64 y], .slice A' n' c'] w fun e w' => ∃ A2 c2, e = .returned (.tuple #[.slice A2 m c2, .int .i64 er]) ∧ RdF w' A2 vl ∧ (A2 = none → c2 = 0) ∧ Below w.heap.size w w' := by
  by_cases he : checkE l (i, x, y) r = 0
  case neg =>
    rw [visv_bad rfl he] at hV
    injection hV with hv1 hv2
    subst hv1
    obtain rfl : m = 0 := hm.symm
    rw [hv2] at he
    have HS0 := Lib.hid (show Bx (w.alloc (.cells #[.int .i64 i, .int .i64 x, .int .i64 y] 24)) w.heap.size 24 #[.int .i64 i, .int .i64 x, .int .i64 y] from Bx.new (W := w) _ _ rfl)
    have HB0 := Lib.hid (show Below w.heap.size w (w.alloc (.cells #[.int .i64 i, .int .i64 x, .int .i64 y] 24)) by (repeat (first | exact Below.refl _ _ | (refine b_st ?_ (by first | (simp; done) | (simp; omega))) | (refine b_al ?_ (Nat.le_refl _) _) | refine b_dn ?_ | refine b_dr ?_ | (refine b_cl ?_ (Nat.le_refl _) (by assumption)))))
    have CK := fun W (h : RdK W A l) (hr : RdR W A' r) => check20_any A n c l hn i x y A' n' c' r hn' W h hf hcn hz hx hy hr hl
    have HK := Lib.hid h
    have HR := Lib.hid hr
    rw [hv2] at CK
    have hne' : (er != 0) = true := by simp [he]
    clear he hv2 h hr hn hn' hf hcn hz hx hy hm
    go_enter Try.func12, Try.ntmps12
    go_upto_region 1 with fail
    generalize (w.alloc (.cells #[.int .i64 i, .int .i64 x, .int .i64 y] 24)) = W0 at *
    go_wp2_with (first
      | (refine wpList_load_box (by rfl) 24 _ rfl (w.heap.size) rfl 24 #[.int .i64 i, .int .i64 x, .int .i64 y] _ HS0.out Try.underlying24 rfl size_spot ?_)
      | (go_at_call 22; refine (CK _ (HK.out.below HB0.out) (HR.out.below HB0.out)).mono ?_; rintro e w1 ⟨rfl, hb1⟩; have HS1 := Lib.hid (HS0.out.below hb1); have HB1 := Lib.hid (b_cl HB0.out (Nat.le_refl _) hb1); have ls1 := HS1.out.lt; clear hb1))
    go_ret2
    exact ⟨none, 0, rfl, RdF.nil _ _, fun _ => rfl, HB1.out⟩
  rw [visv_ok he] at hV
  injection hV with hv1 hv2
  subst hv2
  obtain ⟨ck, fit, tl⟩ := checkE_zero he
  obtain ⟨ok, _⟩ := checkt_zero ck
  have tb := tl.bd
  have HS0 := Lib.hid (show Bx (w.alloc (.cells #[.int .i64 i, .int .i64 x, .int .i64 y] 24)) w.heap.size 24 #[.int .i64 i, .int .i64 x, .int .i64 y] from Bx.new (W := w) _ _ rfl)
  have HB0 := Lib.hid (show Below w.heap.size w (w.alloc (.cells #[.int .i64 i, .int .i64 x, .int .i64 y] 24)) by (repeat (first | exact Below.refl _ _ | (refine b_st ?_ (by first | (simp; done) | (simp; omega))) | (refine b_al ?_ (Nat.le_refl _) _) | refine b_dn ?_ | refine b_dr ?_ | (refine b_cl ?_ (Nat.le_refl _) (by assumption)))))
  have CK := fun W (h : RdK W A l) (hr : RdR W A' r) => check20_any A n c l hn i x y A' n' c' r hn' W h hf hcn hz hx hy hr hl
  have HK := Lib.hid h
  have HR := Lib.hid hr
  rw [he] at CK
  have HN0 := Lib.hid (fun (W1 : World) (hb : Below w.heap.size w W1) => (And.intro (show RdKn w.heap.size W1 A l from ⟨w, rfl, h, hb⟩) (show RdRn w.heap.size W1 A' r from ⟨w, rfl, hr, hb⟩)))
  have eg : ∀ args w, (callFunc 33 args).run Try.prog w = .ok (.enter 33 args) w := enters_of Try.func33 (by kernel_rfl) rfl
  have CF := fun (w1 : World) (hK : RdKn w.heap.size (visW w1) A l) (hR : RdRn w.heap.size (visW w1) A' r) (h0 : w.heap.size ≤ w1.heap.size) =>
    follow20_any 33 #[.pointer (some ⟨w1.heap.size + 1 + 1, 0, none⟩), .pointer (some ⟨w1.heap.size + 1, 0, none⟩), .pointer (some ⟨w1.heap.size, 0, none⟩)] eg A n c l hn i x y A' n' c' r hn' w.heap.size (VisI (w1.heap.size + 1 + 1 + 1) (w1.heap.size + 1 + 1) (w1.heap.size + 1) (w1.heap.size) l (kindsV r) (beg r) (i, x, y)) (visW w1) hK hR (by simp; omega) hf hcn hz hl ck fit tl
      (by have hs : (visW w1).heap.size = w1.heap.size + 1 + 1 + 1 := by simp
          rw [hs]
          exact vis_does ok fit tb.1 (by omega) (by omega) (by omega) (by omega)) (vis_start w1 _ _ _ _)
  obtain ⟨sp, hsp⟩ : ∃ sp, (runS l (kindsV r) (beg r) ((i, x, y), none4)).1 = sp := ⟨_, rfl⟩
  rw [hsp] at CF
  have HVL := Lib.hid hv1
  have HM := Lib.hid hm
  clear he h hr hn hn' hf hcn hz hx hy ck fit tl ok tb eg hv1 hsp hm
  go_enter Try.func12, Try.ntmps12
  go_upto_region 1 with fail
  generalize (w.alloc (.cells #[.int .i64 i, .int .i64 x, .int .i64 y] 24)) = W0 at *
  go_upto_region 8 with (first
    | (refine wpList_load_box (by rfl) 24 _ rfl (w.heap.size) rfl 24 #[.int .i64 i, .int .i64 x, .int .i64 y] _ HS0.out Try.underlying24 rfl size_spot ?_)
    | (go_at_call 22; refine (CK _ (HK.out.below HB0.out) (HR.out.below HB0.out)).mono ?_; rintro e w1 ⟨rfl, hb1⟩; have HS1 := Lib.hid (HS0.out.below hb1); have HB1 := Lib.hid (b_cl HB0.out (Nat.le_refl _) hb1); have ls1 := HS1.out.lt; have HN1 := Lib.hid (HN0.out _ HB1.out); have HK7 := Lib.hid (HN1.out.1.below (vis_bel (by omega))); have HR7 := Lib.hid (HN1.out.2.below (vis_bel (by omega))); have HB7 := Lib.hid (show Below w.heap.size w (visW w1) from HB1.out.trans (vis_bel (by omega))); have HS7 := Lib.hid (show Bx (visW w1) (w.heap.size) 24 #[.int .i64 i, .int .i64 x, .int .i64 y] from ((HS1.out.alloc _).alloc _).alloc _); clear hb1)
    | (refine wpList_load_box (by rfl) 24 _ rfl (w.heap.size) rfl 24 #[.int .i64 i, .int .i64 x, .int .i64 y] _ HS7.out Try.underlying24 rfl size_spot ?_)
    | (go_at_call 25; refine (CF w1 HK7.out HR7.out (by omega)).mono ?_; rintro e w8 ⟨rfl, hI8, hk8⟩; have HI8 := Lib.hid hI8; have HB8 := Lib.hid (HB7.out.trans hk8.bel); clear hI8 hk8))
  obtain ⟨s9, b9, o9, g9, hv9, _, hV9⟩ := HI8.out
  obtain ⟨v3, hv3, ho3⟩ := hV9.bL
  obtain ⟨A3, c3, rfl, hrd3, hz3⟩ := ho3.read
  rw [List.take_of_length_le (Nat.le_refl _)] at hv9
  have HVL2 := Lib.hid (show o9 = vl by rw [← HVL.out, hv9])
  obtain ⟨n3, hn3⟩ : ∃ n3, o9.length = n3 := ⟨_, rfl⟩
  rw [hn3] at hv3
  have cL : w8.cell? ⟨w1.heap.size, 0, none⟩ = some (.slice A3 n3 c3) := hv3.cell rfl
  have lL := hv3.lt
  have HF := Lib.hid (show n3 = m by rw [← hn3, HVL2.out]; exact HM.out)
  have HRD := Lib.hid (show RdF w8 A3 vl by rw [← HVL2.out]; exact hrd3)
  have HZ3 := Lib.hid hz3
  clear hv9 hV9 hv3 ho3 hrd3 hn3 hz3
  go_wp2
  go_ret2
  exact ⟨A3, c3, by rw [HF.out]; rfl, HRD.out, HZ3.out, HB8.out⟩

end Go.Proofs.Ythiiipbfdgaemaa
