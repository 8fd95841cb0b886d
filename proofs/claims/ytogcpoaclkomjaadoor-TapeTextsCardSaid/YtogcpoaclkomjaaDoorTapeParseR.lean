/- What the document's own Parse of layer 10 returns. Conditions: the text has at most 900000 bytes. -/
import Derived.Test.YtogcpoaclkomjaaDoorTapeRead
import Derived.Test.YtogcpoaclkomjaaDoorTapeEach
import Derived.Test.YtogcpoaclkomjaaDoorLinesR
import Derived.WalkKit
import Derived.WalkSpells
import Derived.WalkSmall
import Derived.Below
import Derived.Outline
import Derived.OwnWalk
import Derived.Lib.Hide
namespace Go.Proofs.YtogcpoaclkomjaaDoor
open Go.RowKit

set_option maxRecDepth 20000 in
set_option maxHeartbeats 4000000 in
theorem refparse10_any (t : ByteArray) (w : World) (ht : t.size ≤ 900000) :
    Calls Tryd.prog 14 #[.string t] w fun e w' => ∃ v, e = .returned (.tuple #[v, .int .i64 ((tapeV t).2.1 : Nat), .int .i64 (tapeV t).2.2]) ∧ OwnR w.heap.size w' v (tapeV t).1 ∧ Below w.heap.size w w' := by
  obtain ⟨i0, hi, hz0, hz1, hz2⟩ := info_parts info_rec
  have CLn := fun W => reflines_any t W (by omega)
  by_cases hz : (linesV t).2.2 = 0
  · have hfl := congrArg List.length (lines_flat hz)
    rw [size_list] at hfl
    rw [tape_lines hz]
    rw [hz] at CLn
    generalize (linesV t).1 = ls at *
    obtain ⟨n, hn⟩ : ∃ n, ls.length = n := ⟨_, rfl⟩
    have CL2 : ∀ W, Calls Tryd.prog 32 #[.string t] W fun e w' => ∃ A c, e = .returned (.tuple #[.slice A n c, .int .i64 ((linesV t).2.1 : Nat), .int .i64 0]) ∧ RdT w' A ls ∧ Below W.heap.size W w' := fun W => (CLn W).mono fun e w' ⟨v, he, ho, hb⟩ => by
      obtain ⟨A, c, hv, hr, _⟩ := ho.read
      exact ⟨A, c, by rw [he, hv, hn], hr, hb⟩
    generalize (linesV t).2.1 = pl0 at CL2
    have hn2 := len_ended ls
    rw [hn] at hn2
    have hns : n ≤ 900000 := by omega
    have HP := Lib.hid fun k => place_le ls k
    have HS := Lib.hid fun k s (h1 : k < ls.length) (h2 : ls.getD k ⟨#[]⟩ = s) => line_le h1 h2
    have HN := Lib.hid hn
    obtain ⟨V, hV⟩ : ∃ V, readAll ls = V := ⟨_, rfl⟩
    have HV := Lib.hid hV
    rw [hV]
    rw [hfl] at HP HS
    clear hz hn CLn hfl hn2 hV
    go_enter Tryd.func14, Tryd.ntmps14
    go_wp2_with (go_at_call 32; refine (CL2 _).mono ?_; rintro e w1 ⟨A1, c1, rfl, hr1, hb1⟩; have HR := Lib.hid hr1; clear hr1)
    go_loopw [6, 8, 9] (fun pv ov iv wr => ∃ (k p : Nat) (A : Option Addr) (c : Nat), k ≤ n ∧ iv = .int .i64 k ∧ pv = .int .i64 p ∧ ov = .slice A k c ∧ Hid (placeL ls k = p) ∧ Hid (∀ j, j < k → lineErr ls j = 0) ∧
        Hid (OwnR w1.heap.size wr (.slice A k c) ((recsOf ls).take k)) ∧ Below w1.heap.size w1 wr) (fun _ _ iv _ => n - (intOf iv).toNat)
    case atStart => exact ⟨0, 0, none, 0, Nat.zero_le _, rfl, rfl, rfl, Lib.hid (place_zero ls), Lib.hid (by omega), Lib.hid (OwnR.nil _ _), Below.refl _ _⟩
    case round =>
      obtain ⟨k, p, A, c, hk, rfl, rfl, rfl, HPL, HZ, HO, hb⟩ := hrel
      have hwz := hb.size
      by_cases hlt : k < n
      · have hkl : k < ls.length := by rw [HN.out]; exact hlt
        obtain ⟨b, off, s, rfl, hbb, hc0, hs⟩ := HR.out.at_ (k := k) hkl
        have hc := hc0
        rw [← hb.cell (p := ⟨b, _, none⟩) hbb] at hc
        have hsl := HS.out k s hkl hs.out
        have CR := fun W => refread_any s W (by omega)
        by_cases he : (readV s).2 = 0
        · obtain ⟨hc1, _⟩ := took_check hkl hs.out HZ.out
          have hle2 := err_fault hs.out he
          have hrt := Lib.hid (recs_take hkl hs.out)
          rw [← hle2] at hc1
          rw [he] at CR
          have htk : ((recsOf ls).take k).length = k := by rw [List.length_take, recs_len]; omega
          have HTK := Lib.hid htk
          generalize (readV s).1 = r at *
          obtain ⟨x, y, z⟩ := r
          simp only at CR
          generalize (recsOf ls).take k = o at *
          have HLN : Hid ((o ++ [(x, y, z)]).length = k + 1) := Lib.hid (by simp [htk])
          have CC : ∀ (A5 : Option Addr) (c5 : Nat) (W : World), RdR W A5 (o ++ [(x, y, z)]) →
              Calls Tryd.prog 18 #[.slice A5 (k + 1) c5] W fun e w' => (∃ pl : Int, e = .returned (.tuple #[.int .i64 pl, .int .i64 (lineErr ls k)])) ∧ Below W.heap.size W w' := fun A5 c5 W h => by
            have := refrcheck_any A5 c5 (o ++ [(x, y, z)]) W h (by rw [HLN.out]; omega)
            rw [HLN.out, hc1] at this
            exact this.mono fun e w' ⟨h1, h2⟩ => ⟨⟨_, h1⟩, h2⟩
          have HM := Lib.hid (place_more hkl hs.out)
          have hp2 := HP.out (k + 1)
          rw [HM.out, HPL.out] at hp2
          have hown : wr.ownsRow w1.heap.size 23 3 (.slice A k c) k (flatR o) := by
            have := HO.out
            unfold OwnR at this
            rw [htk] at this
            exact this
          have hob : ∀ q, (Value.slice A k c).ownBlock = some q → w1.heap.size ≤ q ∧ q < wr.heap.size := fun q hq => World.ownsRow.lt hown q hq
          have HOB := Lib.hid hob
          have HOW := Lib.hid hown
          clear hob hown htk
          by_cases h0 : lineErr ls k = 0
          · have HZ2 : Hid (∀ j, j < k + 1 → lineErr ls j = 0) := Lib.hid fun j hj => by
              by_cases hjk : j = k
              · subst hjk; exact h0
              · exact HZ.out j (by omega)
            rw [h0] at CC
            clear he hle2 hc1 h0 hkl hc0 hs
            go_wp2_with (first
              | (go_at_call 10; (with_reducible refine (CR _).mono ?_); rintro e w2 ⟨rfl, hb2⟩; have hz2' := hb2.size; have hbw2 := b_cl hb (Nat.le_refl _) hb2)
              | (at_builtin; refine wpList_append_own _ rfl _ _ 31 rfl w1.heap.size 23 i0 (.agg #[.int .i64 0, .int .i64 0, .int .i64 0]) 3 24 Tryd.underlying31 hi hz0 hz1 hz2 rfl (by decide) _ _ _ rfl (World.ownsRow.alloc (World.ownsRow.alloc (row_below HOW.out hb2) _) _) ⟨w2.heap.size + 1, 0, none⟩ 1 1 [.int .i64 x, .int .i64 y, .int .i64 z] rfl rfl (rec_news (by simp)) rec_cells (by unfold maxLen; omega) (by omega) (by simp; omega) ?_; intro v5 w5 hown5 hgrow5 _; have hG5 := grown_two hgrow5 (fun q e => ⟨(HOB.out q e).1, Nat.lt_of_lt_of_le (HOB.out q e).2 hz2'⟩) (by omega); obtain ⟨_, hbw5, hsz5⟩ := hG5; have hbw5' := hbw2.trans hbw5; have hc5 : w5.cell? ⟨b, off + k, none⟩ = some (.string s) := (by rw [hbw5'.cell (p := ⟨b, _, none⟩) hbb, ← hb.cell (p := ⟨b, _, none⟩) hbb]; exact hc); have hS5 := OwnR.snoc (l := o) (by rw [HTK.out]; exact hown5); obtain ⟨A5, c5, hv5, hrd5, _⟩ := hS5.read; rw [HLN.out] at hv5; subst hv5; have RD5 := Lib.hid hrd5; have HS5 := Lib.hid hS5; have HB5 := Lib.hid hbw5'; clear hown5 hgrow5 hrd5 hS5 hbw5 hbw5' hbw2)
              | (go_at_call 18; (with_reducible refine (CC _ _ _ RD5.out).mono ?_); rintro e w6 ⟨⟨pl, rfl⟩, hb6⟩; have hc6 := c_cl hc5 hb6; have HS6 := Lib.hid (HS5.out.below hb6); have HB6 := Lib.hid (HB5.out.trans (hb6.mono HB5.out.size))))
            go_roundw
            case rel => exact ⟨k + 1, p + (s.size + 1), A5, c5, by omega, by go_num, by go_num, rfl, Lib.hid (by rw [HM.out, HPL.out]), HZ2, Lib.hid (by rw [hrt.out]; exact HS6.out), HB6.out⟩
            case measure => simp [intOf]; omega
          · have hne' : (lineErr ls k != 0) = true := by simpa using h0
            have HE := Lib.hid (HV.out.symm.trans (all_bad hkl HZ.out rfl h0))
            rw [HPL.out] at HE
            generalize lineErr ls k = f at CC hne' HE
            clear he hle2 hc1 h0 hkl hc0 hs
            go_wp2_with (first
              | (go_at_call 10; (with_reducible refine (CR _).mono ?_); rintro e w2 ⟨rfl, hb2⟩; have hz2' := hb2.size; have hbw2 := b_cl hb (Nat.le_refl _) hb2)
              | (at_builtin; refine wpList_append_own _ rfl _ _ 31 rfl w1.heap.size 23 i0 (.agg #[.int .i64 0, .int .i64 0, .int .i64 0]) 3 24 Tryd.underlying31 hi hz0 hz1 hz2 rfl (by decide) _ _ _ rfl (World.ownsRow.alloc (World.ownsRow.alloc (row_below HOW.out hb2) _) _) ⟨w2.heap.size + 1, 0, none⟩ 1 1 [.int .i64 x, .int .i64 y, .int .i64 z] rfl rfl (rec_news (by simp)) rec_cells (by unfold maxLen; omega) (by omega) (by simp; omega) ?_; intro v5 w5 hown5 hgrow5 _; have hG5 := grown_two hgrow5 (fun q e => ⟨(HOB.out q e).1, Nat.lt_of_lt_of_le (HOB.out q e).2 hz2'⟩) (by omega); obtain ⟨_, hbw5, hsz5⟩ := hG5; have hbw5' := hbw2.trans hbw5; have hS5 := OwnR.snoc (l := o) (by rw [HTK.out]; exact hown5); obtain ⟨A5, c5, hv5, hrd5, _⟩ := hS5.read; rw [HLN.out] at hv5; subst hv5; have RD5 := Lib.hid hrd5; have HB5 := Lib.hid hbw5'; clear hown5 hgrow5 hrd5 hS5 hbw5 hbw5' hbw2)
              | (go_at_call 18; (with_reducible refine (CC _ _ _ RD5.out).mono ?_); rintro e w6 ⟨⟨pl, rfl⟩, hb6⟩; have HB6 := Lib.hid (HB5.out.trans (hb6.mono HB5.out.size))))
            go_ret3
            rw [HE.out]
            exact ⟨_, rfl, OwnR.nil _ _, b_tr hb1 HB6.out⟩
        · have hle2 := err_read hs.out he
          have hne' : ((readV s).2 != 0) = true := by simpa using he
          have HE := Lib.hid (HV.out.symm.trans (all_bad hkl HZ.out hle2 he))
          rw [HPL.out] at HE
          generalize (readV s).2 = f at CR hne' HE
          generalize (readV s).1 = r at CR
          clear he hle2 hkl hc0 hs
          go_wp2_with (go_at_call 10; (with_reducible refine (CR _).mono ?_); rintro e w2 ⟨rfl, hb2⟩; have hz2' := hb2.size; have hbw2 := b_cl hb (Nat.le_refl _) hb2)
          go_ret3
          rw [HE.out]
          exact ⟨_, rfl, OwnR.nil _ _, b_tr hb1 (b_al hbw2 (Nat.le_refl _) _)⟩
      · have hkn : k = n := by omega
        subst hkn
        have HE := Lib.hid (HV.out.symm.trans (all_good (by rw [HN.out]; exact HZ.out)))
        have HT := Lib.hid (show (recsOf ls).take k = recsOf ls by rw [List.take_of_length_le (by rw [recs_len, HN.out]; omega)])
        go_wp2
        go_ret3
        rw [HE.out]
        refine ⟨_, rfl, ?_, b_tr hb1 hb⟩
        have := HO.out
        rw [HT.out] at this
        exact this.more hb1.size
  · rw [tape_bad hz]
    generalize (linesV t).1 = ls at CLn
    generalize (linesV t).2.1 = pl at CLn ⊢
    generalize (linesV t).2.2 = er at CLn hz ⊢
    have hz' : (er != 0) = true := by simpa using hz
    clear hz
    go_enter Tryd.func14, Tryd.ntmps14
    go_wp2_with (go_at_call 32; refine (CLn _).mono ?_; rintro e w1 ⟨v, rfl, ho, hb1⟩; clear ho)
    go_ret3
    exact ⟨_, rfl, OwnR.nil _ _, hb1⟩

end Go.Proofs.YtogcpoaclkomjaaDoor
