/- What the document's Lines of layer 6 returns, for any text. Conditions: the text has at most a million bytes. -/
import Derived.Test.YtogcpoaclkomjaaDoorZ3
import Derived.Test.YtogcpoaclkomjaaDoorZ1
namespace Go.Proofs.YtogcpoaclkomjaaDoor
open Go.RowKit

set_option maxHeartbeats 2000000 in
set_option maxRecDepth 20000 in
theorem reflines_any (s : ByteArray) (w : World) (hs : s.size ≤ 1000000) :
    Calls Tryd.prog 32 #[.string s] w fun e w' => ∃ v, e = .returned (.tuple #[v, .int .i64 ((linesV s).2.1 : Nat), .int .i64 (linesV s).2.2]) ∧ OwnT w.heap.size w' v (linesV s).1 ∧ Below w.heap.size w w' := by
  obtain ⟨i0, hi, hz0, hz1, hz2⟩ := info_parts info_string
  obtain ⟨V, hV⟩ : ∃ V, linesV s = V := ⟨_, rfl⟩
  have HV := Lib.hid hV
  rw [hV]
  clear hV
  go_enter Tryd.func32, Tryd.ntmps32
  go_wp2
  go_loopw [5, 6, 7] (fun v bv i wr => ∃ (k bg : Nat), k ≤ s.size ∧ i = .int .i64 k ∧ bv = .int .i64 bg ∧ bg ≤ k ∧ Hid (pbeg 10 s k = bg) ∧ Hid (OwnT w.heap.size wr v ((pdone 10 s k).map (·.2))) ∧ Below w.heap.size w wr) (fun _ _ i _ => s.size - (intOf i).toNat)
  case atStart => exact ⟨0, 0, Nat.zero_le _, rfl, rfl, Nat.le_refl _, Lib.hid rfl, Lib.hid (OwnT.nil _ _), Below.refl _ _⟩
  case round =>
    obtain ⟨k, bg, hk, rfl, rfl, hbk, HG, HO, hb⟩ := hrel
    have hwz := hb.size
    have hpl : ((pdone 10 s k).map (·.2)).length ≤ k := by rw [List.length_map]; exact pdone_len 10 s k
    by_cases hlt : k < s.size
    · by_cases hc : bt s k = 10
      · have HP1 := Lib.hid (pbeg_hit hc)
        have HP2 := Lib.hid (pdone_hit hc)
        rw [← byte_bt s k hlt] at hc
        have c1 : (((s[k]'hlt).toNat : Int) == 10) = true := by simp; omega
        have i1 : (bg : Int) ≤ (k : Int) := by omega
        have i2 : (k : Int) ≤ (s.size : Int) := by omega
        clear hc
        go_wp2_with (at_builtin; refine wpList_append_own _ rfl _ _ 66 rfl w.heap.size 9 i0 (.string ⟨#[]⟩) 1 16 Tryd.underlying66 hi hz0 hz1 hz2 rfl (by decide) _ _ _ rfl (World.ownsRow.alloc HO.out _) ⟨wr.heap.size, 0, none⟩ 1 1 [.string (s.extract bg k)] rfl rfl (text_news rfl) text_cells (by unfold maxLen; omega) (by omega) (by simp; omega) ?_; intro v5 w5 hown5 hgrow5 _; have HS := Lib.hid (OwnT.snoc hown5); have HB5 := Lib.hid ((b_al hb (Nat.le_refl _) (.cells #[.string (s.extract bg k)] 9)).grown hgrow5 (by simp; omega) (fun q hq => (World.ownsRow.lt HO.out q hq).1)); clear hown5 hgrow5)
        go_roundw
        case rel => exact ⟨k + 1, k + 1, by omega, by go_num, by go_num, by omega, HP1, Lib.hid (by rw [HP2.out, HG.out, List.map_append]; exact HS.out), HB5.out⟩
        case measure => simp [intOf]; omega
      · have HP1 := Lib.hid (pbeg_miss hc)
        have HP2 := Lib.hid (pdone_miss hc)
        rw [← byte_bt s k hlt] at hc
        have c1 : (((s[k]'hlt).toNat : Int) == 10) = false := by simp; omega
        clear hc
        go_wp2
        go_roundw
        case rel => exact ⟨k + 1, bg, by omega, by go_num, rfl, by omega, Lib.hid (by rw [HP1.out]; exact HG.out), Lib.hid (by rw [HP2.out]; exact HO.out), hb⟩
        case measure => simp [intOf]; omega
    · have hks : k = s.size := by omega
      have HK := Lib.hid hks
      clear hks
      by_cases he : bg < s.size
      · have HE := Lib.hid (lines_bad (t := s) (by rw [← HK.out, HG.out]; omega))
        have e1 : (bg : Int) < (s.size : Int) := by omega
        go_wp2
        go_ret3
        rw [← HV.out, HE.out]
        exact ⟨_, rfl, OwnT.nil _ _, hb⟩
      · have HE := Lib.hid (lines_good (t := s) (by rw [← HK.out, HG.out]; have := HK.out; omega))
        have e1 : ¬ (bg : Int) < (s.size : Int) := by omega
        go_wp2
        go_ret3
        rw [← HV.out, HE.out]
        exact ⟨_, rfl, by have h := HO.out; rw [HK.out] at h; exact h, hb⟩

end Go.Proofs.YtogcpoaclkomjaaDoor
