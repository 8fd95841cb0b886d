/- What Parse of layer 10 returns. Conditions: the text has at most 900000 bytes; the program's listed variables are laid. -/
import Derived.Test.YtogcpoaclkomjaaDoorTapeHand
import Derived.Test.YtogcpoaclkomjaaDoorLinesC2
import Derived.WalkKit
import Derived.WalkSpells
import Derived.WalkSmall
import Derived.Below
import Derived.Outline
import Derived.OwnWalk
import Derived.OneCell
import Derived.BigQuiet
import Derived.Deep.QuietTactic
import Derived.Lib.Hide
namespace Go.Proofs.YtogcpoaclkomjaaDoor
open Go.RowKit

/-- How Parse stands: its two variables, and what is read. -/
def TapeS (w1 : World) (err : Int) (l : List Rc) (W : World) : Prop :=
  ∃ v, W.heap[w1.heap.size]? = some (.cells #[.int .i64 err] 25 (0, 0)) ∧ W.heap[w1.heap.size + 1]? = some (.cells #[v] 31 (0, 0)) ∧ OwnR (w1.heap.size + 2) W v l ∧ Below w1.heap.size w1 W ∧ w1.heap.size + 2 ≤ W.heap.size

theorem tapeS_step {w1 W W' : World} {e f : Int} {l l' : List Rc} {v' : Value} (h : TapeS w1 e l W) (hk : Keeps2 (w1.heap.size + 2) w1.heap.size (w1.heap.size + 1) W W')
    (hE : W'.heap[w1.heap.size]? = some (.cells #[.int .i64 f] 25 (0, 0))) (hL : W'.heap[w1.heap.size + 1]? = some (.cells #[v'] 31 (0, 0))) (ho : OwnR (w1.heap.size + 2) W' v' l') : TapeS w1 f l' W' := by
  obtain ⟨v, _, _, _, hb, hsz⟩ := h
  exact ⟨v', hE, hL, ho, ⟨hk.os.trans hb.os, hk.tape.trans hb.tape, hk.output.trans hb.output, Nat.le_trans hb.size hk.size, fun q hq => (hk.block q (by omega) (by omega) (by omega)).trans (hb.block q hq)⟩, Nat.le_trans hsz hk.size⟩

def TapeI (w1 : World) (ls : List ByteArray) (k : Nat) (W : World) : Prop := (∀ j, j < k → lineErr ls j = 0) ∧ TapeS w1 0 ((recsOf ls).take k) W
def TapeJ (w1 : World) (ls : List ByteArray) (k : Nat) (W : World) : Prop := (∀ j, j < k → lineErr ls j = 0) ∧ lineErr ls k ≠ 0 ∧ ∃ l, TapeS w1 (lineErr ls k) l W

theorem tape_hands (w1 : World) (ls : List ByteArray) (hl : Laid6 w1) (hs : (endedL ls).length ≤ 900000) :
    HandsL 30 #[.pointer (some ⟨w1.heap.size, 0, none⟩), .pointer (some ⟨w1.heap.size + 1, 0, none⟩)] ls w1 (TapeI w1 ls) (TapeJ w1 ls) where
  old k W h := by
    obtain ⟨_, _, _, _, _, hb, _⟩ := h
    exact hb
  step k W s hk hks h := by
    obtain ⟨hz, hS⟩ := h
    have hS0 := hS
    obtain ⟨v, hE, hL, ho, hb, hsz⟩ := hS
    have hle := line_le hk hks
    have hlen := len_ended ls
    have htk : ((recsOf ls).take k).length = k := by rw [List.length_take, recs_len]; omega
    by_cases he : (readV s).2 = 0
    · obtain ⟨hc1, hc2⟩ := took_check hk hks hz
      have hle2 := err_fault hks he
      rw [← hle2] at hc2
      have hrd : readV s = (((readV s).1.1, (readV s).1.2.1, (readV s).1.2.2), 0) := by rw [← he]
      refine (hand_good w1.heap.size (w1.heap.size + 1) (w1.heap.size + 2) k v ((recsOf ls).take k) s _ _ _ (lineErr ls k) W hE hL ho htk (by omega) (by omega) (by omega) hsz (by omega) (by omega) hrd hc2 (hl.below hb)).mono fun e W' ⟨v', he', hE', hL', ho', hk2⟩ => ?_
      have hS' := tapeS_step hS0 hk2 hE' hL' ho'
      refine ⟨_, he', fun hr => ⟨fun j hj => ?_, ?_⟩, fun hr => ⟨hz, by simpa using hr, _, hS'⟩⟩
      · by_cases hjk : j = k
        · subst hjk; simpa using hr
        · exact hz j (by omega)
      · have h0 : lineErr ls k = 0 := by simpa using hr
        rw [h0] at hS'
        rw [recs_take hk hks]
        exact hS'
    · have hle2 := err_read hks he
      refine (hand_bad w1.heap.size (w1.heap.size + 1) (w1.heap.size + 2) v ((recsOf ls).take k) s (lineErr ls k) W hE hL ho (by omega) (by omega) hsz (by omega) hle2.symm (by rw [hle2]; exact he) (hl.below hb)).mono fun e W' ⟨he', hE', hL', ho', hk2⟩ => ?_
      exact ⟨false, he', (fun hr => by cases hr), fun _ => ⟨hz, by rw [hle2]; exact he, _, tapeS_step hS0 hk2 hE' hL' ho'⟩⟩

theorem tape_start (w1 : World) (ls : List ByteArray) : TapeI w1 ls 0 ((w1.alloc (.cells #[.int .i64 0] 25)).alloc (.cells #[.slice none 0 0] 31)) := by
  refine ⟨fun j hj => by omega, .slice none 0 0, ?_, ?_, OwnR.nil _ _, ((Below.refl _ _).alloc (Nat.le_refl _) _).alloc (by simp) _, by simp⟩
  · rw [Below.heap_alloc _ _ _ (by simp)]; exact heap_alloc_new w1 _
  · have := heap_alloc_new (w1.alloc (.cells #[.int .i64 0] 25)) (.cells #[.slice none 0 0] 31)
    simpa using this

/-- The world in which each is called. -/
abbrev eachW (w1 : World) : World := (w1.alloc (.cells #[.int .i64 0] 25)).alloc (.cells #[.slice none 0 0] 31)

theorem tape_each (A : Option Addr) (c : Nat) (w1 : World) (ls : List ByteArray) (hl : Laid6 w1) (hr : RdT w1 A ls) (hs : (endedL ls).length ≤ 900000) :
    Calls Tryd.prog 29 #[.slice A ls.length c, .func (.func 30) #[] #[.pointer (some ⟨w1.heap.size, 0, none⟩), .pointer (some ⟨w1.heap.size + 1, 0, none⟩)]] (eachW w1) fun e w' =>
      e = .returned (.int .i64 ((readAll ls).2.1 : Nat)) ∧ ∃ l, TapeS w1 (readAll ls).2.2 l w' ∧ ((readAll ls).2.2 = 0 → l = (readAll ls).1) := by
  have eg : ∀ args w, (callFunc 30 args).run Tryd.prog w = .ok (.enter 30 args) w := enters_of Tryd.func30 (by kernel_rfl) rfl
  refine (each10_any A c ls.length ls 30 _ w1 (eachW w1) _ _ eg rfl hr (by omega) (tape_hands w1 ls hl hs) (tape_start w1 ls)).mono fun e w' h => ?_
  rcases h with ⟨rfl, hz, hS⟩ | ⟨k, hk, rfl, hz, hne, l, hS⟩
  · rw [all_good hz]
    rw [List.take_of_length_le (Nat.le_of_eq (recs_len ls))] at hS
    exact ⟨rfl, _, hS, fun _ => rfl⟩
  · rw [all_bad hk hz rfl hne]
    exact ⟨rfl, l, hS, fun h => absurd h hne⟩

set_option maxRecDepth 20000 in
set_option maxHeartbeats 1000000 in
theorem parse10_any (t : ByteArray) (w : World) (hl : Laid6 w) (ht : t.size ≤ 900000) :
    Calls Tryd.prog 13 #[.string t] w fun e w' => ∃ v, e = .returned (.tuple #[v, .int .i64 ((tapeV t).2.1 : Nat), .int .i64 (tapeV t).2.2]) ∧ OwnR w.heap.size w' v (tapeV t).1 ∧ Below w.heap.size w w' := by
  have CLn := fun W => lines_any t W (by omega)
  by_cases hz : (linesV t).2.2 = 0
  · have hfl := congrArg List.length (lines_flat hz)
    rw [size_list] at hfl
    rw [tape_lines hz]
    rw [hz] at CLn
    generalize (linesV t).1 = ls at *
    have CE := fun A c w1 hl hr => tape_each A c w1 ls hl hr (by omega)
    obtain ⟨n, hn⟩ : ∃ n, ls.length = n := ⟨_, rfl⟩
    rw [hn] at CE
    have CL2 : ∀ W, Calls Tryd.prog 28 #[.string t] W fun e w' => ∃ A c, e = .returned (.tuple #[.slice A n c, .int .i64 ((linesV t).2.1 : Nat), .int .i64 0]) ∧ RdT w' A ls ∧ Below W.heap.size W w' := fun W => (CLn W).mono fun e w' ⟨v, he, ho, hb⟩ => by
      obtain ⟨A, c, hv, hr, _⟩ := ho.read
      exact ⟨A, c, by rw [he, hv, hn], hr, hb⟩
    generalize (linesV t).2.1 = pl at CL2
    by_cases hy : (readAll ls).2.2 = 0
    · have hat : (readAll ls).2.1 = 0 := by
        rw [all_good (all_zero hy)]
      rw [hy, hat]
      rw [hy, hat] at CE
      generalize (readAll ls).1 = out at *
      clear hz hy hat hn CLn hfl
      unfold eachW at CE
      have HL := Lib.hid hl
      clear hl
      go_enter Tryd.func13, Tryd.ntmps13
      go_wp2_with (first
        | (go_at_call 28; refine (CL2 _).mono ?_; rintro e w1 ⟨A1, c1, rfl, hr1, hb1⟩; have CE1 := CE A1 c1 w1 (HL.out.below hb1) hr1; clear hr1)
        | (go_at_call 29; (with_reducible refine CE1.mono ?_); rintro e w2 ⟨rfl, l2, ⟨v2, hE, hL, ho, hb2, hsz⟩, hl2⟩; have cE := cell_of_one hE; have cL := cell_of_one hL; have HO := Lib.hid ho; have H2 := Lib.hid hl2; clear hE hL ho hl2))
      go_ret3
      refine ⟨v2, rfl, ?_, b_tr hb1 hb2⟩
      have h2 := H2.out (by simp)
      subst h2
      exact HO.out.more (by have := hb1.size; omega)
    · have hnl : (readAll ls).1 = [] := by
        unfold readAll at hy ⊢
        split
        · rename_i e; rw [e] at hy; exact absurd rfl hy
        · rfl
      rw [hnl]
      generalize (readAll ls).2.1 = at_ at *
      generalize (readAll ls).2.2 = er at *
      have hy' : (er != 0) = true := by simpa using hy
      clear hz hy hn CLn hfl hnl
      unfold eachW at CE
      have HL := Lib.hid hl
      clear hl
      go_enter Tryd.func13, Tryd.ntmps13
      go_wp2_with (first
        | (go_at_call 28; refine (CL2 _).mono ?_; rintro e w1 ⟨A1, c1, rfl, hr1, hb1⟩; have CE1 := CE A1 c1 w1 (HL.out.below hb1) hr1; clear hr1)
        | (go_at_call 29; (with_reducible refine CE1.mono ?_); rintro e w2 ⟨rfl, l2, ⟨v2, hE, hL, ho, hb2, hsz⟩, hl2⟩; have cE := cell_of_one hE; have cL := cell_of_one hL; clear hE hL ho hl2))
      go_quiet (fail)
      go_wp2
      go_ret3
      exact ⟨_, rfl, OwnR.nil _ _, b_dn (b_tr hb1 hb2)⟩
  · rw [tape_bad hz]
    generalize (linesV t).1 = ls at CLn
    generalize (linesV t).2.1 = pl at CLn ⊢
    generalize (linesV t).2.2 = er at CLn hz ⊢
    have hz' : (er != 0) = true := by simpa using hz
    clear hz
    go_enter Tryd.func13, Tryd.ntmps13
    go_wp2_with (go_at_call 28; refine (CLn _).mono ?_; rintro e w1 ⟨v, rfl, ho, hb1⟩; clear ho)
    go_quiet (fail)
    go_wp2
    go_ret3
    exact ⟨_, rfl, OwnR.nil _ _, b_dn (b_al hb1 (Nat.le_refl _) _)⟩

end Go.Proofs.YtogcpoaclkomjaaDoor
