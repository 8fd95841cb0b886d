/- What Print of layer 10, and the document's own, return. Conditions: the records can be read; at most ten thousand of them; the program's listed variables are laid. -/
import Derived.Test.YtogcpoaclkomjaaDoorTapeLine
import Derived.Test.YtogcpoaclkomjaaDoorWordBuild
import Derived.Test.YtogcpoaclkomjaaDoorWordJoin
import Derived.Shelf.Strings.MapGrows
import Derived.WalkKit
import Derived.WalkSpells
import Derived.WalkSmall
import Derived.Below
import Derived.Outline
import Derived.OwnWalk
import Derived.Lib.Hide
namespace Go.Proofs.YtogcpoaclkomjaaDoor
open Go.RowKit

theorem text_le : ∀ (l : List Rc), (∀ r ∈ l, aloneV r.1 r.2.1 r.2.2 = 0) → (textL l).length ≤ 46 * l.length
  | [], _ => by simp [textL, endedL]
  | r :: l, h => by
    have ih := text_le l (fun x hx => h x (List.mem_cons_of_mem _ hx))
    obtain ⟨_, hx, hxy, hy⟩ := alone_zero.1 (h r (List.mem_cons_self ..))
    have hz := line_size (k := r.1) (x := r.2.1) (y := r.2.2) (by omega) (by omega) (by omega) (by omega)
    have e : textL (r :: l) = ((lineR r).data.toList ++ [10]) ++ textL l := rfl
    rw [e]
    simp only [List.length_append, List.length_cons, List.length_nil, size_list]
    have e2 : (lineR r).size = (lineB r.1 r.2.1 r.2.2).size := rfl
    omega

theorem all_alone {l : List Rc} (h : (checkV l).2 = 0) : ∀ j, j < l.length → aloneV (l.getD j rz).1 (l.getD j rz).2.1 (l.getD j rz).2.2 = 0 := fun j hj => fault_ok (check_zero h j hj)

theorem take_le {l : List Rc} (h : (checkV l).2 = 0) (k : Nat) : (textL (l.take k)).length ≤ 46 * l.length := by
  have h1 := text_le (l.take k) (fun r hr => by
    obtain ⟨j, hj, hjr⟩ := getD_mem (List.mem_of_mem_take hr)
    have := all_alone h j hj
    rw [hjr] at this
    exact this)
  have h2 : (l.take k).length ≤ l.length := by rw [List.length_take]; omega
  omega

set_option maxHeartbeats 1000000 in
theorem print10_any (A : Option Addr) (c : Nat) (l : List Rc) (w : World) (hl : Laid6 w) (h : RdR w A l) (hn : l.length ≤ 10000) :
    Calls Tryd.prog 11 #[.slice A l.length c] w fun e w' => e = .returned (.tuple #[.string (printV l).1, .int .i64 (printV l).2]) ∧ Below w.heap.size w w' := by
  have CC := fun W (hr : RdR W A l) => rcheck_any A c l W hr (by omega)
  have HR := Lib.hid h
  have HL := Lib.hid hl
  by_cases hz : (checkV l).2 = 0
  · rw [print_ok hz]
    rw [hz] at CC
    generalize (checkV l).1 = pl at CC
    have HA := Lib.hid (all_alone hz)
    have HTL := Lib.hid (take_le hz)
    obtain ⟨n, hln⟩ : ∃ n, l.length = n := ⟨_, rfl⟩
    have HN := Lib.hid hln
    rw [hln] at CC hn HTL ⊢
    clear hz h hl hln
    go_enter Tryd.func11, Tryd.ntmps11
    go_wp2_with (go_at_call 16; (with_reducible refine (CC _ HR.out).mono ?_); rintro e w1 ⟨rfl, hb1⟩)
    have hfresh := Lib.IsBuilderF.of (Lib.fresh_isBuilder 60 5 w1)
    have HF := Lib.hid hfresh
    clear hfresh CC
    go_loopw [19] (fun i wr => ∃ k : Nat, k ≤ n ∧ i = .int .i64 k ∧ Hid (Lib.IsBuilderF 60 5 w1.heap.size w1.heap.size (Lib.byteCells (textL (l.take k))) wr) ∧ Below w1.heap.size w1 wr) (fun i _ => n - (intOf i).toNat)
    case atStart => exact ⟨0, Nat.zero_le _, rfl, HF, (Below.refl _ _).alloc (Nat.le_refl _) _⟩
    case round =>
      obtain ⟨k, hk, rfl, HB, hb⟩ := hrel
      have hwz := hb.size
      have hbw := b_tr hb1 hb
      by_cases hlt : k < n
      · obtain ⟨b, off, x, y, z, rfl, hbb, q0, q1, q2, hs⟩ := HR.out.at_ (k := k) (by rw [HN.out]; exact hlt)
        rw [← hbw.cell (p := ⟨b, _, none⟩) hbb] at q0 q1 q2
        have hal := HA.out k (by rw [HN.out]; exact hlt)
        rw [hs.out] at hal
        have CO := fun (W : World) (hw : Below w.heap.size w W) => lineOf_any x y z W (HL.out.below hw) hal
        have HM := Lib.hid (text_take (by rw [HN.out]; exact hlt) hs.out)
        have hle2 := HTL.out (k + 1)
        rw [HM.out, List.length_append, List.length_append, size_list] at hle2
        simp only [List.length_singleton] at hle2
        have HB1 := Lib.hid (Lib.IsBuilderF.alloc HB.out (.cells #[.int .i64 x, .int .i64 y, .int .i64 z] 23))
        have hbw' := Lib.hid (hbw.alloc hbw.size (.cells #[.int .i64 x, .int .i64 y, .int .i64 z] 23))
        have hb' := Lib.hid (hb.alloc hb.size (.cells #[.int .i64 x, .int .i64 y, .int .i64 z] 23))
        have e10 : (⟨#[10]⟩ : ByteArray).size = 1 := rfl
        generalize lineB x y z = s at CO HM hle2
        generalize hT : textL (l.take k) = T at HB1 HM hle2
        clear hal hs hT HB
        go_wp2_with (first
          | (go_at_call 17; (with_reducible refine (CO _ hbw'.out).mono ?_); rintro e w2 ⟨rfl, hb2⟩; have HB2 := Lib.hid (Lib.IsBuilderF.below HB1.out hb2); have hz2 := hb2.size; (try simp at hz2); have hbb2 := Lib.hid (hb'.out.trans (hb2.mono hb'.out.size)))
          | (go_at_call 26; (with_reducible refine (wstr_any w1.heap.size w1.heap.size _ s _ HB2.out (by rw [cells_len]; omega) (by omega)).mono ?_); rintro e w3 ⟨rfl, h3, hb3⟩; rw [cells_join] at h3; have H3 := Lib.hid (is_used h3); have hz3 := hb3.size; clear h3)
          | (go_at_call 26; (with_reducible refine (wstr_any w1.heap.size w1.heap.size _ ⟨#[10]⟩ _ H3.out (by rw [cells_len, List.length_append, size_list, e10]; omega) (by omega)).mono ?_); rintro e w4 ⟨rfl, h4, hb4⟩; rw [cells_join] at h4; have H4 := Lib.hid (is_used h4); clear h4))
        go_roundw
        case rel => exact ⟨k + 1, by omega, by go_num, Lib.hid (by rw [HM.out]; exact H4.out), (hbb2.out.trans hb3).trans hb4⟩
        case measure => simp [intOf]; omega
      · have HT : Hid (l.take k = l) := Lib.hid (List.take_of_length_le (by rw [HN.out]; omega))
        go_wp2_with (go_at_call 27; (with_reducible refine (bstr_any w1.heap.size w1.heap.size _ _ HB.out (by omega)).mono ?_); rintro e w2 ⟨rfl, h2, hb2, _⟩)
        go_ret2
        rw [HT.out]
        exact ⟨rfl, b_tr hb1 (hb.trans hb2)⟩
  · rw [print_bad hz]
    generalize (checkV l).1 = pl at CC
    generalize (checkV l).2 = er at CC hz ⊢
    have hz' : (er != 0) = true := by simpa using hz
    clear hz h hl HL
    go_enter Tryd.func11, Tryd.ntmps11
    go_wp2_with (go_at_call 16; (with_reducible refine (CC _ HR.out).mono ?_); rintro e w1 ⟨rfl, hb1⟩)
    go_ret2
    exact ⟨rfl, hb1⟩

set_option maxHeartbeats 1000000 in
theorem refprint10_any (A : Option Addr) (c : Nat) (l : List Rc) (w : World) (h : RdR w A l) (hn : l.length ≤ 10000) :
    Calls Tryd.prog 12 #[.slice A l.length c] w fun e w' => e = .returned (.tuple #[.string (printV l).1, .int .i64 (printV l).2]) ∧ Below w.heap.size w w' := by
  have CC := fun W (hr : RdR W A l) => refrcheck_any A c l W hr (by omega)
  have HR := Lib.hid h
  by_cases hz : (checkV l).2 = 0
  · rw [print_ok hz]
    rw [hz] at CC
    generalize (checkV l).1 = pl at CC
    have HA := Lib.hid (all_alone hz)
    have HTL := Lib.hid (take_le hz)
    obtain ⟨n, hln⟩ : ∃ n, l.length = n := ⟨_, rfl⟩
    have HN := Lib.hid hln
    rw [hln] at CC hn HTL ⊢
    clear hz h hln
    go_enter Tryd.func12, Tryd.ntmps12
    go_wp2_with (go_at_call 18; (with_reducible refine (CC _ HR.out).mono ?_); rintro e w1 ⟨rfl, hb1⟩)
    clear CC
    go_loopw [6, 7] (fun v i wr => ∃ (k : Nat) (T : ByteArray), k ≤ n ∧ i = .int .i64 k ∧ v = .string T ∧ Hid (T.data.toList = textL (l.take k)) ∧ Below w.heap.size w wr) (fun _ i _ => n - (intOf i).toNat)
    case atStart => exact ⟨0, ⟨#[]⟩, Nat.zero_le _, rfl, rfl, Lib.hid rfl, hb1⟩
    case round =>
      obtain ⟨k, T, hk, rfl, rfl, HT, hb⟩ := hrel
      by_cases hlt : k < n
      · obtain ⟨b, off, x, y, z, rfl, hbb, q0, q1, q2, hs⟩ := HR.out.at_ (k := k) (by rw [HN.out]; exact hlt)
        rw [← hb.cell (p := ⟨b, _, none⟩) hbb] at q0 q1 q2
        have hal := HA.out k (by rw [HN.out]; exact hlt)
        rw [hs.out] at hal
        have CO := fun (W : World) => refline_any x y z W
        rw [line_good hal] at CO
        have HM := Lib.hid (text_take (by rw [HN.out]; exact hlt) hs.out)
        have hle2 := HTL.out (k + 1)
        rw [HM.out, ← HT.out, List.length_append, List.length_append, size_list, size_list] at hle2
        simp only [List.length_singleton] at hle2
        generalize lineB x y z = s at CO HM hle2
        have hsz : (T ++ s).size = T.size + s.size := ByteArray.size_append
        have r1 : ∀ W : World, (Op.stringOp .add T s).run Tryd.prog W = .ok (.string (T ++ s)) W := fun W => run_string_add_sum W _ _ (by omega)
        have r2 : ∀ W : World, (Op.stringOp .add (T ++ s) ⟨#[10]⟩).run Tryd.prog W = .ok (.string ((T ++ s) ++ ⟨#[10]⟩)) W := fun W => run_string_add_sum W _ _ (by rw [hsz]; show T.size + s.size + 1 ≤ _; omega)
        clear hal hs hsz
        go_wp2_with (go_at_call 8; (with_reducible refine (CO _).mono ?_); rintro e w2 ⟨rfl, hb2⟩)
        go_roundw
        case rel => exact ⟨k + 1, (T ++ s) ++ ⟨#[10]⟩, by omega, by go_num, rfl, Lib.hid (by rw [HM.out, ← HT.out, ByteArray.data_append, ByteArray.data_append, Array.toList_append, Array.toList_append]), b_cl hb (Nat.le_refl _) hb2⟩
        case measure => simp [intOf]; omega
      · have HE : Hid (l.take k = l) := Lib.hid (List.take_of_length_le (by rw [HN.out]; omega))
        go_wp2
        go_ret2
        have e := HT.out
        rw [HE.out] at e
        refine ⟨?_, hb⟩
        rw [← e]
        rfl
  · rw [print_bad hz]
    generalize (checkV l).1 = pl at CC
    generalize (checkV l).2 = er at CC hz ⊢
    have hz' : (er != 0) = true := by simpa using hz
    clear hz h
    go_enter Tryd.func12, Tryd.ntmps12
    go_wp2_with (go_at_call 18; (with_reducible refine (CC _ HR.out).mono ?_); rintro e w1 ⟨rfl, hb1⟩)
    go_ret2
    exact ⟨rfl, hb1⟩

end Go.Proofs.YtogcpoaclkomjaaDoor
