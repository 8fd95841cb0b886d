/- Plain facts, several texts in one: ErrandPast, LabelRow, LabelOpen. Conditions: none beyond each lemma's own premises. -/
import Derived.Test.YtolbihfnogbjaaaRows
import Derived.Test.YtolbihfnogbjaaaBase
import Derived.Test.YtolbihfnogbjaaaZ2
import Derived.Test.YtolbihfnogbjaaaZ3
import Derived.Test.YtolbihfnogbjaaaZ1
import Derived.Test.YtolbihfnogbjaaaErrandLeaf
import Derived.WalkKit
import Derived.WalkSpells
import Derived.WalkSmall
import Derived.Below
import Derived.Lib.Hide
import Derived.Outline
import Derived.Deep.DeepCutAuto
import Derived.OwnWalk
import Derived.BigQuiet
import Derived.Deep.QuietTactic
import Derived.Deep.LoopGhost
import Derived.WalkMore
import Derived.Test.YtolbihfnogbjaaaZ4
import Derived.Laws.StructEq
import Derived.ChangeKeysEq
import Derived.Laws.Slices
import Derived.OrdersHeld
import Derived.Deep.Quiet
import Derived.OpenShut
import Derived.ChangeSame
import Derived.Lib.SmallJoins
import Derived.ProofKit
import Derived.Deep.Slices
import Derived.Deep.Fields

/- How tasks of which all is done are gone past, by the code and by the document. Conditions: the tasks can be read and may be, and the spot is near to a right one. -/
namespace Go.Proofs.Ytolbihfnogbjaaa
open Go.RowKit

theorem one3 (a b c : Int) : (#[.int .i64 a, .int .i64 b, .int .i64 c] : Array Value).all (·.oneCell') = true := by simp [Value.oneCell']
theorem size_spot : (Try.prog.info? 28).map (·.size) = some 3 := by kernel_rfl
/-- A spot's three cells. -/
def sp3 (s : Pt) : Array Value := #[.int .i64 s.1, .int .i64 s.2.1, .int .i64 s.2.2]

theorem near_task {l : List Tk} (ok : ∀ t ∈ l, TkOk t) {k : Nat} {x y : Int} (hs : Near l (k, x, y)) (hk : k < l.length) : TkOk (tk l k) ∧ 0 ≤ x ∧ x ≤ (tk l k).1 ∧ 0 ≤ y ∧ y ≤ (tk l k).2.1 := by
  have := hs.2.2.2 (by simp only; omega)
  exact ⟨ok _ (tk_mem (by omega) (by omega)), this.1, this.2.1, this.2.2.1, this.2.2.2.1⟩

set_option maxRecDepth 20000 in
set_option maxHeartbeats 2000000 in
theorem past19_any (A : Option Addr) (n c : Nat) (l : List Tk) (hn : l.length = n) (i x y : Int) (w : World) (h : RdK w A l) (hl : n ≤ 4611686018427387904) (ok : ∀ t ∈ l, TkOk t) (hs : Near l (i, x, y)) :
    Calls Try.prog 54 #[.slice A n c, .agg #[.int .i64 i, .int .i64 x, .int .i64 y]] w fun e w' => e = .returned (.agg (sp3 (pastT l (i, x, y)))) ∧ Below w.heap.size w w' := by
  obtain ⟨P, hP⟩ : ∃ P, pastT l (i, x, y) = P := ⟨_, rfl⟩
  rw [hP]
  have OK := Lib.hid ok
  have HN := Lib.hid hn
  have h0 : 0 ≤ i := hs.1
  have h1 : i ≤ n := by have := hs.2.1; rw [hn] at this; exact this
  obtain ⟨k, rfl⟩ : ∃ k : Nat, i = k := ⟨i.toNat, by omega⟩
  have HS := Lib.hid hs
  have HP := Lib.hid hP
  have HK := Lib.hid h
  clear h0 hs hP ok h hn
  have X1 : Bx ((w.alloc (.cells #[.int .i64 k, .int .i64 x, .int .i64 y] 28)).alloc (.cells #[.int .i64 0, .int .i64 0, .int .i64 0] 28)) w.heap.size 28 #[.int .i64 k, .int .i64 x, .int .i64 y] := (Bx.new (W := w) _ _ rfl).alloc _
  have X2 : Bx ((w.alloc (.cells #[.int .i64 k, .int .i64 x, .int .i64 y] 28)).alloc (.cells #[.int .i64 0, .int .i64 0, .int .i64 0] 28)) (w.heap.size + 1) 28 #[.int .i64 0, .int .i64 0, .int .i64 0] := Bx.new (W := w.alloc (.cells #[.int .i64 k, .int .i64 x, .int .i64 y] 28)) _ _ (by simp)
  have HX1 := Lib.hid X1
  have HX2 := Lib.hid X2
  clear X1 X2
  go_enter Try.func54, Try.ntmps54
  go_wp2
  go_step3
  go_wp2
  go_step3
  go_wp2
  go_loopg [5] (n - k) (fun g s5 wr => ∃ (k : Nat) (x y : Int), k + g = n ∧ Hid (Near l (k, x, y)) ∧ Hid (pastT l (k, x, y) = P) ∧ Bx wr w.heap.size 28 #[.int .i64 k, .int .i64 x, .int .i64 y] ∧ Bx wr (w.heap.size + 1) 28 #[.int .i64 0, .int .i64 0, .int .i64 0] ∧ Below w.heap.size w wr)
  case atStart => exact ⟨k, x, y, by omega, HS, HP, HX1.out, HX2.out, by (repeat (first | exact Below.refl _ _ | (refine b_st ?_ (by first | (simp; done) | (simp; omega))) | (refine b_al ?_ (Nat.le_refl _) _) | refine b_dn ?_ | refine b_dr ?_ | (refine b_cl ?_ (Nat.le_refl _) (by assumption))))⟩
  case round =>
    clear HS HP HX1 HX2 h1
    obtain ⟨k, x, y, hg, HS, HP, B1, B2, hb⟩ := hrel
    have hsz := hb.size
    have HK1 := Lib.hid (HK.out.below hb)
    have p0 := B1.cell (k := 0) rfl
    have p1 := B1.cell (k := 1) rfl
    have p2 := B1.cell (k := 2) rfl
    have lt1 := B1.lt
    have lt2 := B2.lt
    by_cases hk : k < n
    · obtain ⟨tok, t1, t2, t3, t4⟩ := near_task OK.out HS.out (by rw [HN.out]; exact hk)
      have CL := fun W (h : RdK W A l) => left19_in A n c l HN.out k x y W h hk
      have z1 := tok.1
      have z2 := tok.2.1
      have z3 := tok.2.2.1
      have z4 := tok.2.2.2
      rw [IntWalk.wrap64_in _ (by omega), IntWalk.wrap64_in _ (by omega)] at CL
      obtain ⟨p, hp⟩ : ∃ p, (tk l k).1 - x = p := ⟨_, rfl⟩
      obtain ⟨q, hq⟩ : ∃ q, (tk l k).2.1 - y = q := ⟨_, rfl⟩
      rw [hp, hq] at CL
      have HF := Lib.hid (show Full l (k, x, y) ↔ p = 0 ∧ q = 0 by
        have := HN.out
        unfold Full; dsimp only
        constructor
        · rintro ⟨_, a, b⟩; exact ⟨by omega, by omega⟩
        · rintro ⟨a, b⟩; exact ⟨by omega, by omega, by omega⟩)
      have y1 : 0 ≤ p := by omega
      have y2 : 0 ≤ q := by omega
      have hne : ((k : Int) == (n : Int)) = false := by simp; omega
      clear tok t1 t2 t3 t4 z1 z2 z3 z4 hp hq
      by_cases hf : p = 0 ∧ q = 0
      · have NS := Lib.hid (HS.out.move OK.out (HF.out.2 hf))
        have NP := Lib.hid ((pastT_move (HF.out.2 hf)).symm.trans HP.out)
        obtain ⟨rfl, rfl⟩ := hf
        clear HF HS HP
        go_wp2_with (first
          | (go_at_call 56; refine (CL _ HK1.out).mono ?_; rintro e w3 ⟨rfl, hb3⟩; have B13 := B1.below hb3; have B23 := B2.below hb3; have hz3 := hb3.size; have r0 := B13.cell (k := 0) rfl; have r1 := B13.cell (k := 1) rfl; have r2 := B13.cell (k := 2) rfl)
          | (refine wpList_store_box rfl 28 _ _ rfl (w.heap.size) #[.int .i64 ((k : Int) + 1), .int .i64 0, .int .i64 0] rfl rfl 28 _ (B13) size_spot rfl (one3 _ _ _) (fun w4 u4 => ?_)))
        go_roundg (n - (k + 1))
        case measure => omega
        case rel => exact ⟨k + 1, 0, 0, by omega, NS, NP, u4.box, u4.bx B23 (by omega), (b_cl hb (Nat.le_refl _) hb3).trans (u4.bel _ (Nat.le_refl _))⟩
      · have NP := Lib.hid ((pastT_still (fun c => hf (HF.out.1 c))).symm.trans HP.out)
        clear HF HS HP
        by_cases hp0 : 0 < p
        · clear hf
          go_wp2_with (first
            | (go_at_call 56; refine (CL _ HK1.out).mono ?_; rintro e w3 ⟨rfl, hb3⟩; have B13 := B1.below hb3; have B23 := B2.below hb3; have hz3 := hb3.size; have r0 := B13.cell (k := 0) rfl; have r1 := B13.cell (k := 1) rfl; have r2 := B13.cell (k := 2) rfl)
            | refine wpList_load_box (by rfl) 28 _ rfl (w.heap.size) rfl 28 #[.int .i64 k, .int .i64 x, .int .i64 y] _ (B13) Try.underlying28 rfl size_spot ?_
            | (refine wpList_store_box rfl 28 _ _ rfl (w.heap.size + 1) #[.int .i64 k, .int .i64 x, .int .i64 y] rfl rfl 28 _ (B23) size_spot rfl (one3 _ _ _) (fun w4 u4 => ?_)))
          rw [Exit.noGoto_ret]
          refine bodyPost_ret (v := .agg #[.int .i64 k, .int .i64 x, .int .i64 y]) (results_box1 Try.results54 _ _ (w.heap.size + 1) 28 #[.int .i64 k, .int .i64 x, .int .i64 y] _ rfl u4.box Try.underlying28 rfl size_spot) rfl ⟨?_, ?_⟩
          · rw [← NP.out]; rfl
          · exact (b_cl hb (Nat.le_refl _) hb3).trans (u4.bel _ (by omega))
        · obtain rfl : p = 0 := by omega
          have hq0 : 0 < q := by omega
          clear hf hp0
          go_wp2_with (first
            | (go_at_call 56; refine (CL _ HK1.out).mono ?_; rintro e w3 ⟨rfl, hb3⟩; have B13 := B1.below hb3; have B23 := B2.below hb3; have hz3 := hb3.size; have r0 := B13.cell (k := 0) rfl; have r1 := B13.cell (k := 1) rfl; have r2 := B13.cell (k := 2) rfl)
            | refine wpList_load_box (by rfl) 28 _ rfl (w.heap.size) rfl 28 #[.int .i64 k, .int .i64 x, .int .i64 y] _ (B13) Try.underlying28 rfl size_spot ?_
            | (refine wpList_store_box rfl 28 _ _ rfl (w.heap.size + 1) #[.int .i64 k, .int .i64 x, .int .i64 y] rfl rfl 28 _ (B23) size_spot rfl (one3 _ _ _) (fun w4 u4 => ?_)))
          rw [Exit.noGoto_ret]
          refine bodyPost_ret (v := .agg #[.int .i64 k, .int .i64 x, .int .i64 y]) (results_box1 Try.results54 _ _ (w.heap.size + 1) 28 #[.int .i64 k, .int .i64 x, .int .i64 y] _ rfl u4.box Try.underlying28 rfl size_spot) rfl ⟨?_, ?_⟩
          · rw [← NP.out]; rfl
          · exact (b_cl hb (Nat.le_refl _) hb3).trans (u4.bel _ (by omega))
    · obtain rfl : k = n := by omega
      have NP := Lib.hid ((pastT_still (fun c : Full l (k, x, y) => by have := c.1; have := HN.out; simp only at *; omega)).symm.trans HP.out)
      have CL := fun W => left19_end A k c (k : Int) x y W rfl
      have heq : ((k : Int) == (k : Int)) = true := by simp
      clear HS HP
      go_wp2_with (first
        | (go_at_call 56; refine (CL _).mono ?_; rintro e w3 ⟨rfl, hb3⟩; have B13 := B1.below hb3; have B23 := B2.below hb3; have hz3 := hb3.size; have r0 := B13.cell (k := 0) rfl; have r1 := B13.cell (k := 1) rfl; have r2 := B13.cell (k := 2) rfl)
        | refine wpList_load_box (by rfl) 28 _ rfl (w.heap.size) rfl 28 #[.int .i64 k, .int .i64 x, .int .i64 y] _ (B13) Try.underlying28 rfl size_spot ?_
        | (refine wpList_store_box rfl 28 _ _ rfl (w.heap.size + 1) #[.int .i64 k, .int .i64 x, .int .i64 y] rfl rfl 28 _ (B23) size_spot rfl (one3 _ _ _) (fun w4 u4 => ?_)))
      rw [Exit.noGoto_ret]
      refine bodyPost_ret (v := .agg #[.int .i64 k, .int .i64 x, .int .i64 y]) (results_box1 Try.results54 _ _ (w.heap.size + 1) 28 #[.int .i64 k, .int .i64 x, .int .i64 y] _ rfl u4.box Try.underlying28 rfl size_spot) rfl ⟨?_, ?_⟩
      · rw [← NP.out]; rfl
      · exact (b_cl hb (Nat.le_refl _) hb3).trans (u4.bel _ (by omega))

end Go.Proofs.Ytolbihfnogbjaaa

/- The cells of labels, of rules, of ways: loaded, built, compared. Conditions: none beyond each lemma's own premises. -/
namespace Go.Proofs.Ytolbihfnogbjaaa
open Go.RowKit

/-- A label's cells. -/
def lb (a : Lb) : Array Value := #[.int .i64 a.1.now, .int .i64 a.1.acc, .bool a.1.half, .int .i64 a.1.lie, .int .i64 a.1.dawn, .int .i64 a.1.day, .int .i64 a.1.longers, .bool a.1.split, .int .i64 a.1.reduces, .int .i64 a.1.sabbath, .bool a.1.brief, .int .i64 a.1.week, .int .i64 a.1.last, .int .i64 a.1.labour, .int .i64 a.2.1, .int .i64 a.2.2.1, .int .i64 a.2.2.2]
theorem lb_size (a : Lb) : (lb a).size = 17 := rfl
theorem lb_one (a : Lb) : (lb a).all (·.oneCell') = true := by kernel_rfl
theorem lb_list (a : Lb) : (lb a).toList = (mt a.1).toList ++ (sp3 a.2).toList := rfl

theorem lb_meter {w : World} {b off : Nat} {a : Lb} (h : w.rangeAt b off (lb a).toList) : w.rangeAt b off (mt a.1).toList := fun j v hj => by
  refine h j v ?_
  rw [lb_list, List.getElem?_append_left (List.getElem?_eq_some_iff.1 hj).1]
  exact hj
theorem lb_spot {w : World} {b off : Nat} {a : Lb} (h : w.rangeAt b off (lb a).toList) : w.rangeAt b (off + 14) (sp3 a.2).toList := fun j v hj => by
  rw [Nat.add_assoc]
  refine h (14 + j) v ?_
  rw [lb_list, List.getElem?_append_right (by show 14 ≤ 14 + j; omega)]
  show (sp3 a.2).toList[14 + j - 14]? = some v
  rw [Nat.add_sub_cancel_left]
  exact hj
theorem Bx.all {W : World} {g : Nat} {t : TypeId} {cs : Array Value} (h : Bx W g t cs) : W.rangeAt g 0 cs.toList := fun j v hj => by
  rw [Nat.zero_add]
  exact h.cell (by simpa using hj)
theorem Bx.lbM {W : World} {g : Nat} {t : TypeId} {a : Lb} (h : Bx W g t (lb a)) : W.rangeAt g 0 (mt a.1).toList := lb_meter h.all
theorem Bx.lbS {W : World} {g : Nat} {t : TypeId} {a : Lb} (h : Bx W g t (lb a)) : W.rangeAt g 14 (sp3 a.2).toList := by
  have := lb_spot h.all
  rwa [Nat.zero_add] at this
theorem Bx.lbN {W : World} {g : Nat} {t : TypeId} {a : Lb} (h : Bx W g t (lb a)) : W.cell? ⟨g, 0, none⟩ = some (.int .i64 a.1.now) := h.cell rfl

/-- The cells of a book and tasks. -/
def rl (x : Nat → Int) (A : Option Addr) (n c : Nat) : Array Value := #[.int .i64 (x 0), .int .i64 (x 1), .int .i64 (x 2), .int .i64 (x 3), .int .i64 (x 4), .int .i64 (x 5), .int .i64 (x 6), .int .i64 (x 7), .int .i64 (x 8), .int .i64 (x 9), .int .i64 (x 10), .int .i64 (x 11), .int .i64 (x 12), .int .i64 (x 13), .int .i64 (x 14), .int .i64 (x 15), .int .i64 (x 16), .int .i64 (x 17), .int .i64 (x 18), .slice A n c]
theorem rl_size (x : Nat → Int) (A : Option Addr) (n c : Nat) : (rl x A n c).size = 20 := rfl
theorem rl_one (x : Nat → Int) (A : Option Addr) (n c : Nat) : (rl x A n c).all (·.oneCell') = true := by kernel_rfl
theorem rl_list (x : Nat → Int) (A : Option Addr) (n c : Nat) : (rl x A n c).toList = (bk x).toList ++ [.slice A n c] := rfl
theorem Bx.rlB {W : World} {g : Nat} {t : TypeId} {x : Nat → Int} {A : Option Addr} {n c : Nat} (h : Bx W g t (rl x A n c)) : W.rangeAt g 0 (bk x).toList := fun j v hj => by
  refine h.all j v ?_
  rw [rl_list, List.getElem?_append_left (List.getElem?_eq_some_iff.1 hj).1]
  exact hj
theorem Bx.rlT {W : World} {g : Nat} {t : TypeId} {x : Nat → Int} {A : Option Addr} {n c : Nat} (h : Bx W g t (rl x A n c)) : W.cell? ⟨g, 19, none⟩ = some (.slice A n c) := h.cell rfl

/-- A way's cells. -/
def nx (p : Int × Lb) : Array Value := #[.int .i64 p.1, .int .i64 p.2.1.now, .int .i64 p.2.1.acc, .bool p.2.1.half, .int .i64 p.2.1.lie, .int .i64 p.2.1.dawn, .int .i64 p.2.1.day, .int .i64 p.2.1.longers, .bool p.2.1.split, .int .i64 p.2.1.reduces, .int .i64 p.2.1.sabbath, .bool p.2.1.brief, .int .i64 p.2.1.week, .int .i64 p.2.1.last, .int .i64 p.2.1.labour, .int .i64 p.2.2.1, .int .i64 p.2.2.2.1, .int .i64 p.2.2.2.2]
theorem nx_one (p : Int × Lb) : (nx p).all (·.oneCell') = true := by kernel_rfl
theorem nx_list (p : Int × Lb) : (nx p).toList = .int .i64 p.1 :: (lb p.2).toList := rfl
def nxW : Wd (Int × Lb) where
  T := 44
  n := 18
  enc p := (nx p).toList
  len _ := rfl
  one p v hv := by
    have := nx_one p
    rw [Array.all_eq_true'] at this
    exact this v (by simpa using hv)
  pos := by decide
theorem nx_kind {w : World} {b off : Nat} {p : Int × Lb} (h : w.rangeAt b off (nx p).toList) : w.cell? ⟨b, off, none⟩ = some (.int .i64 p.1) := h 0 _ rfl
theorem nx_label {w : World} {b off : Nat} {p : Int × Lb} (h : w.rangeAt b off (nx p).toList) : w.rangeAt b (off + 1) (lb p.2).toList := fun j v hj => by
  rw [Nat.add_assoc, Nat.add_comm 1 j]
  refine h (j + 1) v ?_
  rw [nx_list]
  exact hj

/-! ### Labels compared -/

def ptB (s u : Pt) : Bool := s.1 == u.1 && (s.2.1 == u.2.1 && s.2.2 == u.2.2)
def Lbeq (s u : Lb) : Bool := s.1.eqB u.1 && ptB s.2 u.2
theorem Lbeq_self (s : Lb) : Lbeq s s = true := by unfold Lbeq ptB; rw [Mt.eqB_self]; simp

theorem sp3_int (s : Pt) : ∀ i, i < 3 → ∃ n, (sp3 s)[i]? = some (.int .i64 n) := by
  intro i hi
  have : i = 0 ∨ i = 1 ∨ i = 2 := by omega
  rcases this with rfl | rfl | rfl <;> exact ⟨_, rfl⟩
theorem sp3_all (s u : Pt) : ((List.range 3).all fun i => veq ((sp3 s).getD i undef) ((sp3 u).getD i undef)) = ptB s u := by
  simp [List.range, List.range.loop, sp3, veq, ptB]
theorem fields_sp3 : (Try.prog.fieldsOf 28).toList.map (·.offset) = List.range 3 := by kernel_rfl
theorem fields_sp3b : ∀ f ∈ (Try.prog.fieldsOf 28).toList, f.name ≠ "_" ∧ f.type = 3 ∧ f.offset < 3 := of_decide_eq_true (by kernel_rfl)

set_option maxRecDepth 20000 in
theorem equal_sp3 (s u : Pt) (w : World) (d : Nat) : (Op.equalIn (d + 1 + 1) 28 (.agg (sp3 s)) (.agg (sp3 u))).run Try.prog w = .ok (ptB s u) w := by
  rw [run_equalIn_struct w (d + 1) 28 (sp3 s) (sp3 u) (by kernel_rfl) (by kernel_rfl), eqFields_bas (sp3 s) (sp3 u) w d _ (fun f hf => by
    obtain ⟨hn, ht, ho⟩ := fields_sp3b f hf
    obtain ⟨a, ha⟩ := sp3_int s _ ho
    obtain ⟨b, hb'⟩ := sp3_int u _ ho
    exact ⟨hn, _, _, ha, hb', Or.inl ⟨.i64, a, b, by rw [ht]; exact Try.underlying3, rfl, rfl⟩⟩)]
  congr 1
  rw [← sp3_all, ← fields_sp3, List.all_map]
  rfl

set_option maxRecDepth 20000 in
theorem equal_mtD (s u : Mt) (w : World) (d : Nat) : (Op.equalIn (d + 1 + 1) 26 (.agg (mt s)) (.agg (mt u))).run Try.prog w = .ok (s.eqB u) w := by
  rw [run_equalIn_struct w (d + 1) 26 (mt s) (mt u) (by kernel_rfl) (by kernel_rfl), eqFields_bas (mt s) (mt u) w d _ (fun f hf => by
    obtain ⟨hn, ht, ho⟩ := fields_mtb f hf
    by_cases hb : f.offset = 2 ∨ f.offset = 7 ∨ f.offset = 10
    · rw [if_pos hb] at ht
      obtain ⟨a, ha⟩ := mt_bool s _ hb
      obtain ⟨b, hb'⟩ := mt_bool u _ hb
      exact ⟨hn, _, _, ha, hb', Or.inr ⟨a, b, by rw [ht]; exact Try.underlying4, rfl, rfl⟩⟩
    · rw [if_neg hb] at ht
      obtain ⟨a, ha⟩ := mt_int s _ ho hb
      obtain ⟨b, hb'⟩ := mt_int u _ ho hb
      exact ⟨hn, _, _, ha, hb', Or.inl ⟨.i64, a, b, by rw [ht]; exact Try.underlying3, rfl, rfl⟩⟩)]
  congr 1
  rw [← mt_all, ← fields_mt, List.all_map]
  rfl

theorem run_isAgg_struct {P : Program} {t : TypeId} {fs : Array Field} (h : P.underlying t = some (.struct fs)) (w : World) : (isAgg t).run P w = .ok true w := by
  unfold isAgg
  rw [Sem.run_bind, run_underlying h w]; simp

theorem part_meter (a : Lb) (w : World) : (part 26 (lb a) 0).run Try.prog w = .ok (.agg (mt a.1)) w := by
  obtain ⟨i, hi⟩ := Go.info_of_underlying Try.underlying26
  unfold part
  rw [Sem.run_bind, run_isAgg_struct Try.underlying26]
  simp only [Result.andThen_ok, if_true, Sem.run_bind, Go.run_sizeOf _ hi, show Try.prog.cellsOf 26 = 14 by kernel_rfl]
  rfl
theorem part_spot (a : Lb) (w : World) : (part 28 (lb a) 14).run Try.prog w = .ok (.agg (sp3 a.2)) w := by
  obtain ⟨i, hi⟩ := Go.info_of_underlying Try.underlying28
  unfold part
  rw [Sem.run_bind, run_isAgg_struct Try.underlying28]
  simp only [Result.andThen_ok, if_true, Sem.run_bind, Go.run_sizeOf _ hi, show Try.prog.cellsOf 28 = 3 by kernel_rfl]
  rfl

theorem fields_lb : (Try.prog.fieldsOf 33).toList.map (fun f => (f.name, f.offset, f.type)) = [("M", 0, 26), ("S", 14, 28)] := by kernel_rfl
theorem fields_lbR : (Try.prog.fieldsOf 30).toList.map (fun f => (f.name, f.offset, f.type)) = [("M", 0, 26), ("S", 14, 28)] := by kernel_rfl

theorem eqFields_lb {fs : List Field} (h : fs.map (fun f => (f.name, f.offset, f.type)) = [("M", 0, 26), ("S", 14, 28)]) (s u : Lb) (w : World) (d : Nat) : (Op.eqFields (d + 1 + 1 + 1) (lb s) (lb u) fs).run Try.prog w = .ok (Lbeq s u) w := by
  have hlen : fs.length = 2 := by simpa using congrArg List.length h
  match fs, hlen with
  | [f, g], _ =>
    simp only [List.map_cons, List.map_nil, List.cons.injEq, Prod.mk.injEq, and_true] at h
    obtain ⟨⟨n0, o0, t0⟩, n1, o1, t1⟩ := h
    unfold Op.eqFields
    rw [if_pos (by rw [n0]; decide), o0, t0]
    simp only [Sem.run_bind, part_meter, equal_mtD, Result.andThen_ok]
    unfold Lbeq
    cases s.1.eqB u.1 with
    | false => simp
    | true =>
      rw [if_neg (by simp)]
      unfold Op.eqFields
      rw [if_pos (by rw [n1]; decide), o1, t1]
      simp only [Sem.run_bind, part_spot, equal_sp3, Result.andThen_ok, Bool.true_and]
      cases ptB s.2 u.2 with
      | false => simp
      | true => simp [Op.eqFields]

theorem guard_lb : Try.prog.eqGuardType Try.prog.depth 33 = false := by kernel_rfl
theorem guard_lbR : Try.prog.eqGuardType Try.prog.depth 30 = false := by kernel_rfl
theorem equal_lb (s u : Lb) (w : World) : (Op.equalIn 10000 33 (.agg (lb s)) (.agg (lb u))).run Try.prog w = .ok (Lbeq s u) w := by
  rw [show (10000 : Nat) = 9996 + 1 + 1 + 1 + 1 from rfl, run_equalIn_struct w (9996 + 1 + 1 + 1) 33 (lb s) (lb u) (by kernel_rfl) (by kernel_rfl)]
  exact eqFields_lb fields_lb s u w 9996
theorem equal_lbR (s u : Lb) (w : World) : (Op.equalIn 10000 30 (.agg (lb s)) (.agg (lb u))).run Try.prog w = .ok (Lbeq s u) w := by
  rw [show (10000 : Nat) = 9996 + 1 + 1 + 1 + 1 from rfl, run_equalIn_struct w (9996 + 1 + 1 + 1) 30 (lb s) (lb u) (by kernel_rfl) (by kernel_rfl)]
  exact eqFields_lb fields_lbR s u w 9996

section
variable {ops : Array Oper} {rest : List Oper} {o : Oper} {a : Act} {w : World} {Q : Exit → Act → World → Prop}
theorem exec_eql_lb {r : Operand → Value} {e f : Operand} {u : TypeId} (x y : Lb) (w : World) (ho : o.op = .binOp .eql 33 e f u) (hx : r e = .agg (lb x)) (hy : r f = .agg (lb y)) : (execOp r o).run Try.prog w = .ok (.value (.bool (Lbeq x y))) w := by
  unfold execOp
  simp only [ho, hx, hy, Sem.run_bind, run_eqGuard_agg w .eql 33 e f (lb x) (lb y) guard_lb, run_eql_struct, equal_lb, Result.andThen_ok]
  rfl
theorem wpList_eql_lb (hw : Region.wanted o (yielded ops a.tmps) = true) {e f : Operand} {u : TypeId} (ho : o.op = .binOp .eql 33 e f u) (x y : Lb) (v : Bool) (hx : a.eval e = .agg (lb x)) (hy : a.eval f = .agg (lb y)) (hv : Lbeq x y = v)
    (h : wpList Try.prog ops Q rest (a.put o.dst (.bool v)) w) : wpList Try.prog ops Q (o :: rest) a w :=
  wpList_yields hw (fun w => exec_eql_lb x y w ho hx hy) (by rw [hv]; exact h)
theorem exec_eql_lbR {r : Operand → Value} {e f : Operand} {u : TypeId} (x y : Lb) (w : World) (ho : o.op = .binOp .eql 30 e f u) (hx : r e = .agg (lb x)) (hy : r f = .agg (lb y)) : (execOp r o).run Try.prog w = .ok (.value (.bool (Lbeq x y))) w := by
  unfold execOp
  simp only [ho, hx, hy, Sem.run_bind, run_eqGuard_agg w .eql 30 e f (lb x) (lb y) guard_lbR, run_eql_struct, equal_lbR, Result.andThen_ok]
  rfl
theorem wpList_eql_lbR (hw : Region.wanted o (yielded ops a.tmps) = true) {e f : Operand} {u : TypeId} (ho : o.op = .binOp .eql 30 e f u) (x y : Lb) (v : Bool) (hx : a.eval e = .agg (lb x)) (hy : a.eval f = .agg (lb y)) (hv : Lbeq x y = v)
    (h : wpList Try.prog ops Q rest (a.put o.dst (.bool v)) w) : wpList Try.prog ops Q (o :: rest) a w :=
  wpList_yields hw (fun w => exec_eql_lbR x y w ho hx hy) (by rw [hv]; exact h)
theorem exec_neq_lbR {r : Operand → Value} {e f : Operand} {u : TypeId} (x y : Lb) (w : World) (ho : o.op = .binOp .neq 30 e f u) (hx : r e = .agg (lb x)) (hy : r f = .agg (lb y)) : (execOp r o).run Try.prog w = .ok (.value (.bool (!Lbeq x y))) w := by
  unfold execOp
  simp only [ho, hx, hy, Sem.run_bind, run_eqGuard_agg w .neq 30 e f (lb x) (lb y) guard_lbR, run_neq_struct, equal_lbR, Result.andThen_ok]
  rfl
end

/-! ### A slice of tasks cut -/

/-- Where the tasks from i on lie. -/
def advK (A : Option Addr) (c i : Nat) : Option Addr := if c = i then A else A.map (·.add (i * 3))
theorem exec_slice_tk {r : Operand → Value} {o : Oper} {x lo hi : Operand} (A : Option Addr) (n c i e d : Nat) (w : World) (il ie : Int) (ho : o.op = .slice 24 x (some lo) (some hi) none) (hx : r x = .slice A n c) (hl : r lo = .int .i64 il) (hh : r hi = .int .i64 ie) (el : il = i) (ee : ie = e) (h1 : i ≤ e) (h2 : e ≤ c) (hd : e - i = d) :
    (execOp r o).run Try.prog w = .ok (.value (.slice (advK A c i) d (c - i))) w := by
  subst el ee hd
  have hu : Try.prog.underlying 24 = some (.slice (Try.prog.elem 24)) := by kernel_rfl
  have hz : (sizeOf (Try.prog.elem 24)).run Try.prog w = .ok 3 w := by
    have e : Try.prog.elem 24 = 59 := by kernel_rfl
    obtain ⟨j, hj⟩ := Go.info_of_underlying Try.underlying59
    rw [e, Go.run_sizeOf _ hj, show Try.prog.cellsOf 59 = 3 by kernel_rfl]
  unfold execOp
  simp only [ho, hx, hl, hh, Option.map_some, Option.map_none, Sem.run_bind, run_sliceAt_slice w 24 _ _ _ _ hu]
  rw [run_slice_lh w 24 A n c hu .i64 .i64 (i : Int) (e : Int) (by omega) (by omega) (by omega), hz]
  simp [sliced, advK]
theorem exec_slice_tkL {r : Operand → Value} {o : Oper} {x lo : Operand} (A : Option Addr) (n c i d : Nat) (w : World) (il : Int) (ho : o.op = .slice 24 x (some lo) none none) (hx : r x = .slice A n c) (hl : r lo = .int .i64 il) (el : il = i) (h1 : i ≤ n) (hd : n - i = d) :
    (execOp r o).run Try.prog w = .ok (.value (.slice (advK A c i) d (c - i))) w := by
  subst el hd
  have hu : Try.prog.underlying 24 = some (.slice (Try.prog.elem 24)) := by kernel_rfl
  have hz : (sizeOf (Try.prog.elem 24)).run Try.prog w = .ok 3 w := by
    have e : Try.prog.elem 24 = 59 := by kernel_rfl
    obtain ⟨j, hj⟩ := Go.info_of_underlying Try.underlying59
    rw [e, Go.run_sizeOf _ hj, show Try.prog.cellsOf 59 = 3 by kernel_rfl]
  unfold execOp
  simp only [ho, hx, hl, Option.map_some, Option.map_none, Sem.run_bind, run_sliceAt_slice w 24 _ _ _ _ hu]
  rw [run_slice_l w 24 A n c hu .i64 (i : Int) (by omega) (by omega), hz]
  simp [sliced, advK]
theorem wpList_slice_tkL {ops : Array Oper} {rest : List Oper} {o : Oper} {a : Act} {w : World} {Q : Exit → Act → World → Prop} (hw : Region.wanted o (yielded ops a.tmps) = true) {x lo : Operand} (A : Option Addr) (n c i d : Nat) (il : Int) (ho : o.op = .slice 24 x (some lo) none none) (hx : a.eval x = .slice A n c) (hl : a.eval lo = .int .i64 il) (el : il = i) (h1 : i ≤ n) (hd : n - i = d)
    (h : wpList Try.prog ops Q rest (a.put o.dst (.slice (advK A c i) d (c - i))) w) : wpList Try.prog ops Q (o :: rest) a w :=
  wpList_yields hw (fun w => exec_slice_tkL A n c i d w il ho hx hl el h1 hd) h

/-- Of tasks that can be read, any that lie together can be read. -/
theorem RdK.cut {w : World} {A : Option Addr} {l s : List Tk} {c i : Nat} (h : RdK w A l) (hc : l.length ≤ c) (hs : ∀ k, k < s.length → i + k < l.length ∧ s.getD k tz = l.getD (i + k) tz) : RdK w (advK A c i) s := fun hne => by
  have h0 : 0 < s.length := by
    cases s with
    | nil => exact absurd rfl hne
    | cons _ _ => simp
  have hi := (hs 0 h0).1
  obtain ⟨b, off, rfl, hb, hk⟩ := h (by intro e; subst e; simp at hi)
  refine ⟨b, off + i * 3, ?_, hb, fun k hk' => ?_⟩
  · unfold advK
    rw [if_neg (by omega), Option.map_some, addr_plain]
  · obtain ⟨h1, h2⟩ := hs k hk'
    obtain ⟨B, q, c1, c2, c3, c4⟩ := hk (i + k) h1
    have e : off + (i + k) * 3 = off + i * 3 + k * 3 := by omega
    rw [e] at c1 c2 c3
    rw [h2]
    exact ⟨B, q, c1, c2, c3, c4⟩
theorem RdK.part {w : World} {A : Option Addr} {l : List Tk} {c i : Nat} (h : RdK w A l) (hc : l.length ≤ c) : RdK w (advK A c i) (partT l i) :=
  h.cut hc fun k hk => by
    unfold partT at hk ⊢
    have hl : k < min 1 (l.length - i) := by simpa using hk
    refine ⟨by omega, ?_⟩
    simp only [List.getD_eq_getElem?_getD, List.getElem?_take, List.getElem?_drop]
    rw [if_pos (by omega)]
theorem RdK.dropI {w : World} {A : Option Addr} {l : List Tk} {c i : Nat} (h : RdK w A l) (hc : l.length ≤ c) : RdK w (advK A c i) (l.drop i) :=
  h.cut hc fun k hk => by
    have hl : k < l.length - i := by simpa using hk
    refine ⟨by omega, ?_⟩
    simp only [List.getD_eq_getElem?_getD, List.getElem?_drop]

end Go.Proofs.Ytolbihfnogbjaaa

/- A label, and tasks with a label, as arguments: opened to what they hold. Conditions: none. -/
namespace Go.Proofs.Ytolbihfnogbjaaa
open Go.ChangeShapes Go.WideShapes Go.ChangeAt Go.RowKit Go.Joins Go.Deep
set_option linter.unusedVariables false

theorem cells_label25 : Try.prog.cellsOf 30 = 17 := by kernel_rfl
theorem cells_start25 : Try.prog.cellsOf 47 = 18 := by kernel_rfl

/-- The spot's numbers are some of 64 bits. -/
def In64 (a : Lb) : Prop := (-9223372036854775808 ≤ a.2.2.1 ∧ a.2.2.1 ≤ 9223372036854775807) ∧ (-9223372036854775808 ≤ a.2.2.2 ∧ a.2.2.2 ≤ 9223372036854775807)

section
variable {H : Type} {enc : TypeId × Value → H} {w : World} {base : Nat} {spare : Nat → Bool} {held : Bool}

set_option maxRecDepth 20000 in
theorem read_label25 {fuel : Nat} {cs : List Value} {x : DataW H × List MemPlace} (h : DataW.trod enc Try.prog w base spare held fuel 30 cs = some x) : ∃ a : Lb, cs = (lb a).toList ∧ In64 a := by
  obtain ⟨ys, n, _, _, hl, hyl, hf⟩ := DataW.trod_struct Try.underlying30 h
  rw [cells_label25] at hl
  have hyl2 : ys.length = 2 := hyl
  match ys, hyl2 with
  | [y0, y1], _ =>
    obtain ⟨m, hm⟩ := read_mtr24 (hf 0 _ rfl)
    obtain ⟨i, p, q, hs, wp, wq⟩ := read_spot22 (hf 1 _ rfl)
    refine ⟨(m, (i, p, q)), ?_, wf_i64 wp, wf_i64 wq⟩
    rw [lb_list, show (sp3 (i, p, q)).toList = [.int .i64 i, .int .i64 p, .int .i64 q] from rfl, ← hm, ← hs]
    have e1 : Try.prog.cellsOf 28 = 3 := cells_spot19
    have e2 : Try.prog.cellsOf 26 = 14 := cells_mtr24
    show cs = (cs.drop 0).take (Try.prog.cellsOf 26) ++ (cs.drop 14).take (Try.prog.cellsOf 28)
    rw [e1, e2, List.drop_zero, List.take_of_length_le (l := cs.drop 14) (by simp; omega), List.take_append_drop]

set_option maxRecDepth 20000 in
theorem open_label25 {r : Reach} {b0 : Nat} {v : Value} {d : DataW H} {p : List MemPlace} (hv : Value.okWide Try.prog w r b0 30 v) (h : DataW.Trod enc Try.prog w base spare held 30 v d p) : ∃ a : Lb, v = .agg (lb a) ∧ In64 a := by
  obtain ⟨cs, rfl, hsz⟩ := okWide_struct Try.underlying30 hv
  obtain ⟨fuel, hf⟩ := h
  obtain ⟨a, ha, hi⟩ := read_label25 hf
  refine ⟨a, ?_, hi⟩
  have : cs = lb a := Array.ext' ha
  rw [this]

/-- Tasks and a label, as cells. -/
def sr (A : Option Addr) (n c : Nat) (a : Lb) : Array Value := #[.slice A n c, .int .i64 a.1.now, .int .i64 a.1.acc, .bool a.1.half, .int .i64 a.1.lie, .int .i64 a.1.dawn, .int .i64 a.1.day, .int .i64 a.1.longers, .bool a.1.split, .int .i64 a.1.reduces, .int .i64 a.1.sabbath, .bool a.1.brief, .int .i64 a.1.week, .int .i64 a.1.last, .int .i64 a.1.labour, .int .i64 a.2.1, .int .i64 a.2.2.1, .int .i64 a.2.2.2]
theorem sr_list (A : Option Addr) (n c : Nat) (a : Lb) : (sr A n c a).toList = .slice A n c :: (lb a).toList := rfl
theorem Bx.srT {W : World} {g : Nat} {t : TypeId} {A : Option Addr} {n c : Nat} {a : Lb} (h : Bx W g t (sr A n c a)) : W.cell? ⟨g, 0, none⟩ = some (.slice A n c) := h.cell rfl
theorem Bx.srL {W : World} {g : Nat} {t : TypeId} {A : Option Addr} {n c : Nat} {a : Lb} (h : Bx W g t (sr A n c a)) : W.rangeAt g 1 (lb a).toList := fun j v hj => by
  have := h.all (j + 1) v (by rw [sr_list]; exact hj)
  rwa [Nat.zero_add, Nat.add_comm j 1] at this

set_option maxRecDepth 20000 in
theorem open_start25 {r : Reach} {b0 : Nat} {v : Value} {d : DataW H} {p : List MemPlace} (hv : Value.okWide Try.prog w r b0 47 v) (h : DataW.Trod enc Try.prog w base spare held 47 v d p) :
    ∃ (A : Option Addr) (n c : Nat) (l : List Tk) (a : Lb), v = .agg (sr A n c a) ∧ l.length = n ∧ RdK w A l ∧ n ≤ c ∧ (A = none → c = 0) ∧ In64 a := by
  obtain ⟨cs, rfl, hsz⟩ := okWide_struct Try.underlying47 hv
  rw [cells_start25] at hsz
  obtain ⟨fuel, hf⟩ := h
  obtain ⟨xs, n, _, _, hl, hlen, hg⟩ := DataW.trod_struct Try.underlying47 hf
  have hyl : xs.length = 2 := hlen
  match xs, hyl with
  | [y0, y1], _ =>
    obtain ⟨A, k, c, l, e0, hk, rk, hkc, zk⟩ := read_tasks22 (hg 0 _ rfl)
    obtain ⟨a, e1, hi⟩ := read_label25 (hg 1 _ rfl)
    have e0 : (cs.toList.drop 0).take (Try.prog.cellsOf 24) = [.slice A k c] := e0
    have e1 : (cs.toList.drop 1).take (Try.prog.cellsOf 30) = (lb a).toList := e1
    rw [cells_tasks22] at e0
    rw [cells_label25, List.take_of_length_le (by simp; omega)] at e1
    refine ⟨A, k, c, l, a, ?_, hk, rk, hkc, zk, hi⟩
    have e : cs = sr A k c a := Array.ext' (by
      rw [sr_list, ← e1, ← List.singleton_append, ← e0, List.drop_zero, List.take_append_drop])
    rw [e]

end

end Go.Proofs.Ytolbihfnogbjaaa
