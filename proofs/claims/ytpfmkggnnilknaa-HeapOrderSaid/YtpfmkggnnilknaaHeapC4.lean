/- What New of layer 23 makes of items. Conditions: these can be read, and are a million million at most. -/
import Derived.Test.YtpfmkggnnilknaaRows
import Derived.Test.YtpfmkggnnilknaaBase
import Derived.Test.YtpfmkggnnilknaaRow
import Derived.Test.YtpfmkggnnilknaaRecMath
import Derived.Test.YtpfmkggnnilknaaTriLt
import Derived.Test.YtpfmkggnnilknaaBox
import Derived.Test.YtpfmkggnnilknaaFindHeap
import Derived.Test.YtpfmkggnnilknaaTriHeap
import Derived.Test.YtpfmkggnnilknaaHeapMath
import Derived.Test.YtpfmkggnnilknaaHeapHeap
import Derived.Test.YtpfmkggnnilknaaHeapLeaf
import Derived.Test.YtpfmkggnnilknaaHeapApp
import Derived.Test.YtpfmkggnnilknaaHeapPile
import Derived.Test.YtpfmkggnnilknaaHeapLib
import Derived.Test.YtpfmkggnnilknaaHeapPush
import Derived.Test.YtpfmkggnnilknaaHeapLib2
import Derived.Test.YtpfmkggnnilknaaHeapC
import Derived.Test.YtpfmkggnnilknaaHeapC2
import Derived.Test.YtpfmkggnnilknaaHeapC3
import Derived.WalkKit
import Derived.WalkSpells
import Derived.WalkSmall
import Derived.Below
import Derived.Lib.Hide
import Derived.BigQuiet
import Derived.Outline
import Derived.OwnWalk
import Derived.Deep.QuietTactic
import Derived.Deep.DeepCutAuto
import Derived.Deep.RegionWith
import Derived.Deep.LoopGhost
import Derived.Laws.CopyRow
import Derived.Laws.OwnMore
namespace Go.Proofs.Ytpfmkggnnilknaa
open Go.RowKit

theorem run_copy_rows {P : Program} (w : World) (dT sT ty elem : TypeId) (g dLen dCap size : Nat) (a : Addr) (sLen sCap : Nat) (cur : Array Value) (t : TypeId) (cs : List Value)
    (hu : P.underlying dT = some (.slice elem)) (hs : (P.info? elem).map (·.size) = some size)
    (hg : w.heap[g]? = some (.cells cur t (0, 0))) (hn : cs.length = Nat.min sLen dLen * size)
    (hsrc : ∀ j v, cs[j]? = some v → w.cell? (a.add j) = some v) (hfit : cs.length ≤ cur.size) (h1 : ∀ v ∈ cs, v.oneCell' = true) :
    (Builtin.copy_ #[dT, sT] ty #[.slice (some ⟨g, 0, none⟩) dLen dCap, .slice (some a) sLen sCap]).run P w =
      .ok (goInt (Nat.min sLen dLen)) (w.setRow g (cs ++ cur.toList.drop cs.length).toArray) := by
  have hl := run_loadCells_list (P := P) w a cs hsrc
  have hst := run_storeCells_at P g 0 t cs 0 cur w hg (by simpa using hfit) h1
  cases hq : P.info? elem with
  | none => simp [hq] at hs
  | some i =>
    have hi : i.size = size := by simpa [hq] using hs
    rw [hn] at hl
    simp [Builtin.copy_, run_underlying hu, Builtin.lenOf, Builtin.firstCells, sizeOf, typeInfo, hq, hi, hl]
    simp at hst
    simp [hst]

/-- As many triples as the row has are copied into it. -/
theorem wpList_copy3 {P : Program} {w : World} {ops : Array Oper} {rest : List Oper} {o : Oper} {a : Act} {Q : Exit → Act → World → Prop} (hgd : o.guard = none) (d s : Operand) (dT sT elem : TypeId)
    (ho : o.op = .call { callee := .builtin .copy, args := #[d, s], argTypes := #[dT, sT] }) (hu : P.underlying dT = some (.slice elem)) (hsz : (P.info? elem).map (·.size) = some 3)
    (g n c : Nat) (hd : a.eval d = .slice (some ⟨g, 0, none⟩) n c) (A : Option Addr) (c' : Nat) (hs : a.eval s = .slice A n c') (l : List Rc) (hl : l.length = n) (hr : RdF w A l)
    (t : TypeId) (cur : Array Value) (hg : Bx w g t cur) (hfit : n * 3 ≤ cur.size)
    (h : ∀ W', Upd w g t (flatF l ++ cur.toList.drop (n * 3)).toArray W' → wpList P ops Q rest (a.put o.dst (goInt n)) W') : wpList P ops Q (o :: rest) a w := by
  subst hl
  refine wpList_plain hgd fun K hK => ?_
  cases A with
  | none =>
    obtain rfl : l = [] := by
      apply Classical.byContradiction
      intro hl
      obtain ⟨b, off, e, _⟩ := hr hl
      cases e
    have hrun : (Builtin.copy_ #[dT, sT] o.type #[.slice (some ⟨g, 0, none⟩) 0 c, .slice none 0 c']).run P w = .ok (goInt 0) w := by
      cases hq : P.info? elem with
      | none => simp [hq] at hsz
      | some i => simp [Builtin.copy_, run_underlying hu, Builtin.lenOf, Builtin.firstCells, sizeOf, typeInfo, hq, storeCells]
    unfold Oper.wp
    simp only [List.length_nil] at hd hs
    simp [execOp, ho, resolve, invoke, builtin, hd, hs, hrun, Result.andThen]
    exact hK _ _ (h w (by simpa [flatF] using Upd.same hg))
  | some ad =>
    have hlen : (flatF l).length = Nat.min l.length l.length * 3 := by rw [flatF_len]; simp
    have hrun := run_copy_rows (P := P) w dT sT o.type elem g l.length c 3 ad l.length c' cur t (flatF l) hu hsz hg hlen (RdF.news hr) (by rw [flatF_len]; exact hfit) (fun v hv => flatF_one hv)
    unfold Oper.wp
    simp [execOp, ho, resolve, invoke, builtin, hd, hs, hrun, Result.andThen]
    have hu2 := Upd.of_setRow (flatF l ++ cur.toList.drop (flatF l).length).toArray hg
    rw [flatF_len] at hu2
    exact hK _ _ (h _ (by simpa [flatF_len] using hu2))

set_option maxHeartbeats 1600000 in
theorem new23_any (A : Option Addr) (n c : Nat) (l : List Rc) (w : World) (hl : l.length = n) (hr : RdF w A l) (hn : n ≤ 1000000000000) :
    Calls Try.prog 12 #[.slice A n c] w fun e w' => ∃ g b, e = .returned (.pointer (some ⟨g, 0, none⟩)) ∧ Hs w' g b (srt l) ∧ Below w.heap.size w w' ∧ w.heap.size ≤ g ∧ w.heap.size ≤ b := by
  obtain ⟨i1, hj, hy0, hy1, hy2⟩ := info_parts info_item
  have HR := Lib.hid hr
  have HL := Lib.hid hl
  clear hr hl
  go_enter Try.func12, Try.ntmps12
  go_wp2_with (first
    | (refine wpList_make_full _ (by rfl) _ _ 47 rfl w.heap.size 28 i1 _ 3 Try.underlying47 hj hy0 hy1 .i64 .i64 _ _ n rfl rfl rfl rfl (by rw [hy2]; omega) (maxLen_big (by omega)) (Nat.le_refl _) (fun w1 r1 g1 => ?_);
        obtain ⟨cap, cur, hrow, hn1, hn2, hn3⟩ : ∃ cap cur, Bx w1 w.heap.size 28 cur ∧ cap = n ∧ cap ≤ maxLen ∧ cur.size = cap * 3 := (by
          rcases r1.2 with ⟨h', _⟩ | ⟨q, cap, cur, h', hb, hg, h1, h2, h3, h4⟩
          · simp at h'
          · simp only [Value.slice.injEq, Option.some.injEq, Addr.mk.injEq, and_true] at h'
            obtain ⟨rfl, _, rfl⟩ := h'
            exact ⟨n, cur, hg, rfl, h2, h3⟩);
        subst hn1;
        have HB1 := Lib.hid ((Below.refl w.heap.size w).grown g1 (Nat.le_refl _) (fun k e => by cases e));
        have HX := Lib.hid (Bx.new (W := w1) 49 #[.slice (some ⟨w.heap.size, 0, none⟩) cap cap] rfl);
        have HC := Lib.hid hrow;
        have q0 : (w1.alloc (.cells #[.slice (some ⟨w.heap.size, 0, none⟩) cap cap] 49)).cell? ⟨w1.heap.size, 0, none⟩ = some (.slice (some ⟨w.heap.size, 0, none⟩) cap cap) := (by simp);
        have lt1 := hrow.lt;
        clear r1 g1 hrow)
    | (refine wpList_copy3 (by rfl) _ _ 47 32 28 rfl Try.underlying47 (by kernel_rfl) w.heap.size cap cap rfl A c rfl l HL.out (HR.out.below (b_al HB1.out (Nat.le_refl _) _)) 28 cur (HC.out.alloc _) (by omega) (fun w2 u2 => ?_);
        have HX2 := Lib.hid (u2.bx HX.out (by omega));
        have HP2 : Hid (Pl w2 w1.heap.size w.heap.size l) := Lib.hid (Pl.of HL.out HX2.out (OwnT.of_cur (Nat.le_refl _) u2.box (Nat.le_refl _) hn2 (by simp [flatF_len, HL.out]; omega) HL.out (by simp [flatF_len, HL.out])));
        have HB2 := Lib.hid ((b_al HB1.out (Nat.le_refl _) _).trans (u2.bel _ (Nat.le_refl _)));
        have CI := init23_any HP2.out (by rw [HL.out]; exact hn); unfold plV at CI; clear u2)
    | (go_at_call 19; refine CI.mono ?_; rintro e w3 ⟨rfl, o, p1, p2, p3, p4⟩; have P1 := Lib.hid p1; have P2 := Lib.hid p2; have P3 := Lib.hid p3; have P4 := Lib.hid p4; clear p1 p2 p3 p4))
  go_ret
  exact ⟨_, _, rfl, ⟨o, P3.out, P2.out, srt_srt l, (srt_perm l).trans P1.out.symm⟩, HB2.out.trans (P4.out.bel _ (by omega) (Nat.le_refl _) HB2.out.size), by omega, Nat.le_refl _⟩

end Go.Proofs.Ytpfmkggnnilknaa
