/- Spots in a row; the library SortFunc of spots. Conditions: as each theorem says. -/
import Derived.Test.YtglgifhpacmhiaaRows
import Derived.Test.YtglgifhpacmhiaaBase
import Derived.Test.YtglgifhpacmhiaaRow
import Derived.Test.YtglgifhpacmhiaaFindHeap
import Derived.Test.YtglgifhpacmhiaaSortMath
import Derived.Test.YtglgifhpacmhiaaSortOrder
import Derived.Test.YtglgifhpacmhiaaSort
import Derived.Test.YtglgifhpacmhiaaSpotOrder
import Derived.Test.YtglgifhpacmhiaaFrontHeap
import Derived.WalkKit
import Derived.WalkSpells
import Derived.WalkSmall
import Derived.Below
import Derived.Lib.Hide
import Derived.Lib.SliceRun
import Derived.Lib.LazyBuf
import Derived.Sort.Grow
import Derived.Laws.AppendOwnNone
namespace Go.Proofs.Ytglgifhpacmhiaa
open Go.RowKit

/-- The spots d lie at block g's begin, and may be written. -/
structure RwS (w : World) (g : Nat) (d : Array Rc) : Prop where
  lt : g < w.heap.size
  cell : ∀ j, j < d.size → w.cell? ⟨g, j * 3, none⟩ = some (.int .i64 d[j]!.1) ∧ w.cell? ⟨g, j * 3 + 1, none⟩ = some (.int .i64 d[j]!.2.1) ∧ w.cell? ⟨g, j * 3 + 2, none⟩ = some (.int .i64 d[j]!.2.2)
  free : ∀ j, j < d.size * 3 → w.frozen? ⟨g, j, none⟩ = false

theorem RwS.below {w w' : World} {g : Nat} {d : Array Rc} (h : RwS w g d) (hb : Below w.heap.size w w') : RwS w' g d :=
  ⟨Nat.lt_of_lt_of_le h.lt hb.size, fun j hj => ⟨c_cl (h.cell j hj).1 hb, c_cl (h.cell j hj).2.1 hb, c_cl (h.cell j hj).2.2 hb⟩, fun j hj => by rw [hb.frozen (p := ⟨g, j, none⟩) h.lt]; exact h.free j hj⟩

theorem arr_getS (d : Array Rc) (j : Nat) (h : j < d.size) : d.toList.getD j rz = d[j]! := by
  rw [getElem!_pos d j h]
  simp [List.getD, h]

def encS3 (s : Rc) : List Value := [.int .i64 s.1, .int .i64 s.2.1, .int .i64 s.2.2]

theorem RwS.holds {w : World} {g : Nat} {d : Array Rc} (h : RwS w g d) : Go.Sort.HoldsK encS3 3 w g 0 d := by
  intro t ht
  have ht : t < d.size * 3 := by simpa using ht
  rw [Nat.zero_add, Go.Sort.get_flatK _ _ _ _ ht]
  refine ⟨?_, h.free t ht⟩
  have hk : t / 3 < d.size := by omega
  have hc := h.cell (t / 3) hk
  have : t % 3 = 0 ∨ t % 3 = 1 ∨ t % 3 = 2 := by omega
  rcases this with hm | hm | hm
  · rw [hm]
    conv => lhs; rw [show t = t / 3 * 3 by omega]
    exact hc.1
  · rw [hm]
    conv => lhs; rw [show t = t / 3 * 3 + 1 by omega]
    exact hc.2.1
  · rw [hm]
    conv => lhs; rw [show t = t / 3 * 3 + 2 by omega]
    exact hc.2.2

theorem RwS.of_holds {w : World} {g : Nat} {d : Array Rc} (hg : g < w.heap.size) (h : Go.Sort.HoldsK encS3 3 w g 0 d) : RwS w g d := by
  refine ⟨hg, fun j hj => ?_, fun j hj => ?_⟩
  · have c0 := (h.cell (c := 0) hj (by omega)).1
    have c1 := (h.cell (c := 1) hj (by omega)).1
    have c2 := (h.cell (c := 2) hj (by omega)).1
    rw [Nat.zero_add] at c0 c1 c2
    exact ⟨c0, c1, c2⟩
  · have := (h j (by simpa using hj)).2
    rwa [Nat.zero_add] at this

theorem sort_belowS {base g n : Nat} {d : Array Rc} {os : Array Obj} {w : World} (hb : base ≤ g) (hw : base ≤ w.heap.size) : Below base w (sortWorldK encS3 3 w g 0 n d os) := by
  refine ⟨rfl, rfl, rfl, size_sortWorldK_c encS3 3 w g 0 n d os, fun k hk => ?_⟩
  unfold sortWorldK
  rw [Go.Sort.heap_grow_old _ _ (by rw [Go.Sort.size_putRowK]; show k < w.heap.size; omega)]
  show (w.heap.modify g _)[k]? = _
  rw [Array.getElem?_modify, if_neg (by omega)]

theorem swoS : Go.Sort.SWO (ltOf ordF) where
  irrefl x := by unfold ltOf; rw [decide_eq_false]; rw [ordF_neg]; exact ltF_irr x
  trans x y z h1 h2 := by
    unfold ltOf at *
    rw [decide_eq_true_eq, ordF_neg] at *
    exact ltF_tr h1 h2
  ntrans x y z h1 h2 := by
    unfold ltOf at *
    rw [decide_eq_false_iff_not, ordF_neg] at *
    exact ltF_nt h1 h2

/-- Spots as elements. -/
def spW : Wd Rc where
  T := 26
  n := 3
  enc s := (sp s).toList
  len _ := rfl
  one s v hv := by
    simp [sp] at hv
    rcases hv with rfl | rfl | rfl <;> rfl
  pos := by decide

theorem sp_one (s : Rc) : (sp s).all (·.oneCell') = true := by kernel_rfl

theorem info_spr : (Try.prog.info? 26).map (fun i => (i.zero, i.size, i.bytes)) = some (some (.agg (sp rz)), 3, 24) := by kernel_rfl

theorem fill_sp (s : Rc) : Instr.fill (fun i => some (i * spW.n, spW.n)) ((Array.range (1 * spW.n)).map ((Value.agg (sp rz)).cells[· % (Value.agg (sp rz)).cells.size]!)) [(0, .agg (spW.enc s).toArray)] = some (spW.enc s).toArray := by kernel_rfl

theorem range_sp {w : World} {b off : Nat} {s : Rc} (h : w.rangeAt b off (sp s).toList) : w.cell? ⟨b, off, none⟩ = some (.int .i64 s.1) ∧ w.cell? ⟨b, off + 1, none⟩ = some (.int .i64 s.2.1) ∧ w.cell? ⟨b, off + 2, none⟩ = some (.int .i64 s.2.2) :=
  ⟨by have := h 0 _ rfl; rwa [Nat.add_zero] at this, h 1 _ rfl, h 2 _ rfl⟩

theorem RwS.of_spots {base : Nat} {w : World} {g n c : Nat} {l : List Rc} (h : OwnG spW base w (.slice (some ⟨g, 0, none⟩) n c) l) : RwS w g l.toArray := by
  obtain ⟨cur, _, hg, _⟩ := h.cur
  refine ⟨hg.lt, fun j hj => ?_, fun j _ => hg.free j⟩
  have hj' : j < l.length := by simpa using hj
  have e : l[j]? = some l.toArray[j]! := by rw [getElem!_pos l.toArray j hj]; simp [hj']
  exact range_sp (h.range e)

theorem RwS.spots {w : World} {g : Nat} {d : Array Rc} (h : RwS w g d) : RdG spW w (some ⟨g, 0, none⟩) d.toList := fun _ => ⟨g, 0, rfl, h.lt, fun j x hx i v hv => by
  have hj : j < d.size := by have := (List.getElem?_eq_some_iff.1 hx).1; simpa using this
  have e : d[j]! = x := by
    rw [getElem!_pos d j hj]
    simpa [hj] using hx
  have hc := h.cell j hj
  rw [e] at hc
  rw [Nat.zero_add]
  have hi : i < 3 := (List.getElem?_eq_some_iff.1 hv).1
  have : i = 0 ∨ i = 1 ∨ i = 2 := by omega
  rcases this with rfl | rfl | rfl
  · injection hv with hv; rw [← hv]; exact hc.1
  · injection hv with hv; rw [← hv]; exact hc.2.1
  · injection hv with hv; rw [← hv]; exact hc.2.2⟩

theorem cmpS (blk off size : Nat) (w : World) : CmpLays Try.prog 25 #[] encS3 3 ordF blk off size w :=
  fun _ _ _ _ x y => order_sp x.1 x.2.1 x.2.2 y.1 y.2.1 y.2.2 _

set_option maxHeartbeats 1000000 in
theorem sortS_any (base g c n : Nat) (d : Array Rc) (w : World) (hd : d.size = n) (h : RwS w g d) (hg : base ≤ g) (hl : n ≤ 4611686018427387903) :
    Calls Try.prog 24 #[.slice (some ⟨g, 0, none⟩) n c, .func (.func 25) #[] #[]] w fun e w' =>
      e = .returned (.tuple #[]) ∧ ∃ d2 : Array Rc, d2.size = n ∧ d2.toList.Perm d.toList ∧ (∀ i j : Nat, i < j → j < d2.size → ¬ ltF d2[j]! d2[i]!) ∧ RwS w' g d2 ∧ Below base w w' := by
  subst hd
  have eg : ∀ args w, (callFunc 25 args).run Try.prog w = .ok (.enter 25 args) w := enters_of Try.func25 (by kernel_rfl) rfl
  have hcon := AnyQ.slices_SortFunc sortL 3 Try.isAgg26 Try.sizeOf26 encS3 (fun _ => rfl) (fun x v hv => by simp [encS3] at hv; rcases hv with rfl | rfl | rfl <;> rfl) ordF swoS 25 #[] g 0 c d w eg (cmpS g 0 _ w) h.holds h.lt (by omega)
  refine hcon.mono fun e w' ⟨he, d2, n, os, hp, hs, hw⟩ => ⟨he, d2, hp.1, ?_, ?_, ?_, ?_⟩
  · have h2 := hp.2.2
    have hsz := hp.1
    rw [Array.extract_eq_self_of_le (by omega), Array.extract_eq_self_of_le (by simp)] at h2
    exact h2
  · intro i j hij hj
    have hsz := hp.1
    have h3 := hs i j (Nat.zero_le _) hij (by omega)
    unfold ltOf at h3
    rw [decide_eq_false_iff_not, ordF_neg] at h3
    exact h3
  · have hh := holdsK_sortWorldK_c encS3 3 w g 0 d d2 n os h.holds h.lt hp.1
    rw [hw]
    exact RwS.of_holds (Nat.lt_of_lt_of_le h.lt (size_sortWorldK_c encS3 3 w g 0 n d2 os)) hh
  · rw [hw]; exact sort_belowS hg (Nat.le_of_lt (Nat.lt_of_le_of_lt hg h.lt))

end Go.Proofs.Ytglgifhpacmhiaa
