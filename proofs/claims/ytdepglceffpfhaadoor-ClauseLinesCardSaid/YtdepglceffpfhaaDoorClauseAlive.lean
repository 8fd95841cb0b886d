/- The chapter's example of layer 15 is answered as it is written. Conditions: the program's listed variables are laid. -/
import Derived.Test.YtdepglceffpfhaaDoorClauseLine
import Derived.Test.YtdepglceffpfhaaDoorWordBackM
namespace Go.Proofs.YtdepglceffpfhaaDoor
open Go.RowKit

theorem example_dec : Lib.decDigits 271 = [50, 55, 49] := by
  rw [dec_big (by decide), show 271 / 10 = 27 from rfl, dec_big (by decide), show 27 / 10 = 2 from rfl, dec_small (by decide)]
  rfl

theorem example_find : findB 0 0 271 = ⟨#[97, 114, 116, 46, 55, 32, 98, 114, 101, 97, 107, 32, 48, 45, 50, 55, 49]⟩ := by
  apply ba_ext
  rw [← find_join]
  have e1 : artV 0 = arB 0 := art_yes (k := 0) (by omega)
  have e2 : nameV 0 = nmB 0 := name_yes (k := 0) (by omega)
  have e3 : (toldB 0 271).data.toList = [48, 45, 50, 55, 49] := by
    rw [told_list, itoa_pos (by decide), itoa_pos (by decide), show (0 : Int).toNat = 0 from rfl, show (271 : Int).toNat = 271 from rfl, dec_small (by decide), example_dec]
    rfl
  rw [e1, e2]
  show (artW ++ arB 0).data.toList ++ ((32 :: (nmB 0).data.toList) ++ ((32 :: (toldB 0 271).data.toList) ++ [])) = _
  rw [e3]
  rfl

theorem example_line : line15V 0 0 271 = (⟨#[97, 114, 116, 46, 55, 32, 98, 114, 101, 97, 107, 32, 48, 45, 50, 55, 49]⟩, 0) := by
  rw [line15_good (err15_ok (by decide) (by decide) (by decide)), example_find]

set_option maxHeartbeats 1000000 in
theorem alive15_any (w : World) (hl : Laid15 w) :
    Calls Tryd.prog 6 #[] w fun e w' => e = .returned (.bool true) ∧ Below w.heap.size w w' := by
  have CL := line15_any 0 0 271 w hl
  rw [example_line] at CL
  have e1 : ((⟨#[97, 114, 116, 46, 55, 32, 98, 114, 101, 97, 107, 32, 48, 45, 50, 55, 49]⟩ : ByteArray).toList == (⟨#[97, 114, 116, 46, 55, 32, 98, 114, 101, 97, 107, 32, 48, 45, 50, 55, 49]⟩ : ByteArray).toList) = true := (Lib.bytes_beq_iff _ _).2 rfl
  go_enter Tryd.func6, Tryd.ntmps6
  go_wp2_with (go_at_call 20; refine CL.mono ?_; rintro e w1 ⟨rfl, hb1⟩)
  go_ret
  exact ⟨rfl, hb1⟩

end Go.Proofs.YtdepglceffpfhaaDoor
