/- Texts of the proofs of VerdictAudits, VerdictAll, VerdictRising, pressed: WordBuild, WordJoin. Conditions: as each theorem says. -/
import Derived.Test.YtiamnbddbmgffaaGreatDoorRows
import Derived.Test.YtiamnbddbmgffaaGreatDoorStrs
import Derived.Test.YtiamnbddbmgffaaGreatDoorP9
import Derived.Lib.FrozenHead2
import Derived.Lib.OthersKept
namespace Go.Proofs.YtiamnbddbmgffaaGreatDoor
open Go.RowKit
set_option linter.unusedVariables false
theorem info_byte:(Tryz.prog.info? 5).map (fun i=>(i.zero,i.size,i.bytes)) = some (some (.int .u8 0),1,1):=by kernel_rfl
theorem info_builder:(Tryz.prog.info? 68).map (·.size) = some 2:=by kernel_rfl
theorem lies_builder:liesAt Tryz.prog Tryz.prog.depth 68 (2 / Tryz.prog.cellsOf 68) 0 68 1 = true:=by kernel_rfl
theorem check_used (b:Nat) (w:World) (h0:w.cell? ⟨b,0,none⟩ = some (.pointer (some ⟨b,0,none⟩))) :
  Calls Tryz.prog 71 #[.pointer (some ⟨b,0,none⟩)] w fun e w'=>e = .returned (.tuple #[]) /\ w' = w:=by
 obtain ⟨j,hj,_⟩:=Option.map_eq_some_iff.1 info_builder;have hne:=fun W=>Lib.run_neq_ptr_same (P:=Tryz.prog) (w:=W) (⟨b,0,none⟩:Addr) Tryz.underlying65 hj
 go_enter Tryz.func71,Tryz.ntmps71;go_wp2;go_end0;exact ⟨rfl,rfl⟩
theorem check_fresh (b:Nat) (w:World) (h0:w.cell? ⟨b,0,none⟩ = some (.pointer none)) (hsh:w.shape? b = some (68,2)) (hfz:w.frozen? ⟨b,0,none⟩ = false) :
  Calls Tryz.prog 71 #[.pointer (some ⟨b,0,none⟩)] w fun e w'=>e = .returned (.tuple #[]) /\ w' = w.setCell ⟨b,0,none⟩ (.pointer (some ⟨b,0,none⟩)):=by
 obtain ⟨j,hj,hjs⟩:=Option.map_eq_some_iff.1 info_builder;have hto:=Lib.run_to_unsafe (P:=Tryz.prog) (w:=w) (⟨b,0,none⟩:Addr) Tryz.underlying65 Tryz.underlying163 hj (by rw [hjs]; decide) hsh (Nat.zero_lt_succ 1);have hback:=Lib.run_from_unsafe (P:=Tryz.prog) (w:=w) (⟨b,0,none⟩:Addr) Tryz.underlying163 Tryz.underlying65 hj hsh lies_builder
 have hesc:(callFunc 109 #[.pointer (some ⟨b,0,none⟩)]).run Tryz.prog w = .ok (.value (.pointer (some ⟨b,0,none⟩))) w:=by
  rw [run_callFunc_extern Tryz.func109 Zk Zk Zk (e:=Extern.AbiNoEscape.same) Zk];rw [Lib.run_noEscape];rfl
 go_enter Tryz.func71,Tryz.ntmps71;go_wp2;go_end0;exact ⟨rfl,rfl⟩
theorem check_any (B b:Nat) (bs:List Value) (w:World) (h:Lib.IsBuilderF 68 5 B b bs w) :
  Calls Tryz.prog 71 #[.pointer (some ⟨b,0,none⟩)] w fun e w'=>e = .returned (.tuple #[]) /\ Lib.BuilderAtF 68 5 B b (.pointer (some ⟨b,0,none⟩)) bs w' /\ Below B w w':=by
 rcases h with h | h
 ·exact (check_fresh b w h.cell0 h.shape h.frozen0).mono fun e w' ⟨he,hw⟩=>⟨he,by rw [hw]; exact h.used _,by rw [hw]; exact (Below.refl B w).setCell (p:=⟨b,0,none⟩) h.1 _⟩
 ·exact (check_used b w h.cell0).mono fun e w' ⟨he,hw⟩=>⟨he,by rw [hw]; exact h,by rw [hw]; exact Below.refl B _⟩
theorem builder_cells {B b:Nat} {bs:List Value} {w:World} (h:Lib.BuilderAtF 68 5 B b (.pointer (some ⟨b,0,none⟩)) bs w) :
  ∃ v,B <= b /\ b < w.heap.size /\ w.heap[b]? = some (.cells #[.pointer (some ⟨b,0,none⟩),v] 68 (0,0)) /\ w.ownsRowF B 5 1 v bs.length bs /\ v.ownBlock ≠ some b /\
   w.cell? ⟨b,0,none⟩ = some (.pointer (some ⟨b,0,none⟩)) /\ w.cell? ⟨b,1,none⟩ = some v:=by
 have hl:=h.lt;obtain ⟨hB,v,hbk,hown,hne⟩:=h;exact ⟨v,hB,hl,hbk,hown,hne,by rw [Lib.cell_of_heap hbk]; rfl,by rw [Lib.cell_of_heap hbk]; rfl⟩
theorem slice_form {B:Nat} {w:World} {v:Value} {n:Nat} {bs:List Value} (h:w.ownsRowF B 5 1 v n bs):∃ A c,v = .slice A n c:=by
 rcases h.2 with ⟨rfl,h0⟩ | ⟨g,cap,cur,fz,hv,_⟩
 ·subst h0; exact ⟨none,0,rfl⟩
 ·exact ⟨_,_,hv⟩
set_option maxHeartbeats 1000000 in
theorem wbyte_any (B b:Nat) (bs:List Value) (c:Int) (w:World) (h:Lib.IsBuilderF 68 5 B b bs w) (hlen:bs.length + 1 <= 140737488355328) (hBw:B <= w.heap.size) :
  Calls Tryz.prog 107 #[.pointer (some ⟨b,0,none⟩),.int .u8 c] w fun e w'=>e = .returned .nilIface /\ Lib.BuilderAtF 68 5 B b (.pointer (some ⟨b,0,none⟩)) (bs ++ [.int .u8 c]) w' /\ Below B w w':=by
 obtain ⟨i0,hi,hz0,hz1,hz2⟩:=info_parts info_byte;have H:=Zh h;clear h;go_enter Tryz.func107,Tryz.ntmps107
 go_wp2_with (first
  | (go_at_call 71; refine (check_any B b bs _ H.out).mono ?_; rintro e w1 ⟨rfl,h1,hb1⟩; obtain ⟨v,hB,hlt,hbk,hown,hne,c0,c1⟩:=builder_cells h1; have hz:=hb1.size; have HB:=Zh hbk; have HO:=Zh hown; have HN:=Zh hne; clear hbk hown hne h1)
  | (at_builtin; refine wpList_append_ownF _ rfl _ _ 66 rfl B 5 i0 (.int .u8 0) 1 1 Tryz.underlying66 hi hz0 hz1 hz2 rfl Zd _ _ _ rfl (HO.out.alloc _) ⟨w1.heap.size,0,none⟩ 1 1 [.int .u8 c] rfl rfl (by
    intro j u hj
    match j,hj with
    | 0,hj=>simp at hj; subst hj; simp [Addr.add]) (by intro u hu; simp at hu; subst hu; rfl) (by unfold maxLen; omega) Zo (by simp; omega) ?_; intro v2 w2 hown2 hgrow2 _; have hbk2:w2.heap[b]? = some (.cells #[.pointer (some ⟨b,0,none⟩),v] 68 (0,0)):=(by rw [hgrow2.block b (by simp; omega) (fun e=>HN.out e.symm),Lib.alloc_old w1 _ b hlt]; exact HB.out); have HB2:=Zh hbk2; have d0:w2.cell? ⟨b,0,none⟩ = some (.pointer (some ⟨b,0,none⟩)):=(by rw [Lib.cell_of_heap hbk2]; rfl); have d1:w2.cell? ⟨b,1,none⟩ = some v:=(by rw [Lib.cell_of_heap hbk2]; rfl); have f1:w2.frozen? ⟨b,1,none⟩ = false:=Lib.frozen_of_heap hbk2 1; clear hbk2; obtain ⟨A2,cap2,rfl⟩:=slice_form hown2; have HO2:=Zh hown2; have HG2:=Zh hgrow2; clear hown2 hgrow2))
 go_ret;refine ⟨rfl,?_,?_⟩
 ·exact Lib.BuilderAtF.put (T:=68) (e:=5) hB HB2.out (bs':=bs ++ [.int .u8 c]) (by simpa using HO2.out) Zd
 ·exact ((hb1.alloc Zo _).grown HG2.out (by simp; omega) (fun k hk=>(HO.out.lt k hk).1)).setCell (p:=⟨b,1,none⟩) hB _
set_option maxHeartbeats 1000000 in
theorem wstr_any (B b:Nat) (bs:List Value) (s:ByteArray) (w:World) (h:Lib.IsBuilderF 68 5 B b bs w) (hlen:bs.length + s.size <= 140737488355328) (hBw:B <= w.heap.size) :
  Calls Tryz.prog 33 #[.pointer (some ⟨b,0,none⟩),.string s] w fun e w'=>e = .returned (.tuple #[.int .i64 s.size,.nilIface]) /\ Lib.BuilderAtF 68 5 B b (.pointer (some ⟨b,0,none⟩)) (bs ++ Lib.strCells s) w' /\ Below B w w':=by
 obtain ⟨i0,hi,hz0,hz1,hz2⟩:=info_parts info_byte;have H:=Zh h;clear h;go_enter Tryz.func33,Tryz.ntmps33
 go_wp2_with (first
  | (go_at_call 71; refine (check_any B b bs _ H.out).mono ?_; rintro e w1 ⟨rfl,h1,hb1⟩; obtain ⟨v,hB,hlt,hbk,hown,hne,c0,c1⟩:=builder_cells h1; have hz:=hb1.size; have HB:=Zh hbk; have HO:=Zh hown; have HN:=Zh hne; clear hbk hown hne h1)
  | (at_builtin; refine Lib.wpList_append_own_stringF _ rfl _ _ 66 9 rfl B 5 i0 Tryz.underlying66 Tryz.underlying9 hi hz0 hz1 hz2 _ _ _ rfl HO.out s rfl (by unfold maxLen; omega) Zo Zo ?_; intro v2 w2 hown2 hgrow2 _; have hbk2:w2.heap[b]? = some (.cells #[.pointer (some ⟨b,0,none⟩),v] 68 (0,0)):=(by rw [hgrow2.block b hlt (fun e=>HN.out e.symm)]; exact HB.out); have HB2:=Zh hbk2; have d0:w2.cell? ⟨b,0,none⟩ = some (.pointer (some ⟨b,0,none⟩)):=(by rw [Lib.cell_of_heap hbk2]; rfl); have d1:w2.cell? ⟨b,1,none⟩ = some v:=(by rw [Lib.cell_of_heap hbk2]; rfl); have f1:w2.frozen? ⟨b,1,none⟩ = false:=Lib.frozen_of_heap hbk2 1; clear hbk2; obtain ⟨A2,cap2,rfl⟩:=slice_form hown2; have HO2:=Zh hown2; have HG2:=Zh hgrow2; clear hown2 hgrow2))
 go_ret2;refine ⟨rfl,?_,?_⟩
 ·exact Lib.BuilderAtF.put (T:=68) (e:=5) hB HB2.out (bs':=bs ++ Lib.strCells s) (by simpa [Lib.strCells_length] using HO2.out) Zd
 ·exact (hb1.grown HG2.out Zo (fun k hk=>(HO.out.lt k hk).1)).setCell (p:=⟨b,1,none⟩) hB _
theorem joinB_more {l:List ByteArray} {k:Nat} {s:ByteArray} (hk:k < l.length) (hs:l.getD k ⟨#[]⟩ = s):l.take (k + 1) = l.take k ++ [s]:=by
 rw [List.take_succ_eq_append_getElem hk];congr 2;rw [<- hs];simp [hk]
theorem joinB_take_le (l:List ByteArray) (k:Nat):(joinB (l.take k)).length <= (joinB l).length:=by
 have e:l = l.take k ++ l.drop k:=(List.take_append_drop k l).symm
 cases h:l.take k with
 | nil=>simp [joinB]
 | cons a r =>
  rw [h] at e;rw [e];simp [joinB]
theorem cells_join (l:List UInt8) (s:ByteArray):Lib.byteCells l ++ Lib.strCells s = Lib.byteCells (l ++ s.data.toList):=by simp [Lib.byteCells,Lib.strCells]
theorem cells_blank (l:List UInt8):Lib.byteCells l ++ [.int .u8 32] = Lib.byteCells (l ++ [32]):=by simp [Lib.byteCells]
theorem cells_len (l:List UInt8):(Lib.byteCells l).length = l.length:=by simp [Lib.byteCells]
theorem is_used {B b:Nat} {bs:List Value} {w:World} (h:Lib.BuilderAtF 68 5 B b (.pointer (some ⟨b,0,none⟩)) bs w):Lib.IsBuilderF 68 5 B b bs w:=.inr h
set_option maxHeartbeats 1000000 in
theorem join_any (A:Option Addr) (c n:Nat) (l:List ByteArray) (w:World) (hn:l.length = n) (hr:RdT w A l) (hs:(joinB l).length <= 1000000) (hn2:n <= 1000000) :
  Calls Tryz.prog 69 #[.slice A n c] w fun e w'=>e = .returned (.string ⟨(joinB l).toArray⟩) /\ Below w.heap.size w w':=by
 have HNL:=Zh hn;have HR:=Zh hr;clear hn hr;have hfresh:=Lib.IsBuilderF.of (Lib.fresh_isBuilder 68 5 w);have HF:=Zh hfresh;clear hfresh;go_enter Tryz.func69,Tryz.ntmps69;go_wp2;go_loopw [8] (fun i wr=>∃ k:Nat,k <= n /\ i = .int .i64 k /\ Hid (Lib.IsBuilderF 68 5 w.heap.size w.heap.size (Lib.byteCells (joinB (l.take k))) wr) /\ Below w.heap.size w wr) (fun i _=>n - (intOf i).toNat)
 case atStart=>exact ⟨0,Nat.zero_le _,rfl,HF,(Below.refl _ _).alloc Zl _⟩
 case round =>
  obtain ⟨k,hk,rfl,HB,hb⟩:=hrel;have hwz:=hb.size;have hle:=joinB_take_le l k;by_cases hlt:k < n
  ·obtain ⟨b,off,s,rfl,hbb,q1,hs1⟩:=HR.out.at_ (k:=k) (by rw [HNL.out]; exact hlt)
   rw [<- hb.cell (p:=⟨b,_,none⟩) hbb] at q1;have hmore:=joinB_more (by rw [HNL.out]; exact hlt) hs1.out;have HM:=Zh hmore;have hle2:=joinB_take_le l (k + 1);rw [hmore] at hle2;by_cases hk0:k = 0
   ·have h0:l.take k = []:=by rw [hk0]; rfl
    have HJ:Hid (joinB (l.take k ++ [s]) = joinB (l.take k) ++ s.data.toList):=Zh (by rw [h0]; simp [joinB])
    have hz:(joinB (l.take k)).length + s.size <= 1000000:=by
     rw [HJ.out,List.length_append,size_list] at hle2;omega
    have g0:¬ (0:Int) < (k:Int):=by omega
    clear h0 hmore hk0;go_wp2_with (go_at_call 33; (with_reducible refine (wstr_any w.heap.size w.heap.size _ s _ HB.out (by rw [cells_len]; omega) Zo).mono ?_); rintro e w2 ⟨rfl,h2,hb2⟩; have H2:=Zh h2; clear h2);go_roundw
    case rel=>exact ⟨k + 1,by omega,by go_num,Zh (by rw [HM.out,HJ.out,<- cells_join]; exact .inr H2.out),hb.trans hb2⟩
    case measure=>simp [intOf]; omega
   ·have h0:l.take k ≠ []:=by
     intro h;have:=congrArg List.length h;rw [List.length_take,HNL.out] at this;simp at this;omega
    have HJ:Hid (joinB (l.take k ++ [s]) = (joinB (l.take k) ++ [32]) ++ s.data.toList):=Zh (by rw [joinB_snoc s h0]; simp)
    have hz:(joinB (l.take k)).length + 1 + s.size <= 1000000:=by
     rw [HJ.out,List.length_append,List.length_append,size_list] at hle2;simp at hle2;omega
    have g0:(0:Int) < (k:Int):=by omega
    clear h0 hmore hk0
    go_wp2_with (first
     | (go_at_call 107; (with_reducible refine (wbyte_any w.heap.size w.heap.size _ 32 _ HB.out (by rw [cells_len]; omega) Zo).mono ?_); rintro e w1 ⟨rfl,h1,hb1⟩; rw [cells_blank] at h1; have H1:=Zh (is_used h1); have hz1:=hb1.size; clear h1)
     | (go_at_call 33; (with_reducible refine (wstr_any w.heap.size w.heap.size _ s _ H1.out (by rw [cells_len]; simp; omega) Zo).mono ?_); rintro e w2 ⟨rfl,h2,hb2⟩; have H2:=Zh h2; clear h2))
    go_roundw
    case rel=>exact ⟨k + 1,by omega,by go_num,Zh (by rw [HM.out,HJ.out,<- cells_join]; exact .inr H2.out),(hb.trans hb1).trans hb2⟩
    case measure=>simp [intOf]; omega
  ·have HT:Hid (l.take k = l):=Zh (List.take_of_length_le (by rw [HNL.out]; omega))
   go_wp2_with (go_at_call 34; (with_reducible refine (bstr_any w.heap.size w.heap.size _ _ HB.out Zo).mono ?_); rintro e w2 ⟨rfl,h2,hb2,_⟩);go_ret;rw [HT.out];exact ⟨rfl,hb.trans hb2⟩
end Go.Proofs.YtiamnbddbmgffaaGreatDoor
