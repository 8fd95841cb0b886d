/- Texts of the proofs of VerdictAudits, VerdictAll, VerdictRising, pressed: SortRow, SortCompact, SortC, StretchMath. Conditions: as each theorem says. -/
import Derived.Test.YtiamnbddbmgffaaGreatDoorRows
import Derived.Test.YtiamnbddbmgffaaGreatDoorP13
import Derived.Test.YtiamnbddbmgffaaGreatDoorSort
import Derived.Lib.SliceRun
import Derived.Lib.LazyBuf
import Derived.Laws.AppendOwnNone
namespace Go.Proofs.YtiamnbddbmgffaaGreatDoor
open Go.RowKit
set_option linter.unusedVariables false
structure RwA (w:World) (g:Nat) (d:Array Rc):Prop where
 lt:g < w.heap.size
 cell:∀ j,j < d.size -> w.cell? ⟨g,j * 3,none⟩ = some (.int .i64 d[j]!.1) /\ w.cell? ⟨g,j * 3 + 1,none⟩ = some (.int .i64 d[j]!.2.1) /\ w.cell? ⟨g,j * 3 + 2,none⟩ = some (.int .i64 d[j]!.2.2)
 free:∀ j,j < d.size * 3 -> w.frozen? ⟨g,j,none⟩ = false
theorem RwA.below {w w':World} {g:Nat} {d:Array Rc} (h:RwA w g d) (hb:Below w.heap.size w w'):RwA w' g d :=
 ⟨Nat.lt_of_lt_of_le h.lt hb.size,fun j hj=>⟨c_cl (h.cell j hj).1 hb,c_cl (h.cell j hj).2.1 hb,c_cl (h.cell j hj).2.2 hb⟩,fun j hj=>by rw [hb.frozen (p:=⟨g,j,none⟩) h.lt]; exact h.free j hj⟩
theorem arr_getD (d:Array Rc) (j:Nat) (h:j < d.size):d.toList.getD j rz = d[j]!:=by
 rw [getElem!_pos d j h];simp [List.getD,h]
theorem RwA.rd {w:World} {g:Nat} {d:Array Rc} (h:RwA w g d):RdF w (some ⟨g,0,none⟩) d.toList:=fun _=>⟨g,0,rfl,h.lt,fun k hk=>by
 have hk':k < d.size:=by simpa using hk
 rw [arr_getD d k hk',Nat.zero_add]
 exact h.cell k hk'⟩
theorem RwA.of_own {base:Nat} {w:World} {g n c:Nat} {l:List Rc} (h:OwnF base w (.slice (some ⟨g,0,none⟩) n c) l):RwA w g l.toArray:=by
 have hlt:=World.ownsRow.lt h g rfl;refine ⟨hlt.2,fun j hj=>?_,fun j _=>(h.some_).2.2 j⟩;have hj':j < l.length:=by simpa using hj
 obtain ⟨b,off,hA,_,hc⟩:=h.rd (nonnil hj');injection hA with hA
 simp only [Addr.mk.injEq,and_true] at hA;obtain ⟨rfl,rfl⟩:=hA;have:=hc j hj';rw [Nat.zero_add] at this;have e:l.getD j rz = l.toArray[j]!:=by rw [<- arr_getD l.toArray j hj]
 rw [e] at this;exact this
def encF (s:Rc):List Value:=[.int .i64 s.1,.int .i64 s.2.1,.int .i64 s.2.2]
theorem RwA.holds {w:World} {g:Nat} {d:Array Rc} (h:RwA w g d):Go.Sort.HoldsK encF 3 w g 0 d:=by
 intro t ht;have ht:t < d.size * 3:=by simpa using ht
 rw [Nat.zero_add,Go.Sort.get_flatK _ _ _ _ ht];refine ⟨?_,h.free t ht⟩;have hk:t / 3 < d.size:=by omega
 have hc:=h.cell (t / 3) hk;have:t % 3 = 0 ∨ t % 3 = 1 ∨ t % 3 = 2:=by omega
 rcases this with hm | hm | hm
 ·rw [hm]
  conv=>lhs; rw [show t = t / 3 * 3 by omega]
  exact hc.1
 ·rw [hm]
  conv=>lhs; rw [show t = t / 3 * 3 + 1 by omega]
  exact hc.2.1
 ·rw [hm]
  conv=>lhs; rw [show t = t / 3 * 3 + 2 by omega]
  exact hc.2.2
theorem RwA.of_holds {w:World} {g:Nat} {d:Array Rc} (hg:g < w.heap.size) (h:Go.Sort.HoldsK encF 3 w g 0 d):RwA w g d:=by
 refine ⟨hg,fun j hj=>?_,fun j hj=>?_⟩
 ·have c0:=(h.cell (c:=0) hj Zo).1
  have c1:=(h.cell (c:=1) hj Zo).1;have c2:=(h.cell (c:=2) hj Zo).1;rw [Nat.zero_add] at c0 c1 c2;exact ⟨c0,c1,c2⟩
 ·have:=(h j (by simpa using hj)).2
  rwa [Nat.zero_add] at this
theorem RwA.stored {w:World} {g:Nat} {d:Array Rc} (h:RwA w g d) {k:Nat} (hk:k < d.size) (s:Rc):RwA (w.setCells g (k * 3) (encF s)) g (d.setIfInBounds k s):=by
 have hin:=World.cell?_setCells_in g (encF s) (k * 3) w (fun j hj=>by
  have hc:=h.cell k hk;have hj3:j < 3:=hj;have:j = 0 ∨ j = 1 ∨ j = 2:=by omega
  rcases this with rfl | rfl | rfl
  ·rw [Nat.add_zero,hc.1]; rfl
  ·rw [hc.2.1]; rfl
  ·rw [hc.2.2]; rfl)
 refine ⟨by rw [Go.Sort.size_setCells]; exact h.lt,fun j hj=>?_,fun j hj=>?_⟩
 ·have hj':j < d.size:=by simpa using hj
  by_cases e:j = k
  ·subst e
   rw [Go.Sort.getElem!_set_same d j s hk];refine ⟨?_,?_,?_⟩
   ·have:=hin 0 (by show 0 < 3; omega); exact this
   ·have:=hin 1 (by show 1 < 3; omega); exact this
   ·have:=hin 2 (by show 2 < 3; omega); exact this
  ·rw [Go.Sort.getElem!_set_other d k j s e]
   have out:∀ r,r < 3 -> (w.setCells g (k * 3) (encF s)).cell? ⟨g,j * 3 + r,none⟩ = w.cell? ⟨g,j * 3 + r,none⟩:=fun r hr =>
    World.cell?_setCells_out g (encF s) (k * 3) w ⟨g,j * 3 + r,none⟩ (fun _ _=>by
     show j * 3 + r < k * 3 ∨ k * 3 + 3 <= j * 3 + r
     omega)
   have hc:=h.cell j hj';refine ⟨?_,?_,?_⟩
   ·have:=out 0 Zo; rw [Nat.add_zero] at this; rw [this]; exact hc.1
   ·rw [out 1 Zo]; exact hc.2.1
   ·rw [out 2 Zo]; exact hc.2.2
 ·rw [World.frozen?_setCells]
  exact h.free j (by simpa using hj)
theorem below_cells {g k n:Nat} {w:World} {vs:List Value} (hn:n <= g):Below n w (w.setCells g k vs):=Go.below_setCells hn vs k w (Below.refl _ _)
theorem size_find:(Tryz.prog.info? 52).map (·.size) = some 3:=by kernel_rfl
theorem run_store3 {w:World} {g:Nat} {d:Array Rc} (h:RwA w g d) {k:Nat} (hk:k < d.size) (s:Rc):(storeVar 52 ⟨g,k * 3,none⟩ (.agg (encF s).toArray)).run Tryz.prog w = .ok () (w.setCells g (k * 3) (encF s)):=by
 have hr:=run_storeCells_cells (P:=Tryz.prog) g (k * 3) (encF s) 0 w (fun j hj=>by
   have hc:=h.cell k hk;have hj3:j < 3:=hj;rw [Nat.add_zero];have:j = 0 ∨ j = 1 ∨ j = 2:=by omega
   rcases this with rfl | rfl | rfl
   ·rw [Nat.add_zero,hc.1]; rfl
   ·rw [hc.2.1]; rfl
   ·rw [hc.2.2]; rfl) (fun j hj=>by
   have hj3:j < 3:=hj;rw [Nat.add_zero]
   exact h.free _ Zo) (fun v hv=>by simp [encF] at hv; rcases hv with rfl | rfl | rfl <;> rfl)
 rw [Nat.add_zero] at hr
 cases hq:Tryz.prog.info? 52 with
 | none=>have:=size_find; simp [hq] at this
 | some i =>
  have hs:i.size = 3:=by have:=size_find; simpa [hq] using this
  simp [storeVar,sizeOf,typeInfo,hq,hs,encF];exact hr
theorem wpList_store3 {ops:Array Oper} {rest:List Oper} {o:Oper} {a:Act} {w:World} {Q:Exit -> Act -> World -> Prop} (hgd:Region.wanted o (yielded ops a.tmps) = true) (x y:Operand) (ho:o.op = .store 52 x y)
  (g k:Nat) (s:Rc) (d:Array Rc) (hx:a.eval x = .pointer (some ⟨g,k * 3,none⟩)) (hy:a.eval y = .agg #[.int .i64 s.1,.int .i64 s.2.1,.int .i64 s.2.2]) (hr:RwA w g d) (hk:k < d.size)
  (h:∀ W',RwA W' g (d.setIfInBounds k s) -> (∀ n,n <= g -> Below n w W') -> wpList Tryz.prog ops Q rest (a.put o.dst undef) W'):wpList Tryz.prog ops Q (o :: rest) a w :=
 wpList_step fun K hK=>by
  rw [if_pos hgd];unfold Oper.wp execOp;have hs:=run_store3 hr hk s;have hy':a.eval y = .agg (encF s).toArray:=hy;simp only [ho,hx,hy',Instr.storeAt,Instr.sureAddr,Sem.run_bind,Sem.run_pure,Result.andThen_ok,hs];exact hK _ _ (h _ (hr.stored hk s) (fun n hn=>below_cells hn))
theorem run_clear3 {w:World} {g:Nat} {d:Array Rc} (h:RwA w g d) {k m c:Nat} (hk:k + (m + 1) = d.size) :
  ∃ W',(∀ ty,(Builtin.clear_ #[33] ty #[.slice (some ⟨g,k * 3,none⟩) (m + 1) c]).run Tryz.prog w = .ok (.tuple #[]) W') /\ RwA W' g (d.toList.take k).toArray /\ ∀ n,n <= g -> Below n w W':=by
 obtain ⟨L,hL⟩:∃ L,(Builtin.zeroCells (Value.agg #[.int .i64 0,.int .i64 0,.int .i64 0]).cells (m + 1)).toList = L:=⟨_,rfl⟩
 have hlen:L.length = (m + 1) * 3:=by
  rw [<- hL,Array.length_toList,size_zeroCells]; rfl
 have hone:∀ v ∈ L,v.oneCell' = true:=by
  intro v hv;rw [<- hL] at hv;simp only [Builtin.zeroCells,Array.toList_map,List.mem_map] at hv;obtain ⟨i,_,rfl⟩:=hv;have h3:i % 3 = 0 ∨ i % 3 = 1 ∨ i % 3 = 2:=by omega
  show ((#[.int .i64 0,.int .i64 0,.int .i64 0]:Array Value)[i % 3]!).oneCell' = true
  rcases h3 with e | e | e <;> rw [e] <;> rfl
 have hr:=run_storeCells_cells (P:=Tryz.prog) g (k * 3) L 0 w (fun j hj=>by
   rw [Nat.add_zero];have hq:k + j / 3 < d.size:=by omega
   have hc:=h.cell (k + j / 3) hq;have h3:j % 3 = 0 ∨ j % 3 = 1 ∨ j % 3 = 2:=by omega
   rcases h3 with e | e | e
   ·rw [show k * 3 + j = (k + j / 3) * 3 by omega,hc.1]; rfl
   ·rw [show k * 3 + j = (k + j / 3) * 3 + 1 by omega,hc.2.1]; rfl
   ·rw [show k * 3 + j = (k + j / 3) * 3 + 2 by omega,hc.2.2]; rfl) (fun j hj=>by
   rw [Nat.add_zero]
   exact h.free _ Zo) hone
 rw [Nat.add_zero] at hr;refine ⟨w.setCells g (k * 3) L,fun ty=>?_,⟨by rw [Go.Sort.size_setCells]; exact h.lt,fun j hj=>?_,fun j hj=>?_⟩,fun n hn=>below_cells hn⟩
 ·simp [Builtin.clear_,run_underlying Tryz.underlying33,hL,hr]
 ·have hj2:j < k:=by simp at hj; omega
  have hjd:j < d.size:=by omega
  have e:(d.toList.take k).toArray[j]! = d[j]!:=by
   rw [getElem!_pos _ j hj,getElem!_pos d j hjd];simp
  rw [e];have hc:=h.cell j hjd
  have out:∀ r,r < 3 -> (w.setCells g (k * 3) L).cell? ⟨g,j * 3 + r,none⟩ = w.cell? ⟨g,j * 3 + r,none⟩:=fun r hr =>
   World.cell?_setCells_out g L (k * 3) w ⟨g,j * 3 + r,none⟩ (fun _ _=>by
    show j * 3 + r < k * 3 ∨ k * 3 + L.length <= j * 3 + r
    omega)
  refine ⟨?_,?_,?_⟩
  ·have:=out 0 Zo; rw [Nat.add_zero] at this; rw [this]; exact hc.1
  ·rw [out 1 Zo]; exact hc.2.1
  ·rw [out 2 Zo]; exact hc.2.2
 ·rw [World.frozen?_setCells]
  refine h.free j ?_;simp at hj;omega
theorem sort_belowF {base g n:Nat} {d:Array Rc} {os:Array Obj} {w:World} (hb:base <= g) (hw:base <= w.heap.size):Below base w (sortWorldK encF 3 w g 0 n d os):=by
 refine ⟨rfl,rfl,rfl,size_sortWorldK_c encF 3 w g 0 n d os,fun k hk=>?_⟩;unfold sortWorldK;rw [Go.Sort.heap_grow_old _ _ (by rw [Go.Sort.size_putRowK]; show k < w.heap.size; omega)]
 show (w.heap.modify g _)[k]? = _
 rw [Array.getElem?_modify,if_neg Zo]
theorem swoF:Go.Sort.SWO (ltOf ordF) where
 irrefl x:=by unfold ltOf; rw [decide_eq_false]; rw [ordF_neg]; exact ltF_irr x
 trans x y z h1 h2:=by
  unfold ltOf at *;rw [decide_eq_true_eq,ordF_neg] at *;exact ltF_tr h1 h2
 ntrans x y z h1 h2:=by
  unfold ltOf at *;rw [decide_eq_false_iff_not,ordF_neg] at *;exact ltF_nt h1 h2
theorem cmpF (blk off size:Nat) (w:World):CmpLays Tryz.prog 91 #[] encF 3 ordF blk off size w :=
 fun _ _ _ _ x y=>order_gr x.1 x.2.1 x.2.2 y.1 y.2.1 y.2.2 _
set_option maxHeartbeats 1000000 in
theorem sortF_any (base g c n:Nat) (d:Array Rc) (w:World) (hd:d.size = n) (h:RwA w g d) (hg:base <= g) (hl:n <= 4611686018427387903) :
  Calls Tryz.prog 90 #[.slice (some ⟨g,0,none⟩) n c,.func (.func 91) #[] #[]] w fun e w' =>
   e = .returned (.tuple #[]) /\ ∃ d2:Array Rc,d2.size = n /\ d2.toList.Perm d.toList /\ (∀ i j:Nat,i < j -> j < d2.size -> ¬ ltF d2[j]! d2[i]!) /\ RwA w' g d2 /\ Below base w w':=by
 subst hd;have eg:∀ args w,(callFunc 91 args).run Tryz.prog w = .ok (.enter 91 args) w:=enters_of Tryz.func91 Zk rfl;have hcon:=AnyQ.slices_SortFunc sortL 3 Tryz.isAgg52 Tryz.sizeOf52 encF (fun _=>rfl) (fun x v hv=>by simp [encF] at hv; rcases hv with rfl | rfl | rfl <;> rfl) ordF swoF 91 #[] g 0 c d w eg (cmpF g 0 _ w) h.holds h.lt Zo;refine hcon.mono fun e w' ⟨he,d2,n,os,hp,hs,hw⟩=>⟨he,d2,hp.1,?_,?_,?_,?_⟩
 ·have h2:=hp.2.2
  have hsz:=hp.1;rw [Array.extract_eq_self_of_le Zo,Array.extract_eq_self_of_le (by simp)] at h2;exact h2
 ·intro i j hij hj
  have hsz:=hp.1;have h3:=hs i j (Nat.zero_le _) hij Zo;unfold ltOf at h3;rw [decide_eq_false_iff_not,ordF_neg] at h3;exact h3
 ·have hh:=holdsK_sortWorldK_c encF 3 w g 0 d d2 n os h.holds h.lt hp.1
  rw [hw];exact RwA.of_holds (Nat.lt_of_lt_of_le h.lt (size_sortWorldK_c encF 3 w g 0 n d2 os)) hh
 ·rw [hw]; exact sort_belowF hg (Nat.le_of_lt (Nat.lt_of_le_of_lt hg h.lt))
theorem comp_take {d dk:Array Rc} {m k:Nat} (h:Lib.CompInv d m k dk) (hm:m <= d.size):Lib.compactUpTo d m = dk.toList.take k:=by
 have hk:=h.lt;have hs:=h.size;apply List.ext_getElem?;intro j;by_cases hj:j < k
 ·rw [h.low j hj,List.getElem?_take_of_lt hj,getElem!_pos dk j Zo]
  simp [show j < dk.size by omega]
 ·rw [List.getElem?_eq_none (by rw [h.len]; omega),List.getElem?_eq_none (by rw [List.length_take]; omega)]
theorem comp_all {d:Array Rc} {n:Nat} (hn:d.size = n) (h:∀ j,j < n -> Lib.keeps d j = true):Lib.compactUpTo d n = d.toList:=by
 subst hn;rw [Lib.compactUpTo_all d _ h,Lib.range_map_get]
set_option maxRecDepth 100000 in
set_option maxHeartbeats 8000000 in
theorem compactF_any (g c n:Nat) (d:Array Rc) (w:World) (hd:d.size = n) (hR:RwA w g d) (hnc:n <= c) (hl:n <= 1000000) :
  Calls Tryz.prog 92 #[.slice (some ⟨g,0,none⟩) n c] w fun e w'=>∃ m,e = .returned (.slice (some ⟨g,0,none⟩) m c) /\ (Lib.compactUpTo d n).length = m /\ RwA w' g (Lib.compactUpTo d n).toArray /\ ∀ N,N <= g -> Below N w w':=by
 by_cases h2:n < 2
 ·have HE:=Zh (comp_all hd (fun j hj=>Lib.keeps_lt_one d j Zo))
  have HD:=Zh hd;have HR:=Zh hR;clear hd hR;go_enter Tryz.func92,Tryz.ntmps92;go_wp2;go_ret;refine ⟨n,rfl,by rw [HE.out,Array.length_toList,HD.out],by rw [HE.out]; exact HR.out,fun N _=>Below.refl _ _⟩
 ·have HD:=Zh hd
  have h2b:¬ (n:Int) < 2:=by omega
  have hgw0:=hR.lt;clear hd;go_enter Tryz.func92,Tryz.ntmps92;go_wp2;go_loopw [3] (fun i wr=>∃ k:Nat,1 <= k /\ k <= n /\ i = .int .i64 k /\ Below w.heap.size w wr /\ Hid (∀ j,j < k -> Lib.keeps d j = true)) (fun i _=>n - (intOf i).toNat)
  case atStart=>exact ⟨1,Nat.le_refl _,by omega,rfl,Below.refl _ _,Zh (Lib.keeps_lt_one d)⟩
  case round =>
   obtain ⟨k,hk1,hk,rfl,hb,HA⟩:=hrel;obtain ⟨w2,rfl⟩:∃ w2:World,w2 = wr:=⟨_,rfl⟩;have hsz:=hb.size;have hds0:=HD.out;by_cases hlt:k < n
   ·have cx:=(hR.below hb).cell k Zo
    have cy:=(hR.below hb).cell (k - 1) Zo;obtain ⟨j1,hj1⟩:∃ j1:Nat,(k:Int) - 1 = (j1:Int):=⟨k - 1,by omega⟩;rw [show k - 1 = j1 by omega] at cy;obtain ⟨x1,x2,x3,hx⟩:∃ x1 x2 x3,d[k]! = (x1,x2,x3):=⟨_,_,_,rfl⟩;obtain ⟨y1,y2,y3,hy⟩:∃ y1 y2 y3,d[j1]! = (y1,y2,y3):=⟨_,_,_,rfl⟩;rw [hx] at cx;rw [hy] at cy;have HX:=Zh hx;have HY:Hid (d[k - 1]! = (y1,y2,y3)):=Zh (by rw [show k - 1 = j1 by omega]; exact hy);clear hx hy hds0;have g3:((j1:Nat):Int) < (n:Int):=by omega
    have q0:∀ p:BelowOf w2,p.world.cell? ⟨g,k * 3,none⟩ = some (.int .i64 x1):=fun p=>p.cell cx.1
    have q1:∀ p:BelowOf w2,p.world.cell? ⟨g,k * 3 + 1,none⟩ = some (.int .i64 x2):=fun p=>p.cell cx.2.1
    have q2:∀ p:BelowOf w2,p.world.cell? ⟨g,k * 3 + 2,none⟩ = some (.int .i64 x3):=fun p=>p.cell cx.2.2
    have q3:∀ p:BelowOf w2,p.world.cell? ⟨g,j1 * 3,none⟩ = some (.int .i64 y1):=fun p=>p.cell cy.1
    have q4:∀ p:BelowOf w2,p.world.cell? ⟨g,j1 * 3 + 1,none⟩ = some (.int .i64 y2):=fun p=>p.cell cy.2.1
    have q5:∀ p:BelowOf w2,p.world.cell? ⟨g,j1 * 3 + 2,none⟩ = some (.int .i64 y3):=fun p=>p.cell cy.2.2
    clear cx cy;by_cases h1:x1 = y1
    ·subst h1
     by_cases h2:x2 = y2
     ·subst h2
      by_cases h3:x3 = y3
      ·subst h3
       go_wp2;refine wp_region_bel Zk Zk ?_
       repeat (go_big_quiet_step (first | (fail)))
       refine wpQuiet_nil ?_;refine bel_all fun wq hbq=>?_
       clear q0 q1 q2 q3 q4 q5;have HS:=Zh (Lib.CompInv.start HA.out (Lib.keeps_neg Zo (by rw [HX.out,HY.out])));have HRq:=Zh ((hR.below hb).below hbq);have HBq:=Zh (hb.trans (hbq.mono hsz));have kc:¬ c = k:=by omega
       go_wp2;clear hb hbq;go_loopw [3,5] (fun a3 a5 wr=>∃ (kk k2:Nat) (dk:Array Rc),a3 = .int .i64 kk /\ a5 = .int .i64 k2 /\ 1 <= k2 /\ k + k2 <= n /\ RwA wr g dk /\ Hid (Lib.CompInv d (k + k2) kk dk) /\ Below g w wr) (fun _ a5 _=>n - (intOf a5).toNat)
       case atStart=>exact ⟨k,1,d,rfl,rfl,Nat.le_refl _,by omega,HRq.out,Zh HS.out,HBq.out.mono (Nat.le_of_lt hR.lt)⟩
       case round =>
        clear HX HY;obtain ⟨kk,k2,dk,rfl,rfl,h1,hle,hRk,HI,hbk⟩:=hrel;obtain ⟨wk,rfl⟩:∃ wk:World,wk = wr:=⟨_,rfl⟩;have HRk:=Zh hRk;have hkk:=HI.out.lt;have hds:=HI.out.size;have hdn:=HD.out;have hdk:dk.size = n:=by omega
        clear hds hdn;have hszk:=hbk.size;have hgw:=hR.lt;by_cases hlt2:k + k2 < n
        ·have cx:=hRk.cell (k + k2) Zo
         have cy:=hRk.cell (k + k2 - 1) Zo;rw [HI.out.high (k + k2) Zo,Nat.add_mul] at cx;rw [HI.out.high (k + k2 - 1) Zo] at cy;obtain ⟨j2,hj2⟩:∃ j2:Nat,(k2:Int) - 1 = (j2:Int):=⟨k2 - 1,by omega⟩;rw [show k + k2 - 1 = k + j2 by omega,Nat.add_mul] at cy;obtain ⟨x1,x2,x3,hx⟩:∃ x1 x2 x3,d[k + k2]! = (x1,x2,x3):=⟨_,_,_,rfl⟩;obtain ⟨y1,y2,y3,hy⟩:∃ y1 y2 y3,d[k + j2]! = (y1,y2,y3):=⟨_,_,_,rfl⟩;rw [hx] at cx;rw [hy] at cy;have HX:=Zh hx;have HY:Hid (d[k + k2 - 1]! = (y1,y2,y3)):=Zh (by rw [show k + k2 - 1 = k + j2 by omega]; exact hy);clear hx hy hRk;have q0:∀ p:BelowOf wk,p.world.cell? ⟨g,k * 3 + k2 * 3,none⟩ = some (.int .i64 x1):=fun p=>p.cell cx.1
         have q1:∀ p:BelowOf wk,p.world.cell? ⟨g,k * 3 + k2 * 3 + 1,none⟩ = some (.int .i64 x2):=fun p=>p.cell cx.2.1
         have q2:∀ p:BelowOf wk,p.world.cell? ⟨g,k * 3 + k2 * 3 + 2,none⟩ = some (.int .i64 x3):=fun p=>p.cell cx.2.2
         have q3:∀ p:BelowOf wk,p.world.cell? ⟨g,k * 3 + j2 * 3,none⟩ = some (.int .i64 y1):=fun p=>p.cell cy.1
         have q4:∀ p:BelowOf wk,p.world.cell? ⟨g,k * 3 + j2 * 3 + 1,none⟩ = some (.int .i64 y2):=fun p=>p.cell cy.2.1
         have q5:∀ p:BelowOf wk,p.world.cell? ⟨g,k * 3 + j2 * 3 + 2,none⟩ = some (.int .i64 y3):=fun p=>p.cell cy.2.2
         have g2:(k2:Int) < ((n - k:Nat):Int):=by omega
         have g3:((j2:Nat):Int) < ((n - k:Nat):Int):=by omega
         clear cx cy;by_cases h1:x1 = y1
         ·subst h1
          by_cases h2:x2 = y2
          ·subst h2
           by_cases h3:x3 = y3
           ·subst h3
            go_wp2;refine wp_region_bel Zk Zk ?_
            repeat (go_big_quiet_step (first | (fail)))
            refine wpQuiet_nil ?_;refine bel_all fun wq hbq=>?_
            clear q0 q1 q2 q3 q4 q5;go_wp2;go_roundw
            case rel=>exact ⟨kk,k2 + 1,dk,rfl,by go_num,by omega,by omega,HRk.out.below hbq,Zh (HI.out.skip (Lib.keeps_neg Zo (by rw [HX.out,HY.out]))),hbk.trans (hbq.mono Zo)⟩
            case measure=>simp [intOf]; omega
           ·have e1:(x3 == y3) = false:=by simpa using h3
            have H:=Zh h3;clear h3;go_wp2;refine wp_region_bel Zk Zk ?_
            repeat (go_big_quiet_step (first | (fail)))
            refine wpQuiet_nil ?_;refine bel_all fun wq hbq=>?_
            have u0:wq.cell? ⟨g,k * 3 + k2 * 3,none⟩ = some (.int .i64 x1):=q0 ⟨wq,hbq⟩;have u1:wq.cell? ⟨g,k * 3 + k2 * 3 + 1,none⟩ = some (.int .i64 x2):=q1 ⟨wq,hbq⟩;have u2:wq.cell? ⟨g,k * 3 + k2 * 3 + 2,none⟩ = some (.int .i64 x3):=q2 ⟨wq,hbq⟩;clear q0 q1 q2 q3 q4 q5;have HR2:=Zh (HRk.out.below hbq);go_wp2_with (refine wpList_store3 Zv _ _ rfl g kk (x1,x2,x3) dk rfl rfl HR2.out Zo ?_; intro W2 hR2 hb2);go_roundw
            case rel=>exact ⟨kk + 1,k2 + 1,dk.setIfInBounds kk (x1,x2,x3),by go_num,by go_num,by omega,by omega,hR2,Zh (by have:=HI.out.keep (by have:=HD.out; omega) (Lib.keeps_pos (by rw [HX.out,HY.out]; intro e; simp only [Prod.mk.injEq] at e; exact H.out (by first | exact e.1 | exact e.2.1 | exact e.2.2))); rwa [HX.out] at this),(hbk.trans (hbq.mono Zo)).trans (hb2 _ Zo)⟩
            case measure=>simp [intOf]; omega
          ·have e1:(x2 == y2) = false:=by simpa using h2
           have H:=Zh h2;clear h2;go_wp2;refine wp_region_bel Zk Zk ?_
           repeat (go_big_quiet_step (first | (fail)))
           refine wpQuiet_nil ?_;refine bel_all fun wq hbq=>?_
           have u0:wq.cell? ⟨g,k * 3 + k2 * 3,none⟩ = some (.int .i64 x1):=q0 ⟨wq,hbq⟩;have u1:wq.cell? ⟨g,k * 3 + k2 * 3 + 1,none⟩ = some (.int .i64 x2):=q1 ⟨wq,hbq⟩;have u2:wq.cell? ⟨g,k * 3 + k2 * 3 + 2,none⟩ = some (.int .i64 x3):=q2 ⟨wq,hbq⟩;clear q0 q1 q2 q3 q4 q5;have HR2:=Zh (HRk.out.below hbq);go_wp2_with (refine wpList_store3 Zv _ _ rfl g kk (x1,x2,x3) dk rfl rfl HR2.out Zo ?_; intro W2 hR2 hb2);go_roundw
           case rel=>exact ⟨kk + 1,k2 + 1,dk.setIfInBounds kk (x1,x2,x3),by go_num,by go_num,by omega,by omega,hR2,Zh (by have:=HI.out.keep (by have:=HD.out; omega) (Lib.keeps_pos (by rw [HX.out,HY.out]; intro e; simp only [Prod.mk.injEq] at e; exact H.out (by first | exact e.1 | exact e.2.1 | exact e.2.2))); rwa [HX.out] at this),(hbk.trans (hbq.mono Zo)).trans (hb2 _ Zo)⟩
           case measure=>simp [intOf]; omega
         ·have e1:(x1 == y1) = false:=by simpa using h1
          have H:=Zh h1;clear h1;go_wp2;refine wp_region_bel Zk Zk ?_
          repeat (go_big_quiet_step (first | (fail)))
          refine wpQuiet_nil ?_;refine bel_all fun wq hbq=>?_
          have u0:wq.cell? ⟨g,k * 3 + k2 * 3,none⟩ = some (.int .i64 x1):=q0 ⟨wq,hbq⟩;have u1:wq.cell? ⟨g,k * 3 + k2 * 3 + 1,none⟩ = some (.int .i64 x2):=q1 ⟨wq,hbq⟩;have u2:wq.cell? ⟨g,k * 3 + k2 * 3 + 2,none⟩ = some (.int .i64 x3):=q2 ⟨wq,hbq⟩;clear q0 q1 q2 q3 q4 q5;have HR2:=Zh (HRk.out.below hbq);go_wp2_with (refine wpList_store3 Zv _ _ rfl g kk (x1,x2,x3) dk rfl rfl HR2.out Zo ?_; intro W2 hR2 hb2);go_roundw
          case rel=>exact ⟨kk + 1,k2 + 1,dk.setIfInBounds kk (x1,x2,x3),by go_num,by go_num,by omega,by omega,hR2,Zh (by have:=HI.out.keep (by have:=HD.out; omega) (Lib.keeps_pos (by rw [HX.out,HY.out]; intro e; simp only [Prod.mk.injEq] at e; exact H.out (by first | exact e.1 | exact e.2.1 | exact e.2.2))); rwa [HX.out] at this),(hbk.trans (hbq.mono Zo)).trans (hb2 _ Zo)⟩
          case measure=>simp [intOf]; omega
        ·have hend:k + k2 = n:=by omega
         obtain ⟨m,hm⟩:∃ m,kk + (m + 1) = n:=⟨n - kk - 1,by omega⟩;have hm2:n - kk = m + 1:=by omega
         obtain ⟨W2,hcl,hR2,hb2⟩:=run_clear3 (c:=c - kk) hRk (k:=kk) (m:=m) Zo;rw [<- hm2] at hcl;have HR2:=Zh hR2;have HM:=Zh (show Lib.compactUpTo d n = dk.toList.take kk by rw [<- hend]; exact comp_take HI.out (by have:=HD.out; omega));have HL:=Zh (show (Lib.compactUpTo d n).length = kk by rw [<- hend]; exact HI.out.len);have HB2:=Zh (fun N (hN:N <= g)=>(hbk.mono hN).trans (hb2 N hN));have g2:¬ (k2:Int) < ((n - k:Nat):Int):=by omega
         have kc2:¬ c = kk:=by omega
         clear hRk hbk hR2 hb2 hm2;go_wp2;go_ret;exact ⟨kk,rfl,HL.out,by rw [HM.out]; exact HR2.out,HB2.out⟩
      ·have e1:(x3 == y3) = false:=by simpa using h3
       have H:=Zh h3;clear h3;go_wp2;refine wp_region_bel Zk Zk ?_
       repeat (go_big_quiet_step (first | (fail)))
       refine wpQuiet_nil ?_;refine bel_all fun wq hbq=>?_
       clear q0 q1 q2 q3 q4 q5;go_wp2;go_roundw
       case rel=>exact ⟨k + 1,by omega,by omega,by go_num,hb.trans (hbq.mono hsz),Zh (fun j hj=>by
        by_cases e:j = k
        ·subst e; exact Lib.keeps_pos (by rw [HX.out,HY.out]; intro e; simp only [Prod.mk.injEq] at e; exact H.out (by first | exact e.1 | exact e.2.1 | exact e.2.2))
        ·exact HA.out j Zo)⟩
       case measure=>simp [intOf]; omega
     ·have e1:(x2 == y2) = false:=by simpa using h2
      have H:=Zh h2;clear h2;go_wp2;refine wp_region_bel Zk Zk ?_
      repeat (go_big_quiet_step (first | (fail)))
      refine wpQuiet_nil ?_;refine bel_all fun wq hbq=>?_
      clear q0 q1 q2 q3 q4 q5;go_wp2;go_roundw
      case rel=>exact ⟨k + 1,by omega,by omega,by go_num,hb.trans (hbq.mono hsz),Zh (fun j hj=>by
       by_cases e:j = k
       ·subst e; exact Lib.keeps_pos (by rw [HX.out,HY.out]; intro e; simp only [Prod.mk.injEq] at e; exact H.out (by first | exact e.1 | exact e.2.1 | exact e.2.2))
       ·exact HA.out j Zo)⟩
      case measure=>simp [intOf]; omega
    ·have e1:(x1 == y1) = false:=by simpa using h1
     have H:=Zh h1;clear h1;go_wp2;refine wp_region_bel Zk Zk ?_
     repeat (go_big_quiet_step (first | (fail)))
     refine wpQuiet_nil ?_;refine bel_all fun wq hbq=>?_
     clear q0 q1 q2 q3 q4 q5;go_wp2;go_roundw
     case rel=>exact ⟨k + 1,by omega,by omega,by go_num,hb.trans (hbq.mono hsz),Zh (fun j hj=>by
      by_cases e:j = k
      ·subst e; exact Lib.keeps_pos (by rw [HX.out,HY.out]; intro e; simp only [Prod.mk.injEq] at e; exact H.out (by first | exact e.1 | exact e.2.1 | exact e.2.2))
      ·exact HA.out j Zo)⟩
     case measure=>simp [intOf]; omega
   ·obtain rfl:k = n:=by omega
    have HE:=Zh (comp_all hds0 HA.out);clear hds0;go_wp2;go_ret;refine ⟨k,rfl,by rw [HE.out,Array.length_toList,HD.out],by rw [HE.out]; exact (hR.below hb),fun N hN=>hb.mono Zo⟩
theorem nil_none {w:World} {A:Option Addr} {l:List Rc} (h:RdF w A l) (hA:A = none):l = []:=by
 rcases l with _ | ⟨s,r⟩
 ·rfl
 ·obtain ⟨b,off,hb,_⟩:=h (by simp)
  rw [hA] at hb; cases hb
set_option maxRecDepth 100000 in
theorem clone15_any (A:Option Addr) (c n:Nat) (l:List Rc) (w:World) (hn:l.length = n) (hr:RdF w A l) (hz:A = none -> c = 0) (hl:n <= 10000) :
  Calls Tryz.prog 89 #[.slice A n c] w fun e w'=>∃ v,e = .returned v /\ OwnF w.heap.size w' v l /\ Below w.heap.size w w':=by
 obtain ⟨i0,hi,hz0,hz1,hz2⟩:=info_parts info_find
 cases A with
 | none =>
  obtain rfl:=nil_none hr rfl;obtain rfl:n = 0:=hn.symm;obtain rfl:=hz rfl;have eN:∀ W:World,(binOp .eql 33 (.slice none 0 0) (.slice none 0 0)).run Tryz.prog W = .ok (.bool true) W:=fun W=>Lib.run_eql_slice_nil W _ _ none 0 0 0 0 Tryz.underlying33
  clear hr hz hn;go_enter Tryz.func89,Tryz.ntmps89;go_wp2;go_ret;exact ⟨_,rfl,OwnF.nil _ _,Below.refl _ _⟩
 | some ad =>
  have HR:=Zh (hr.below ((Below.refl _ w).alloc Zl (.cells #[] 52)));have HN:=Zh hn;have HM:=Zh (World.ownsRow_made (base:=w.heap.size) (e:=52) (size:=3) w #[] 0 Zl (by unfold maxLen; omega) rfl);have eN:∀ W:World,(binOp .eql 33 (.slice (some ad) n c) (.slice none 0 0)).run Tryz.prog W = .ok (.bool false) W:=fun W=>Lib.run_eql_slice_nil W _ _ (some ad) n c 0 0 Tryz.underlying33
  clear hr hz hn;go_enter Tryz.func89,Tryz.ntmps89;go_wp2_with (at_builtin; refine wpList_append_own _ rfl _ _ 33 rfl w.heap.size 52 i0 (.agg #[.int .i64 0,.int .i64 0,.int .i64 0]) 3 24 Tryz.underlying33 hi hz0 hz1 hz2 rfl Zd _ 0 [] rfl HM.out ad n c (flatF l) rfl (by rw [flatF_len,HN.out]) HR.out.news (fun u hu=>flatF_one hu) (by unfold maxLen; omega) Zo (by simp) ?_; intro v5 w5 hown5 hgrow5 _; have HS:=Zh hown5; have HB5:=Zh (((Below.refl w.heap.size w).alloc Zl (.cells #[] 52)).grown hgrow5 (by simp) (fun q hq=>(World.ownsRow.lt HM.out q hq).1)); clear hown5 hgrow5);go_ret;refine ⟨_,rfl,?_,HB5.out⟩;have:=HS.out;rw [Nat.zero_add,List.nil_append] at this;unfold OwnF;rw [HN.out];exact this
theorem few_any (A:Option Addr) (c:Nat) (w:World) :
  Calls Tryz.prog 92 #[.slice A 0 c] w fun e w'=>e = .returned (.slice A 0 c) /\ Below w.heap.size w w':=by
 go_enter Tryz.func92,Tryz.ntmps92;go_wp2;go_ret;exact ⟨rfl,Below.refl _ _⟩
theorem own_cap {base:Nat} {w:World} {A:Option Addr} {n c:Nat} {l:List Rc} (h:OwnF base w (.slice A n c) l) (hn:n ≠ 0):∃ g,A = some ⟨g,0,none⟩ /\ base <= g /\ n <= c:=by
 rcases h.2 with ⟨h',hl⟩ | ⟨g,cap,cur,h',hb,hg,hc,_⟩
 ·simp only [Value.slice.injEq] at h'
  exact absurd h'.2.1 hn
 ·simp only [Value.slice.injEq] at h'
  obtain ⟨rfl,rfl,rfl⟩:=h';exact ⟨g,rfl,hb,hc⟩
set_option maxHeartbeats 1000000 in
theorem sort15_any (A:Option Addr) (c n:Nat) (l:List Rc) (w:World) (hn:l.length = n) (hr:RdF w A l) (hz:A = none -> c = 0) (hl:n <= 10000) :
  Calls Tryz.prog 48 #[.slice A n c] w fun e w'=>∃ A' m c' r,e = .returned (.slice A' m c') /\ r.length = m /\ SetF r l /\ RdF w' A' r /\ (A' = none -> c' = 0) /\ Below w.heap.size w w':=by
 have CC:=clone15_any A c n l w hn hr hz hl;by_cases h0:n = 0
 ·subst h0
  obtain rfl:=List.eq_nil_of_length_eq_zero hn;have HS:=fun (p:Option Addr) (cap:Nat) (fv:Value) (W:World)=>AnyF.slices_SortFunc_none { sortL with } p cap fv W
  clear hr hz hn;go_enter Tryz.func48,Tryz.ntmps48
  go_wp2_with (first
   | (go_at_call 89; (with_reducible refine CC.mono ?_); rintro e w1 ⟨v,rfl,ho,hb1⟩; obtain ⟨A1,c1,rfl,hr1,hz1⟩:=ho.read; have HZ1:=Zh hz1; clear hz1 ho hr1)
   | (go_at_call 90; (refine (HS _ _ _ _).mono ?_); rintro e w2 ⟨rfl,rfl⟩)
   | (go_at_call 92; (with_reducible refine (few_any _ _ _).mono ?_); rintro e w3 ⟨rfl,hb3⟩))
  go_ret;exact ⟨A1,0,c1,[],rfl,rfl,⟨List.Pairwise.nil,fun _=>Iff.rfl⟩,RdF.nil _ _,HZ1.out,b_cl hb1 Zl hb3⟩
 ·have HN:=Zh hn
  have H0:=Zh h0;have CS:=fun (g c':Nat) (d:Array Rc) (W:World) (hd:d.size = n) (h:RwA W g d) (hg:w.heap.size <= g)=>sortF_any w.heap.size g c' n d W hd h hg Zo
  have CK:=fun (g c':Nat) (d:Array Rc) (W:World) (hd:d.size = n) (h:RwA W g d) (hc:n <= c')=>compactF_any g c' n d W hd h hc Zo
  clear hr hz h0;go_enter Tryz.func48,Tryz.ntmps48
  go_wp2_with (first
   | (go_at_call 89; (with_reducible refine CC.mono ?_); rintro e w1 ⟨v,rfl,ho,hb1⟩; obtain ⟨A1,c1,rfl,_,_⟩:=ho.read; rw [hn] at ho ⊢; obtain ⟨g,rfl,hg,hc1⟩:=own_cap ho H0.out; have HW1:=Zh (RwA.of_own ho); clear ho hn)
   | (go_at_call 90; (refine (CS g c1 l.toArray _ (by simpa using HN.out) HW1.out hg).mono ?_); rintro e w2 ⟨rfl,d2,hd2,hp2,hs2,hW2,hb2⟩; have HD2:=Zh hd2; have HP2:=Zh hp2; have HS2:=Zh hs2; have HW2:=Zh hW2; clear hd2 hp2 hs2 hW2)
   | (go_at_call 92; (refine (CK g c1 d2 _ HD2.out HW2.out hc1).mono ?_); rintro e w3 ⟨m,rfl,hm,hW3,hb3⟩; have HM3:=Zh hm; have HW3:=Zh hW3; have HB3:=Zh (hb3 w.heap.size hg); clear hm hW3 hb3))
  go_ret;have hset:=compact_setF HS2.out;rw [HD2.out] at hset;refine ⟨_,m,c1,Lib.compactUpTo d2 n,rfl,HM3.out,setF_perm hset (by simpa using HP2.out),?_,(fun h=>by cases h),(hb1.trans hb2).trans HB3.out⟩;exact HW3.out.rd
def fs (y:Nat -> Int) (c:Nat) (v:Int):Nat -> Int:=fun i=>if i = c then v else y i
def brk (y:Nat -> Int) (c:Nat) (a t:Int):Nat -> Int:=if a < t /\ y c < 0 then fs y c a else y
def noneF:Nat -> Int:=fun _=>-1
def recB (s:Nat) (y:Nat -> Int) (a:Int):Nat -> Int:=fun c=>if s.testBit c = true /\ y c < 0 then a else y c
def walkV (x:Nat -> Int) (k:Int):Nat -> Mt -> (Nat -> Int) -> Mt × (Nat -> Int)
 | 0,m,y=>(m,y)
 | n + 1,m,y=>walkV x k n (stepM x m k) (recB (stepC x m k) y m.now)
theorem walkV_add (x:Nat -> Int) (k:Int):∀ (a b:Nat) (m:Mt) (y:Nat -> Int),walkV x k (a + b) m y = walkV x k b (walkV x k a m y).1 (walkV x k a m y).2
 | 0,b,m,y=>by rw [Nat.zero_add]; rfl
 | a + 1,b,m,y=>by rw [show a + 1 + b = a + b + 1 by omega]; exact walkV_add x k a b _ _
theorem walkV_snoc (x:Nat -> Int) (k:Int) (n:Nat) (m:Mt) (y:Nat -> Int) :
  walkV x k (n + 1) m y = (stepM x (walkV x k n m y).1 k,recB (stepC x (walkV x k n m y).1 k) (walkV x k n m y).2 (walkV x k n m y).1.now):=by
 rw [walkV_add]; rfl
theorem walkV_may {x:Nat -> Int} {k:Int}:∀ (n:Nat) {m:Mt} (y:Nat -> Int),MayM m -> m.now + n <= 40320 -> MayM (walkV x k n m y).1 /\ (walkV x k n m y).1.now = m.now + n
 | 0,m,y,h,_=>⟨h,by simp [walkV]⟩
 | n + 1,m,y,h,hn=>by
  have h1:=may_step (x:=x) k h Zo;have h2:=walkV_may (x:=x) (k:=k) n (recB (stepC x m k) y m.now) h1.1 (by rw [h1.2]; omega);exact ⟨h2.1,by show (walkV x k n _ _).1.now = _; rw [h2.2,h1.2]; omega⟩
def Cl.get (c:Cl):Nat -> Bool
 | 0=>c.b0
 | 1=>c.b1
 | 2=>c.b2
 | 3=>c.b3
 | 4=>c.b4
 | 5=>c.b5
 | 6=>c.b6
 | 7=>c.b7
 | 8=>c.b8
 | 9=>c.b9
 | _=>false
set_option maxRecDepth 100000 in
theorem sum_bits:∀ b8 b6 b5 b7 b0 b2 b1 b3 b4 b9:Bool,∀ i:Fin 10,(bitN 8 b8 + bitN 6 b6 + bitN 5 b5 + bitN 7 b7 + bitN 0 b0 + bitN 2 b2 + bitN 1 b1 + bitN 3 b3 + bitN 4 b4 + bitN 9 b9).testBit i.1 = (Cl.mk b8 b6 b5 b7 b0 b2 b1 b3 b4 b9).get i.1:=by decide +kernel
theorem Cl.sum_bit (c:Cl) (i:Nat):c.sum.testBit i = c.get i:=by
 by_cases hi:i < 10
 ·exact sum_bits c.b8 c.b6 c.b5 c.b7 c.b0 c.b2 c.b1 c.b3 c.b4 c.b9 ⟨i,hi⟩
 ·rw [Nat.testBit_lt_two_pow (Nat.lt_of_lt_of_le c.sum_lt (Nat.pow_le_pow_right (n:=2) Zo (by omega:10 <= i)))]
  unfold Cl.get;split <;> first | rfl | (exfalso; omega)
theorem recB_zero (y:Nat -> Int) (a:Int):recB 0 y a = y:=by funext c; simp [recB]
theorem recB_sum (c:Cl) (y:Nat -> Int) (a:Int) (i:Nat):recB c.sum y a i = if c.get i = true /\ y i < 0 then a else y i:=by unfold recB; rw [c.sum_bit]
structure Wk where
 pos:Int
 week:Int
 last:Int
 labour:Int
 f3:Int
 f4:Int
 f9:Int
def Wk.cut (L:Int) (s:Wk):Wk:=if s.pos % L = 0 then { s with last:=s.week,week:=0,labour:=0 } else s
def Wk.plain (x:Nat -> Int) (k:Int) (s:Wk):Wk :=
 {pos:=s.pos + 1,week:=if k = 3 then s.week + 1 else s.week,last:=s.last,labour:=if k = 3 ∨ k = 2 then s.labour + 1 else s.labour,
  f3:=if (k = 3 /\ x 15 < s.week + 1) /\ s.f3 < 0 then s.pos else s.f3,
  f4:=if (k = 3 /\ x 16 < s.week + 1 + s.last) /\ s.f4 < 0 then s.pos else s.f4,
  f9:=if ((k = 3 ∨ k = 2) /\ x 17 < s.labour + 1) /\ s.f9 < 0 then s.pos else s.f9 }
def Wk.step (x:Nat -> Int) (k:Int) (s:Wk):Wk:=(s.cut (x 18)).plain x k
def Wk.run (x:Nat -> Int) (k:Int):Nat -> Wk -> Wk
 | 0,s=>s
 | n + 1,s=>(Wk.run x k n s).step x k
def Wk.seg (x:Nat -> Int) (k:Int) (s:Wk) (e:Int):Wk :=
 {pos:=e,week:=if k = 3 then s.week + (e - s.pos) else s.week,last:=s.last,labour:=if k = 3 ∨ k = 2 then s.labour + (e - s.pos) else s.labour,
  f3:=if k = 3 /\ s.pos + x 15 - s.week < e /\ s.f3 < 0 then s.pos + x 15 - s.week else s.f3,
  f4:=if k = 3 /\ s.pos + x 16 - s.last - s.week < e /\ s.f4 < 0 then s.pos + x 16 - s.last - s.week else s.f4,
  f9:=if (k = 3 ∨ k = 2) /\ s.pos + x 17 - s.labour < e /\ s.f9 < 0 then s.pos + x 17 - s.labour else s.f9 }
def Wk.Ok (x:Nat -> Int) (k:Int) (s:Wk):Prop :=
 0 < s.pos /\ 0 <= s.week /\ 0 <= s.last /\ 0 <= s.labour /\ (k = 3 -> x 15 < s.week -> 0 <= s.f3) /\ (k = 3 -> x 16 < s.week + s.last -> 0 <= s.f4) /\ (k = 3 ∨ k = 2 -> x 17 < s.labour -> 0 <= s.f9)
def Lims (x:Nat -> Int):Prop:=1 <= x 15 /\ 1 <= x 16 /\ 1 <= x 17 /\ 1 <= x 18
theorem Wk.ok_cut {x:Nat -> Int} {k:Int} {s:Wk} (L:Int) (hx:Lims x) (h:s.Ok x k):(s.cut L).Ok x k:=by
 unfold Wk.cut;split
 ·obtain ⟨h0,h1,h2,h3,h4,h5,h6⟩:=h
  obtain ⟨x5,x6,x7,-⟩:=hx;refine ⟨h0,by simp,h1,by simp,fun _ h=>?_,fun hk h=>h5 hk ?_,fun _ h=>?_⟩
  ·simp only at h; omega
  ·simp only at h; omega
  ·simp only at h; omega
 ·exact h
theorem Wk.ok_plain {x:Nat -> Int} {k:Int} {s:Wk} (h:s.Ok x k):(s.plain x k).Ok x k:=by
 obtain ⟨h0,h1,h2,h3,h4,h5,h6⟩:=h;unfold Wk.plain;refine ⟨?_,?_,h2,?_,?_,?_,?_⟩
 ·show 0 < s.pos + 1; omega
 ·dsimp only; split <;> omega
 ·dsimp only; split <;> omega
 ·intro hk
  dsimp only;rw [if_pos hk];intro h;have:=h4 hk;split <;> omega
 ·intro hk
  dsimp only;rw [if_pos hk];intro h;have:=h5 hk;split <;> omega
 ·intro hk
  dsimp only;rw [if_pos hk];intro h;have:=h6 hk;split <;> omega
theorem Wk.ok_step {x:Nat -> Int} {k:Int} {s:Wk} (hx:Lims x) (h:s.Ok x k):(s.step x k).Ok x k:=Wk.ok_plain (Wk.ok_cut _ hx h)
theorem Wk.ok_run {x:Nat -> Int} {k:Int} (hx:Lims x):∀ (n:Nat) {s:Wk},s.Ok x k -> (Wk.run x k n s).Ok x k
 | 0,_,h=>h
 | n + 1,_,h=>Wk.ok_step hx (Wk.ok_run hx n h)
theorem Wk.pos_step (x:Nat -> Int) (k:Int) (s:Wk):(s.step x k).pos = s.pos + 1:=by unfold Wk.step Wk.cut Wk.plain; split <;> rfl
theorem Wk.pos_run (x:Nat -> Int) (k:Int) (s:Wk):∀ n,(Wk.run x k n s).pos = s.pos + (n:Nat)
 | 0=>by simp [Wk.run]
 | n + 1=>by unfold Wk.run; rw [Wk.pos_step,Wk.pos_run x k s n]; omega
theorem Wk.run_add (x:Nat -> Int) (k:Int) (s:Wk) (a:Nat):∀ b,Wk.run x k (a + b) s = Wk.run x k b (Wk.run x k a s)
 | 0=>rfl
 | b + 1=>by show (Wk.run x k (a + b) s).step x k = _; rw [Wk.run_add x k s a b]; rfl
theorem Wk.seg_self (x:Nat -> Int) (k:Int) (s:Wk) (h:s.Ok x k):s.seg x k s.pos = s:=by
 obtain ⟨h0,h1,h2,h3,h4,h5,h6⟩:=h;unfold Wk.seg;obtain ⟨p,a,b,c,f3,f4,f9⟩:=s;dsimp only at *;congr 1
 ·split <;> omega
 ·split <;> omega
 ·rw [if_neg]; intro ⟨hk,h,_⟩; have:=h4 hk; omega
 ·rw [if_neg]; intro ⟨hk,h,_⟩; have:=h5 hk; omega
 ·rw [if_neg]; intro ⟨hk,h,_⟩; have:=h6 hk; omega
theorem Wk.seg_plain (x:Nat -> Int) (k:Int) (s:Wk) (e:Int) (he:s.pos <= e) (h:s.Ok x k):(s.seg x k e).plain x k = s.seg x k (e + 1):=by
 obtain ⟨h0,h1,h2,h3,h4,h5,h6⟩:=h;unfold Wk.seg Wk.plain;obtain ⟨p,a,b,c,f3,f4,f9⟩:=s;dsimp only at *;by_cases hk:k = 3
 ·have g4:=h4 hk
  have g5:=h5 hk;have g6:=h6 (Or.inl hk);simp only [hk,if_true,true_and,true_or];congr 1
  ·omega
  ·omega
  ·repeat' split
   all_goals omega
  ·repeat' split
   all_goals omega
  ·repeat' split
   all_goals omega
 ·by_cases hk2:k = 2
  ·have g6:=h6 (Or.inr hk2)
   subst hk2;simp only [if_true,if_false,false_and,true_and,or_true,show ¬ ((2:Int) = 3) by decide];congr 1
   ·omega
   ·repeat' split
    all_goals omega
  ·simp only [hk,hk2,if_false,false_and,or_self]
theorem Wk.run_seg (x:Nat -> Int) (k:Int) (s:Wk) (hx:Lims x) (h:s.Ok x k):∀ n:Nat,0 < n -> (∀ i:Nat,0 < i -> i < n -> ¬ (s.pos + i) % x 18 = 0) -> Wk.run x k n s = (s.cut (x 18)).seg x k (s.pos + n)
 | 0,h0,_=>by omega
 | 1,_,_=>by
  have hc:=Wk.ok_cut (x 18) hx h;have hp:(s.cut (x 18)).pos = s.pos:=by unfold Wk.cut; split <;> rfl
  have:=Wk.seg_plain x k (s.cut (x 18)) s.pos (by rw [hp]; exact Int.le_refl _) hc;rw [<- hp,Wk.seg_self x k _ hc] at this
  show (s.cut (x 18)).plain x k = _
  rw [this,hp];rfl
 | n + 2,_,hn=>by
  have ih:=Wk.run_seg x k s hx h (n + 1) Zo (fun i hi hl=>hn i hi Zo);have hc:=Wk.ok_cut (x 18) hx h;have hp:(s.cut (x 18)).pos = s.pos:=by unfold Wk.cut; split <;> rfl
  show (Wk.run x k (n + 1) s).step x k = _
  have hpos:=Wk.pos_run x k s (n + 1);unfold Wk.step Wk.cut;rw [hpos,if_neg (hn (n + 1) Zo Zo),ih,Wk.seg_plain x k _ _ (by rw [hp]; omega) hc,show s.pos + ((n + 1:Nat):Int) + 1 = s.pos + ((n + 2:Nat):Int) by omega];rfl
theorem emod_next {p L:Int} (hL:1 <= L):((p - 1) % L + 1 = p % L /\ ¬ p % L = 0) ∨ ((p - 1) % L + 1 = L /\ p % L = 0):=by
 have h0:=Int.emod_nonneg (p - 1) (show L ≠ 0 by omega);have h1:=Int.emod_lt_of_pos (p - 1) (show 0 < L by omega);have h2:=Int.mul_ediv_add_emod (p - 1) L;generalize (p - 1) / L = q at h2;generalize (p - 1) % L = r at h0 h1 h2 ⊢;have hp:p = r + 1 + L * q:=by omega
 by_cases h:r + 1 = L
 ·right
  refine ⟨h,?_⟩;rw [hp,h,Int.add_mul_emod_self_left,Int.emod_self]
 ·left
  have:p % L = r + 1:=by rw [hp,Int.add_mul_emod_self_left]; exact Int.emod_eq_of_lt Zo Zo
  rw [this];exact ⟨rfl,by omega⟩
def Wk.Alike (x:Nat -> Int) (k:Int) (s:Wk):Prop :=
 (s.week = if k = 3 then (s.pos - 1) % x 18 + 1 else 0) /\ (s.last = if k = 3 then x 18 else 0) /\ (s.labour = if k = 3 ∨ k = 2 then (s.pos - 1) % x 18 + 1 else 0) /\
 (k = 3 -> x 15 < x 18 -> 0 <= s.f3) /\ (k = 3 -> x 16 < 2 * x 18 -> 0 <= s.f4) /\ (k = 3 ∨ k = 2 -> x 17 < x 18 -> 0 <= s.f9)
def Wk.SameF (s t:Wk):Prop:=s.f3 = t.f3 /\ s.f4 = t.f4 /\ s.f9 = t.f9
theorem Wk.alike_step {x:Nat -> Int} {k:Int} {s:Wk} (hx:Lims x) (h:s.Alike x k):(s.step x k).Alike x k /\ (s.step x k).SameF s:=by
 obtain ⟨-,-,-,hL⟩:=hx;obtain ⟨p,a,b,c,f3,f4,f9⟩:=s;unfold Wk.Alike at h;dsimp only at h;obtain ⟨h1,h2,h3,h4,h5,h6⟩:=h;have hm:=emod_next (p:=p) hL;have hm0:=Int.emod_nonneg (p - 1) (show x 18 ≠ 0 by omega);have hm1:=Int.emod_lt_of_pos (p - 1) (show 0 < x 18 by omega);have hm2:=Int.emod_lt_of_pos p (show 0 < x 18 by omega);unfold Wk.step Wk.cut;dsimp only;generalize hq:(p - 1) % x 18 = q at *;generalize hr:p % x 18 = r at *
 rcases hm with ⟨e1,e2⟩ | ⟨e1,e2⟩
 ·rw [if_neg e2]
  unfold Wk.plain Wk.Alike Wk.SameF;dsimp only;rw [show p + 1 - 1 = p by omega,hr];by_cases hk:k = 3
  ·have g4:=h4 hk; have g5:=h5 hk; have g6:=h6 (Or.inl hk)
   rw [if_pos hk] at h1 h2;rw [if_pos (Or.inl hk)] at h3;have F3:¬ ((k = 3 /\ x 15 < a + 1) /\ f3 < 0):=by omega
   have F4:¬ ((k = 3 /\ x 16 < a + 1 + b) /\ f4 < 0):=by omega
   have F9:¬ (((k = 3 ∨ k = 2) /\ x 17 < c + 1) /\ f9 < 0):=by omega
   rw [if_pos hk,if_pos hk,if_pos hk,if_pos (Or.inl hk),if_pos (Or.inl hk),if_neg F3,if_neg F4,if_neg F9];exact ⟨⟨by omega,h2,by omega,h4,h5,h6⟩,rfl,rfl,rfl⟩
  ·rw [if_neg hk] at h1 h2
   have F3:¬ ((k = 3 /\ x 15 < a + 1) /\ f3 < 0):=fun h=>hk h.1.1
   have F4:¬ ((k = 3 /\ x 16 < a + 1 + b) /\ f4 < 0):=fun h=>hk h.1.1
   rw [if_neg hk,if_neg hk,if_neg hk,if_neg F3,if_neg F4];by_cases hk2:k = 3 ∨ k = 2
   ·have g6:=h6 hk2
    rw [if_pos hk2] at h3;have F9:¬ (((k = 3 ∨ k = 2) /\ x 17 < c + 1) /\ f9 < 0):=by omega
    rw [if_pos hk2,if_pos hk2,if_neg F9];exact ⟨⟨h1,h2,by omega,h4,h5,h6⟩,rfl,rfl,rfl⟩
   ·rw [if_neg hk2] at h3
    have F9:¬ (((k = 3 ∨ k = 2) /\ x 17 < c + 1) /\ f9 < 0):=fun h=>hk2 h.1.1
    rw [if_neg hk2,if_neg hk2,if_neg F9];exact ⟨⟨h1,h2,h3,h4,h5,h6⟩,rfl,rfl,rfl⟩
 ·rw [if_pos e2]
  unfold Wk.plain Wk.Alike Wk.SameF;dsimp only;rw [show p + 1 - 1 = p by omega,hr];by_cases hk:k = 3
  ·have g4:=h4 hk; have g5:=h5 hk; have g6:=h6 (Or.inl hk)
   rw [if_pos hk] at h1 h2;have F3:¬ ((k = 3 /\ x 15 < 0 + 1) /\ f3 < 0):=by omega
   have F4:¬ ((k = 3 /\ x 16 < 0 + 1 + a) /\ f4 < 0):=by omega
   have F9:¬ (((k = 3 ∨ k = 2) /\ x 17 < 0 + 1) /\ f9 < 0):=by omega
   rw [if_pos hk,if_pos hk,if_pos hk,if_pos (Or.inl hk),if_pos (Or.inl hk),if_neg F3,if_neg F4,if_neg F9];exact ⟨⟨by omega,by omega,by omega,h4,h5,h6⟩,rfl,rfl,rfl⟩
  ·rw [if_neg hk] at h1 h2
   have F3:¬ ((k = 3 /\ x 15 < 0 + 1) /\ f3 < 0):=fun h=>hk h.1.1
   have F4:¬ ((k = 3 /\ x 16 < 0 + 1 + a) /\ f4 < 0):=fun h=>hk h.1.1
   rw [if_neg hk,if_neg hk,if_neg hk,if_neg F3,if_neg F4];by_cases hk2:k = 3 ∨ k = 2
   ·have g6:=h6 hk2
    have F9:¬ (((k = 3 ∨ k = 2) /\ x 17 < 0 + 1) /\ f9 < 0):=by omega
    rw [if_pos hk2,if_pos hk2,if_neg F9];exact ⟨⟨rfl,h1,by omega,h4,h5,h6⟩,rfl,rfl,rfl⟩
   ·have F9:¬ (((k = 3 ∨ k = 2) /\ x 17 < 0 + 1) /\ f9 < 0):=fun h=>hk2 h.1.1
    rw [if_neg hk2,if_neg hk2,if_neg F9];exact ⟨⟨rfl,h1,rfl,h4,h5,h6⟩,rfl,rfl,rfl⟩
theorem Wk.alike_run {x:Nat -> Int} {k:Int} {s:Wk} (hx:Lims x) (h:s.Alike x k):∀ n,(Wk.run x k n s).Alike x k /\ (Wk.run x k n s).SameF s
 | 0=>⟨h,rfl,rfl,rfl⟩
 | n + 1=>by
  obtain ⟨h1,e1,e2,e3⟩:=Wk.alike_run hx h n;obtain ⟨h2,g1,g2,g3⟩:=Wk.alike_step hx h1;exact ⟨h2,g1.trans e1,g2.trans e2,g3.trans e3⟩
theorem Wk.week_run {x:Nat -> Int} {k:Int} {s:Wk} (hx:Lims x) (h:s.Ok x k) (h0:s.pos % x 18 = 0) :
  Wk.run x k (x 18).toNat s = ({ s with last:=s.week,week:=0,labour:=0 }:Wk).seg x k (s.pos + x 18):=by
 have hL:=hx.2.2.2;rw [Wk.run_seg x k s hx h (x 18).toNat Zo (fun i hi hl=>?_)]
 ·unfold Wk.cut
  rw [if_pos h0,Int.toNat_of_nonneg Zo]
 ·rw [Int.add_emod,h0,Int.zero_add,Int.emod_emod_of_dvd _ (Int.dvd_refl _),Int.emod_eq_of_lt Zo Zo]
  omega
theorem Wk.alike_two {x:Nat -> Int} {k:Int} {s:Wk} (hx:Lims x) (h:s.Ok x k) (h0:s.pos % x 18 = 0):(Wk.run x k ((x 18).toNat + (x 18).toNat) s).Alike x k:=by
 have hL:=hx.2.2.2;rw [Wk.run_add,Wk.week_run hx h h0]
 have hok:(({ s with last:=s.week,week:=0,labour:=0 }:Wk).seg x k (s.pos + x 18)).Ok x k:=by
  rw [<- Wk.week_run hx h h0];exact Wk.ok_run hx _ h
 have hp:(s.pos + x 18) % x 18 = 0:=by rw [Int.add_emod_right,h0]
 rw [Wk.week_run hx hok (by exact hp)];obtain ⟨p,a,b,c,f3,f4,f9⟩:=s;obtain ⟨h1,h2,h3,h4,h5,h6,h7⟩:=h;dsimp only at *
 have hm:(p + x 18 + x 18 - 1) % x 18 = x 18 - 1:=by
  rw [show p + x 18 + x 18 - 1 = p + x 18 + (x 18 - 1) by omega,Int.add_emod,hp,Int.zero_add,Int.emod_emod_of_dvd _ (Int.dvd_refl _),Int.emod_eq_of_lt Zo Zo]
 obtain ⟨hx1,hx2,hx3,-⟩:=hx;unfold Wk.seg Wk.Alike;dsimp only;rw [hm];by_cases hk:k = 3
 ·have g5:=h5 hk; have g6:=h6 hk; have g7:=h7 (Or.inl hk)
  simp only [hk,if_true,true_and,true_or,true_implies];refine ⟨by omega,by omega,by omega,?_,?_,?_⟩
  all_goals (intro h; repeat' split)
  all_goals omega
 ·by_cases hk2:k = 2
  ·subst hk2
   simp only [if_true,if_false,false_and,true_and,or_true,true_implies,false_implies,show ¬ ((2:Int) = 3) by decide];refine ⟨by omega,?_⟩;intro h
   repeat' split
   all_goals omega
  ·simp only [hk,hk2,if_false,false_and,or_self,false_implies,and_self]
theorem next_begin (p L:Int) (hL:1 <= L):∃ j:Nat,(j:Int) < L /\ (p + j) % L = 0:=by
 have h0:=Int.emod_nonneg p (show L ≠ 0 by omega);have h1:=Int.emod_lt_of_pos p (show 0 < L by omega);have h2:=Int.mul_ediv_add_emod p L;generalize p / L = q at h2;generalize p % L = r at h0 h1 h2;by_cases h:r = 0
 ·exact ⟨0,by omega,by rw [show p + ((0:Nat):Int) = 0 + L * q by omega,Int.add_mul_emod_self_left]; rfl⟩
 ·refine ⟨(L - r).toNat,by omega,?_⟩
  rw [Int.toNat_of_nonneg Zo,show p + (L - r) = L + L * q by omega,Int.add_mul_emod_self_left,Int.emod_self]
theorem Wk.run_less {x:Nat -> Int} {k:Int} {s:Wk} (hx:Lims x) (h:s.Ok x k) (n:Nat) (hn:3 * x 18 < n) :
  let t:=Wk.run x k n s; let u:=Wk.run x k ((n:Int) % x 18 + 3 * x 18).toNat s
  t.week = u.week /\ t.last = u.last /\ t.labour = u.labour /\ t.SameF u:=by
 have hL:=hx.2.2.2;dsimp only;obtain ⟨j,hj,hj0⟩:=next_begin s.pos (x 18) hL;have hr0:=Int.emod_nonneg (n:Int) (show x 18 ≠ 0 by omega);have hr1:=Int.emod_lt_of_pos (n:Int) (show 0 < x 18 by omega);have hal:=Wk.alike_two (k:=k) hx (Wk.ok_run hx j h) (by rw [Wk.pos_run]; exact hj0);rw [<- Wk.run_add] at hal;obtain ⟨z,hz⟩:∃ z,j + ((x 18).toNat + (x 18).toNat) = z:=⟨_,rfl⟩;rw [hz] at hal;have e1:Wk.run x k n s = Wk.run x k (n - z) (Wk.run x k z s):=by rw [<- Wk.run_add]; congr 1; omega
 have e2:Wk.run x k ((n:Int) % x 18 + 3 * x 18).toNat s = Wk.run x k (((n:Int) % x 18 + 3 * x 18).toNat - z) (Wk.run x k z s):=by rw [<- Wk.run_add]; congr 1; omega
 have p1:=Wk.pos_run x k s n;have p2:=Wk.pos_run x k s ((n:Int) % x 18 + 3 * x 18).toNat;rw [e1] at p1;rw [e2] at p2;rw [e1,e2];obtain ⟨⟨a1,a2,a3,-⟩,s1⟩:=Wk.alike_run hx hal (n - z);obtain ⟨⟨b1,b2,b3,-⟩,s2⟩:=Wk.alike_run hx hal (((n:Int) % x 18 + 3 * x 18).toNat - z)
 have hm:(s.pos + (n:Int) - 1) % x 18 = (s.pos + (((n:Int) % x 18 + 3 * x 18).toNat:Int) - 1) % x 18:=by
  rw [Int.toNat_of_nonneg Zo];have h2:=Int.mul_ediv_add_emod (n:Int) (x 18);generalize (n:Int) / x 18 = q at h2;generalize (n:Int) % x 18 = r at h2;rw [show s.pos + (n:Int) - 1 = (s.pos + r - 1) + x 18 * q by omega,Int.add_mul_emod_self_left,show s.pos + (r + 3 * x 18) - 1 = (s.pos + r - 1) + x 18 * 3 by omega,Int.add_mul_emod_self_left]
 rw [p1,hm,<- p2] at a1 a3;exact ⟨a1.trans b1.symm,a2.trans b2.symm,a3.trans b3.symm,s1.1.trans s2.1.symm,s1.2.1.trans s2.2.1.symm,s1.2.2.trans s2.2.2.symm⟩
end Go.Proofs.YtiamnbddbmgffaaGreatDoor
