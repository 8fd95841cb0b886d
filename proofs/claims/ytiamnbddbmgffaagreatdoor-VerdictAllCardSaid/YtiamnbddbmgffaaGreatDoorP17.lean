/- Texts of the proofs of VerdictAudits, VerdictAll, VerdictRising, pressed: DutyNote, SpellLeaf, SpellSt, SpellOf, MeterLeaf. Conditions: as each theorem says. -/
import Derived.Test.YtiamnbddbmgffaaGreatDoorRows
import Derived.Test.YtiamnbddbmgffaaGreatDoorP16
import Derived.OneCell
namespace Go.Proofs.YtiamnbddbmgffaaGreatDoor
open Go.RowKit
set_option linter.unusedVariables false
structure Kp2 (base E L:Nat) (W W':World):Prop where
 size:W.heap.size <= W'.heap.size
 os:W'.os = W.os
 tape:W'.tape = W.tape
 output:W'.output = W.output
 block:∀ q,q < W.heap.size -> q ≠ E -> q ≠ L -> (q < base ∨ ∀ cs z,W.heap[q]? ≠ some (.cells cs 52 z)) -> W'.heap[q]? = W.heap[q]?
theorem Kp2.refl (base E L:Nat) (W:World):Kp2 base E L W W:=⟨Nat.le_refl _,rfl,rfl,rfl,fun _ _ _ _ _=>rfl⟩
theorem Kp2.trans {base E L:Nat} {A B C:World} (h:Kp2 base E L A B) (k:Kp2 base E L B C):Kp2 base E L A C :=
 ⟨Nat.le_trans h.size k.size,k.os.trans h.os,k.tape.trans h.tape,k.output.trans h.output,fun q a b c d=>by
  have e:=h.block q a b c d;rw [<- e]
  exact k.block q (Nat.lt_of_lt_of_le a h.size) b c (d.imp id fun d cs z=>by rw [e]; exact d cs z)⟩
theorem Kp2.of_below {base E L n:Nat} {A B:World} (h:Below n A B) (hn:n = A.heap.size):Kp2 base E L A B :=
 ⟨h.size,h.os,h.tape,h.output,fun q a _ _ _=>h.block q Zo⟩
theorem Kp2.wide {base E L:Nat} {A B:World} (h:Kp2 base L L A B):Kp2 base E L A B:=⟨h.size,h.os,h.tape,h.output,fun q a _ c d=>h.block q a c c d⟩
theorem Kp2.below {base E L n:Nat} {A B:World} (h:Kp2 base E L A B) (hn:n <= base) (hE:n <= E) (hL:n <= L) (hs:n <= A.heap.size):Below n A B :=
 ⟨h.os,h.tape,h.output,h.size,fun q a=>h.block q Zo Zo Zo (.inl Zo)⟩
theorem Kp2.upd {base E L g:Nat} {t:TypeId} {cs:Array Value} {A B C:World} (h:Kp2 base E L A B) (u:Upd B g t cs C) (hg:g = E ∨ g = L ∨ A.heap.size <= g):Kp2 base E L A C :=
 ⟨by rw [u.size]; exact h.size,(u.bel 0 (Nat.zero_le _)).os.trans h.os,(u.bel 0 (Nat.zero_le _)).tape.trans h.tape,(u.bel 0 (Nat.zero_le _)).output.trans h.output,fun q a b c d=>(u.other q Zo).trans (h.block q a b c d)⟩
theorem Kp2.chg {base L g:Nat} {t:TypeId} {cs:Array Value} {B C:World} (u:Chg B g t cs C):Kp2 base g L B C :=
 ⟨u.size,(u.bel 0 (Nat.zero_le _) (Nat.zero_le _)).os,(u.bel 0 (Nat.zero_le _) (Nat.zero_le _)).tape,(u.bel 0 (Nat.zero_le _) (Nat.zero_le _)).output,fun q a b _ _=>u.other q b a⟩
theorem Kp2.bx {base E L g:Nat} {t:TypeId} {cs:Array Value} {A B:World} (h:Kp2 base E L A B) (hb:Bx A g t cs) (hE:g ≠ E) (hL:g ≠ L) (ht:t ≠ 52):Bx B g t cs :=
 (h.block g hb.lt hE hL (.inr fun cs' z e=>by unfold Bx at hb; rw [hb] at e; injection e with e; injection e with _ e _; exact ht e)).trans hb
theorem Kp2.row {base E L b sz n:Nat} {e:TypeId} {A B:World} {v:Value} {xs:List Value} (k:Kp2 base E L A B) (h:A.ownsRow b e sz v n xs) (hE:E < b) (hL:L < b) (ht:e ≠ 52):B.ownsRow b e sz v n xs :=
 row_block h fun q hq=>by
  have hl:=World.ownsRow.lt h q hq;refine k.block q hl.2 Zo Zo (.inr fun cs z hh=>?_);obtain ⟨cs',z',e'⟩:=row_type h hq;rw [e'] at hh;injection hh with hh
  injection hh with _ hh _
  exact ht hh
structure DutS (base g L:Nat) (x:Nat -> Int) (m:Mt) (p:Int) (F:Fd) (W:World):Prop where
 sw:Sw W g x m p
 cell:∃ v l,Bx W L 33 #[v] /\ OwnF base W v l /\ Rep l F
 gb:g < base
 lb:L < base
 ne:g ≠ L
 sz:base <= W.heap.size
theorem DutS.below {base g L n:Nat} {x:Nat -> Int} {m:Mt} {p:Int} {F:Fd} {W W':World} (h:DutS base g L x m p F W) (hb:Below n W W') (hn:n = W.heap.size):DutS base g L x m p F W':=by
 subst hn;obtain ⟨v,l,h1,h2,h3⟩:=h.cell;exact ⟨h.sw.below hb,⟨v,l,h1.below hb,h2.below hb,h3⟩,h.gb,h.lb,h.ne,Nat.le_trans h.sz hb.size⟩
theorem DutS.turned {base g L:Nat} {x:Nat -> Int} {m m':Mt} {p p':Int} {F:Fd} {W W':World} (h:DutS base g L x m p F W) (u:SwTo W g x m' p' W'):DutS base g L x m' p' F W':=by
 obtain ⟨v,l,h1,h2,h3⟩:=h.cell;exact ⟨u.box,⟨v,l,u.bx h1 (fun e=>h.ne e.symm),h2.chg u h.gb,h3⟩,h.gb,h.lb,h.ne,Nat.le_trans h.sz u.size⟩
set_option maxRecDepth 20000 in
set_option maxHeartbeats 2000000 in
theorem note_any (base g L:Nat) (x:Nat -> Int) (m:Mt) (p:Int) (F:Fd) (c:Nat) (t:Int) (W:World) (h:DutS base g L x m p F W) (hx:May x) (hL:1 <= x 18) (hc:c < 10) (h0:0 <= t) (h1:t <= 40320) :
  Calls Tryz.prog 43 #[.int .i64 (c:Nat),.int .i64 t,.pointer (some ⟨L,0,none⟩),.pointer (some ⟨g,0,none⟩)] W fun e W'=>e = .returned (.tuple #[]) /\ DutS base g L x m p (putF F c (sinceV x m p c t,t + 1)) W' /\ Kp2 base L L W W':=by
 obtain ⟨v,l,HL,HO,HR⟩:=h.cell;have hLE:=HR.le;obtain ⟨A,cp,rfl,hrd,hz⟩:=HO.read;obtain ⟨n,hn⟩:∃ n,l.length = n:=⟨_,rfl⟩;rw [hn] at HL HO hLE;have SE:=fun W h=>set16_any A cp n l W hn h Zo
 have IN:=fun W=>in_any (setL l:Nat) (c:Nat) W
 rw [HR.inS hc] at IN;have fL:W.cell? ⟨L,0,none⟩ = some (.slice A n cp):=HL.cell rfl
 cases hF:F c with
 | some u =>
  rw [hF] at IN;have IN2:∀ W,Calls Tryz.prog 44 #[.int .i64 (setL l:Nat),.int .i64 (c:Nat)] W fun e w'=>e = .returned (.bool true) /\ W = w':=IN
  have e:putF F c (sinceV x m p c t,t + 1) = F:=by
   funext i;unfold putF;rw [if_neg];rintro ⟨rfl,hh⟩;rw [hF] at hh; cases hh
  rw [e];clear hF e IN HR hz HO HL;go_enter Tryz.func43,Tryz.ntmps43
  go_wp2_with (first
   | (go_at_call 45; (with_reducible refine (SE _ hrd).mono ?_); rintro e w1 ⟨rfl,hb1⟩)
   | (go_at_call 44; (with_reducible refine (IN2 _).mono ?_); rintro e w2 ⟨rfl,rfl⟩))
  refine bodyPost_end (results_none Tryz.results43 _ _ _) rfl ⟨rfl,?_,?_⟩
  ·exact h.below hb1 rfl
  ·exact Kp2.of_below hb1 rfl
 | none =>
  rw [hF] at IN;have IN2:∀ W,Calls Tryz.prog 44 #[.int .i64 (setL l:Nat),.int .i64 (c:Nat)] W fun e w'=>e = .returned (.bool false) /\ W = w':=IN
  have FR:=fun W h=>from16_any g x m p c t W h hx hL hc h0 h1
  have HRP:=HR.put (c:=c) (f:=sinceV x m p c t) (t:=t + 1) hc hF;obtain ⟨fr,hfr⟩:∃ fr,sinceV x m p c t = fr:=⟨_,rfl⟩;rw [hfr] at FR HRP ⊢;have hsw:=h.sw;have hne:=h.ne;have hlb:=h.lb;have hgb:=h.gb;have hsz:=h.sz;obtain ⟨i0,hi,hz0,hz1,hz2⟩:=info_parts info_find;clear hfr hF IN HR hz hc hx h hL;go_enter Tryz.func43,Tryz.ntmps43
  go_upto_region 1 with (first
   | (go_at_call 45; (with_reducible refine (SE _ hrd).mono ?_); rintro e w1 ⟨rfl,hb1⟩)
   | (go_at_call 44; (with_reducible refine (IN2 _).mono ?_); rintro e w2 ⟨rfl,rfl⟩))
  have hrt:∀ q,(Value.slice A n cp).ownBlock = some q -> ∃ cs z,w1.heap[q]? = some (.cells cs 52 z):=fun q hq=>row_type (show w1.ownsRow base 52 3 _ _ _ from HO.below hb1) hq
  replace hsw:=(hsw.below hb1).drew;replace HL:=(HL.below hb1).drew;replace HO:=HO.below hb1;have hk1:=Kp2.of_below (base:=base) (E:=L) (L:=L) hb1 rfl;replace hsz:=Nat.le_trans hsz hb1.size
  have HO2:OwnF base (w1.drew.alloc (.cells #[.int .i64 (c:Nat),.int .i64 fr,.int .i64 (t + 1)] 52)) (.slice A n cp) l:=by
   have HO':=HO;unfold OwnF at HO' ⊢;exact World.ownsRow.alloc (show w1.drew.ownsRow base 52 3 _ l.length (flatF l) from HO') _
  have HLA:=HL.alloc (.cells #[.int .i64 (c:Nat),.int .i64 fr,.int .i64 (t + 1)] 52);have hswA:=hsw.alloc (.cells #[.int .i64 (c:Nat),.int .i64 fr,.int .i64 (t + 1)] 52);have fL2:w1.drew.cell? ⟨L,0,none⟩ = some (.slice A n cp):=HL.cell rfl;have fL3:(w1.drew.alloc (.cells #[.int .i64 (c:Nat),.int .i64 fr,.int .i64 (t + 1)] 52)).cell? ⟨L,0,none⟩ = some (.slice A n cp):=HLA.cell rfl;have fL4:((w1.alloc (.cells #[.int .i64 (c:Nat),.int .i64 fr,.int .i64 (t + 1)] 52)).drew).cell? ⟨L,0,none⟩ = some (.slice A n cp):=fL3;have hw1:IntKind.i64.wrap (t + 1) = t + 1:=wrap14 (t + 1) Zo Zo;clear SE IN2 fL HO hb1 hrd;refine wp_region_noPanic ?_;refine wp_region_held_drew (S:=fun _=>True) Zk trivial (fun hHeld=>?_);refine Zt 1 (some 12) ?_;(try simp only [Zs]);refine Zt 2 (some 13) ?_;(try simp only [Zs]);refine Zt 3 (some 14) ?_;(try simp only [Zs]);refine Zt 5 (some 16) ?_;(try simp only [Zs]);refine Zt 6 (some 17) ?_;(try simp only [Zs]);refine wpAnyH_ready (rs:=[0,4]) Zk (by simp) ?_;refine AllReadyH.cons (o:=⟨some 11,_,_,_,_,_⟩) rfl (fun K hK=>?_) (AllReadyH.cons (o:=⟨some 15,_,_,_,_,_⟩) rfl (fun K hK=>?_) AllReadyH.nil)
  ·
   go_simp
   try go_wp2_with fail
   refine hK.out _ _ trivial (fun hHeld=>?_);clear hK K;(try simp only [Zs]);refine Zr 4 (some 15) fun K hK=>?_
   go_simp;(go_at_call 46; (with_reducible refine (FR _ hsw).mono ?_); rintro e w3 ⟨rfl,rfl⟩);go_wp2_with fail;refine hK.out _ _ trivial (fun hHeld=>?_);clear hK K;(try simp only [Zs]);refine Zt 7 (some 18) (v:=.agg #[.int .i64 (c:Nat),.int .i64 fr,.int .i64 (t + 1)]) (hy:=fun w' hSw=>exec_build _ _ rfl Zk) ?_;(try simp only [Zs]);refine Zr 8 (some 19) fun K hK=>?_
   go_simp
   try go_wp2_with fail
   refine hK.out _ _ trivial (fun hHeld=>?_);clear hK K;(try simp only [Zs]);refine Zr 9 (some 20) fun K hK=>?_
   refine wp_append_own _ _ _ 33 rfl base 52 i0 (.agg #[.int .i64 0,.int .i64 0,.int .i64 0]) 3 24 Tryz.underlying33 hi hz0 hz1 hz2 rfl Zd _ n _ rfl (by have:=HO2; unfold OwnF at this; rw [hn] at this; exact this) ⟨w1.heap.size,0,none⟩ 1 1 [.int .i64 (c:Nat),.int .i64 fr,.int .i64 (t + 1)] rfl rfl (find_news rfl) find_cells (by unfold maxLen; omega) Zo (by simp; omega) (fun v5 w5 hown5 hgrow5 _=>?_);refine hK.out _ _ trivial (fun hHeld=>?_);clear hK K;(try simp only [Zs]);have hlr:∀ q,(Value.slice A n cp).ownBlock = some q -> base <= q:=fun q hq=>(World.ownsRow.lt HO2 q hq).1
   have hz6:=hgrow5.size;(try simp only [World.size_alloc] at hz6);replace hz6:w1.heap.size + 1 <= w5.heap.size:=(by first | exact hz6 | simpa using hz6);have HL5:Bx w5 L 33 #[.slice A n cp]:=(hgrow5.block L (by simp; have:L < w1.drew.heap.size:=HL.lt; exact Nat.lt_succ_of_lt this) (fun e=>by have:=hlr L e.symm; omega)).trans HLA;have hsw5:Sw w5 g x m p:=(hgrow5.block g (by simp; have:g < w1.drew.heap.size:=hsw.lt; exact Nat.lt_succ_of_lt this) (fun e=>by have:=hlr g e.symm; omega)).trans hswA;refine Zr 10 none fun K hK=>?_
   refine wp_store_fld 33 _ _ rfl L 0 v5 rfl rfl ?_ 33 _ HL5 (by simp) Zk (fun w6 u=>?_)
   ·obtain ⟨A5,c5,rfl,_⟩:=(OwnF.snoc (l:=l) (by rw [hn]; exact hown5)).read
    rfl
   refine hK.out _ _ trivial (fun hHeld=>?_);clear hK K;(try simp only [Act.put]);refine wpAnyH_done Zk ?_ _;refine NoPanic.normal ?_;go_wp2_with fail;refine bodyPost_end (results_none Tryz.results43 _ _ _) rfl ⟨rfl,?_,?_⟩
   ·refine ⟨u.bx hsw5 hne,⟨v5,l ++ [((c:Int),fr,t + 1)],u.box,OwnF.upd (OwnF.snoc (l:=l) (by rw [hn]; exact hown5)) u hlb,HRP⟩,hgb,hlb,hne,by rw [u.size]; omega⟩
   ·refine (hk1.trans ⟨by omega,hgrow5.os,hgrow5.tape,hgrow5.output,fun q hq0 _ hq3 hq4=>?_⟩).upd u (Or.inl rfl)
    rw [hgrow5.block q (by simp; omega) (fun e=>?_)]
    ·exact Below.heap_alloc w1.drew _ q hq0
    ·rcases hq4 with h4 | h4
     ·have:=hlr q e.symm; omega
     ·obtain ⟨cs,z,hh⟩:=hrt q e.symm
      exact h4 cs z hh
  ·
   go_simp;(go_at_call 46; (with_reducible refine (FR _ hsw).mono ?_); rintro e w3 ⟨rfl,rfl⟩);go_wp2_with fail;refine hK.out _ _ trivial (fun hHeld=>?_);clear hK K;(try simp only [Zs]);refine Zt 7 (some 18) (v:=.agg #[.int .i64 (c:Nat),.int .i64 fr,.int .i64 (t + 1)]) (hy:=fun w' hSw=>exec_build _ _ rfl Zk) ?_;(try simp only [Zs]);refine wpAnyH_ready (rs:=[0,8]) Zk (by simp) ?_;refine AllReadyH.cons (o:=⟨some 11,_,_,_,_,_⟩) rfl (fun K hK=>?_) (AllReadyH.cons (o:=⟨some 19,_,_,_,_,_⟩) rfl (fun K hK=>?_) AllReadyH.nil)
   ·
    go_simp
    try go_wp2_with fail
    refine hK.out _ _ trivial (fun hHeld=>?_);clear hK K;(try simp only [Zs]);refine Zr 8 (some 19) fun K hK=>?_
    go_simp
    try go_wp2_with fail
    refine hK.out _ _ trivial (fun hHeld=>?_);clear hK K;(try simp only [Zs]);refine Zr 9 (some 20) fun K hK=>?_
    refine wp_append_own _ _ _ 33 rfl base 52 i0 (.agg #[.int .i64 0,.int .i64 0,.int .i64 0]) 3 24 Tryz.underlying33 hi hz0 hz1 hz2 rfl Zd _ n _ rfl (by have:=HO2; unfold OwnF at this; rw [hn] at this; exact this) ⟨w1.heap.size,0,none⟩ 1 1 [.int .i64 (c:Nat),.int .i64 fr,.int .i64 (t + 1)] rfl rfl (find_news rfl) find_cells (by unfold maxLen; omega) Zo (by simp; omega) (fun v5 w5 hown5 hgrow5 _=>?_);refine hK.out _ _ trivial (fun hHeld=>?_);clear hK K;(try simp only [Zs]);have hlr:∀ q,(Value.slice A n cp).ownBlock = some q -> base <= q:=fun q hq=>(World.ownsRow.lt HO2 q hq).1
    have hz6:=hgrow5.size;(try simp only [World.size_alloc] at hz6);replace hz6:w1.heap.size + 1 <= w5.heap.size:=(by first | exact hz6 | simpa using hz6);have HL5:Bx w5 L 33 #[.slice A n cp]:=(hgrow5.block L (by simp; have:L < w1.drew.heap.size:=HL.lt; exact Nat.lt_succ_of_lt this) (fun e=>by have:=hlr L e.symm; omega)).trans HLA;have hsw5:Sw w5 g x m p:=(hgrow5.block g (by simp; have:g < w1.drew.heap.size:=hsw.lt; exact Nat.lt_succ_of_lt this) (fun e=>by have:=hlr g e.symm; omega)).trans hswA;refine Zr 10 none fun K hK=>?_
    refine wp_store_fld 33 _ _ rfl L 0 v5 rfl rfl ?_ 33 _ HL5 (by simp) Zk (fun w6 u=>?_)
    ·obtain ⟨A5,c5,rfl,_⟩:=(OwnF.snoc (l:=l) (by rw [hn]; exact hown5)).read
     rfl
    refine hK.out _ _ trivial (fun hHeld=>?_);clear hK K;(try simp only [Act.put]);refine wpAnyH_done Zk ?_ _;refine NoPanic.normal ?_;go_wp2_with fail;refine bodyPost_end (results_none Tryz.results43 _ _ _) rfl ⟨rfl,?_,?_⟩
    ·refine ⟨u.bx hsw5 hne,⟨v5,l ++ [((c:Int),fr,t + 1)],u.box,OwnF.upd (OwnF.snoc (l:=l) (by rw [hn]; exact hown5)) u hlb,HRP⟩,hgb,hlb,hne,by rw [u.size]; omega⟩
    ·refine (hk1.trans ⟨by omega,hgrow5.os,hgrow5.tape,hgrow5.output,fun q hq0 _ hq3 hq4=>?_⟩).upd u (Or.inl rfl)
     rw [hgrow5.block q (by simp; omega) (fun e=>?_)]
     ·exact Below.heap_alloc w1.drew _ q hq0
     ·rcases hq4 with h4 | h4
      ·have:=hlr q e.symm; omega
      ·obtain ⟨cs,z,hh⟩:=hrt q e.symm
       exact h4 cs z hh
   ·
    go_simp
    try go_wp2_with fail
    refine hK.out _ _ trivial (fun hHeld=>?_);clear hK K;(try simp only [Zs]);refine Zr 0 (some 11) fun K hK=>?_
    go_simp
    try go_wp2_with fail
    refine hK.out _ _ trivial (fun hHeld=>?_);clear hK K;(try simp only [Zs]);refine Zr 9 (some 20) fun K hK=>?_
    refine wp_append_own _ _ _ 33 rfl base 52 i0 (.agg #[.int .i64 0,.int .i64 0,.int .i64 0]) 3 24 Tryz.underlying33 hi hz0 hz1 hz2 rfl Zd _ n _ rfl (by have:=HO2; unfold OwnF at this; rw [hn] at this; exact this) ⟨w1.heap.size,0,none⟩ 1 1 [.int .i64 (c:Nat),.int .i64 fr,.int .i64 (t + 1)] rfl rfl (find_news rfl) find_cells (by unfold maxLen; omega) Zo (by simp; omega) (fun v5 w5 hown5 hgrow5 _=>?_);refine hK.out _ _ trivial (fun hHeld=>?_);clear hK K;(try simp only [Zs]);have hlr:∀ q,(Value.slice A n cp).ownBlock = some q -> base <= q:=fun q hq=>(World.ownsRow.lt HO2 q hq).1
    have hz6:=hgrow5.size;(try simp only [World.size_alloc] at hz6);replace hz6:w1.heap.size + 1 <= w5.heap.size:=(by first | exact hz6 | simpa using hz6);have HL5:Bx w5 L 33 #[.slice A n cp]:=(hgrow5.block L (by simp; have:L < w1.drew.heap.size:=HL.lt; exact Nat.lt_succ_of_lt this) (fun e=>by have:=hlr L e.symm; omega)).trans HLA;have hsw5:Sw w5 g x m p:=(hgrow5.block g (by simp; have:g < w1.drew.heap.size:=hsw.lt; exact Nat.lt_succ_of_lt this) (fun e=>by have:=hlr g e.symm; omega)).trans hswA;refine Zr 10 none fun K hK=>?_
    refine wp_store_fld 33 _ _ rfl L 0 v5 rfl rfl ?_ 33 _ HL5 (by simp) Zk (fun w6 u=>?_)
    ·obtain ⟨A5,c5,rfl,_⟩:=(OwnF.snoc (l:=l) (by rw [hn]; exact hown5)).read
     rfl
    refine hK.out _ _ trivial (fun hHeld=>?_);clear hK K;(try simp only [Act.put]);refine wpAnyH_done Zk ?_ _;refine NoPanic.normal ?_;go_wp2_with fail;refine bodyPost_end (results_none Tryz.results43 _ _ _) rfl ⟨rfl,?_,?_⟩
    ·refine ⟨u.bx hsw5 hne,⟨v5,l ++ [((c:Int),fr,t + 1)],u.box,OwnF.upd (OwnF.snoc (l:=l) (by rw [hn]; exact hown5)) u hlb,HRP⟩,hgb,hlb,hne,by rw [u.size]; omega⟩
    ·refine (hk1.trans ⟨by omega,hgrow5.os,hgrow5.tape,hgrow5.output,fun q hq0 _ hq3 hq4=>?_⟩).upd u (Or.inl rfl)
     rw [hgrow5.block q (by simp; omega) (fun e=>?_)]
     ·exact Below.heap_alloc w1.drew _ q hq0
     ·rcases hq4 with h4 | h4
      ·have:=hlr q e.symm; omega
      ·obtain ⟨cs,z,hh⟩:=hrt q e.symm
       exact h4 cs z hh
theorem lasts_any (g:Nat) (f t n:Int) (w:World) (h0:w.cell? ⟨g,0,none⟩ = some (.int .i64 f)) (h1:w.cell? ⟨g,1,none⟩ = some (.int .i64 t)) (b0:0 <= f) (b1:f <= t) (b2:t <= 40320) :
  Calls Tryz.prog 146 #[.int .i64 n,.pointer (some ⟨g,0,none⟩)] w fun e w'=>e = .returned (.bool (lastB (t - f) n)) /\ w = w':=by
 have hd:decide (n <= t - f) = lastB (t - f) n:=rfl;generalize lastB (t - f) n = v at hd;go_enter Tryz.func146,Tryz.ntmps146;go_wp2;go_ret;exact ⟨rfl,rfl⟩
set_option maxRecDepth 20000 in
set_option maxHeartbeats 1600000 in
open Classical in
theorem scheck_any (x:Nat -> Int) (f t dawn:Int) (w:World) :
  Calls Tryz.prog 145 #[.agg (bk x),.agg #[.int .i64 f,.int .i64 t],.int .i64 dawn] w fun e w'=>e = .returned (.int .i64 (spellErr x f t dawn)) /\ Below w.heap.size w w':=by
 have C1:=fun W=>check7_any x W
 have RB:RdI ((w.alloc (.cells (bk x) 23)).alloc (.cells #[.int .i64 f,.int .i64 t] 121)) w.heap.size 0 x:=(RdI.new x 23 rfl).alloc _;by_cases hm:May x
 case neg =>
  rw [spellErr_no f t dawn hm];simp only [if_neg hm] at C1;clear hm;go_enter Tryz.func145,Tryz.ntmps145;go_wp2_with (first | refine wpList_load_bk Zv 23 _ rfl _ _ rfl x _ (RB) Tryz.underlying23 rfl Zk ?_ | (go_at_call 38; (with_reducible refine (C1 _).mono ?_); rintro e w1 ⟨rfl,hb1⟩; obtain ⟨hc1,hf1⟩:=bcell hb1; have hz1:=hb1.size; (try simp at hz1); have hl1:w.heap.size + 1 < w1.heap.size:=Zo));go_ret;refine ⟨rfl,?_⟩;exact Zq
 rw [spellErr_yes f t dawn hm];simp only [if_pos hm] at C1;clear hm;by_cases c0:t <= f
 case pos =>
  rw [show (if t <= f then (3:Int) else if f < 0 ∨ 40320 < t then 4 else if dawn < 0 ∨ f < dawn then 1 else 0) = 3 by split <;> first | rfl | omega | (split <;> first | rfl | omega | (split <;> first | rfl | omega))];have d0:decide (t <= f) = true:=decide_eq_true c0;have e0:decide (f < t) = false:=decide_eq_false Zo;go_enter Tryz.func145,Tryz.ntmps145;go_wp2_with (first | refine wpList_load_bk Zv 23 _ rfl _ _ rfl x _ (RB) Tryz.underlying23 rfl Zk ?_ | (go_at_call 38; (with_reducible refine (C1 _).mono ?_); rintro e w1 ⟨rfl,hb1⟩; obtain ⟨hc1,hf1⟩:=bcell hb1; have hz1:=hb1.size; (try simp at hz1); have hl1:w.heap.size + 1 < w1.heap.size:=Zo));go_ret;refine ⟨rfl,?_⟩;exact Zq
 have n0:f < t:=by omega
 have d0:decide (t <= f) = false:=decide_eq_false c0;have e0:decide (f < t) = true:=decide_eq_true Zo;clear c0;by_cases c1:f < 0
 case pos =>
  rw [show (if t <= f then (3:Int) else if f < 0 ∨ 40320 < t then 4 else if dawn < 0 ∨ f < dawn then 1 else 0) = 4 by split <;> first | rfl | omega | (split <;> first | rfl | omega | (split <;> first | rfl | omega))];have d1:decide (f < 0) = true:=decide_eq_true c1;skip;go_enter Tryz.func145,Tryz.ntmps145;go_wp2_with (first | refine wpList_load_bk Zv 23 _ rfl _ _ rfl x _ (RB) Tryz.underlying23 rfl Zk ?_ | (go_at_call 38; (with_reducible refine (C1 _).mono ?_); rintro e w1 ⟨rfl,hb1⟩; obtain ⟨hc1,hf1⟩:=bcell hb1; have hz1:=hb1.size; (try simp at hz1); have hl1:w.heap.size + 1 < w1.heap.size:=Zo));go_ret;refine ⟨rfl,?_⟩;exact Zq
 have n1:0 <= f:=by omega
 have d1:decide (f < 0) = false:=decide_eq_false c1;skip;clear c1;by_cases c2:40320 < t
 case pos =>
  rw [show (if t <= f then (3:Int) else if f < 0 ∨ 40320 < t then 4 else if dawn < 0 ∨ f < dawn then 1 else 0) = 4 by split <;> first | rfl | omega | (split <;> first | rfl | omega | (split <;> first | rfl | omega))];have d2:decide (40320 < t) = true:=decide_eq_true c2;skip;go_enter Tryz.func145,Tryz.ntmps145;go_wp2_with (first | refine wpList_load_bk Zv 23 _ rfl _ _ rfl x _ (RB) Tryz.underlying23 rfl Zk ?_ | (go_at_call 38; (with_reducible refine (C1 _).mono ?_); rintro e w1 ⟨rfl,hb1⟩; obtain ⟨hc1,hf1⟩:=bcell hb1; have hz1:=hb1.size; (try simp at hz1); have hl1:w.heap.size + 1 < w1.heap.size:=Zo));go_ret;refine ⟨rfl,?_⟩;exact Zq
 have n2:t <= 40320:=by omega
 have d2:decide (40320 < t) = false:=decide_eq_false c2;skip;clear c2;by_cases c3:dawn < 0
 case pos =>
  rw [show (if t <= f then (3:Int) else if f < 0 ∨ 40320 < t then 4 else if dawn < 0 ∨ f < dawn then 1 else 0) = 1 by split <;> first | rfl | omega | (split <;> first | rfl | omega | (split <;> first | rfl | omega))];have d3:decide (dawn < 0) = true:=decide_eq_true c3;skip;go_enter Tryz.func145,Tryz.ntmps145;go_wp2_with (first | refine wpList_load_bk Zv 23 _ rfl _ _ rfl x _ (RB) Tryz.underlying23 rfl Zk ?_ | (go_at_call 38; (with_reducible refine (C1 _).mono ?_); rintro e w1 ⟨rfl,hb1⟩; obtain ⟨hc1,hf1⟩:=bcell hb1; have hz1:=hb1.size; (try simp at hz1); have hl1:w.heap.size + 1 < w1.heap.size:=Zo));go_ret;refine ⟨rfl,?_⟩;exact Zq
 have n3:0 <= dawn:=by omega
 have d3:decide (dawn < 0) = false:=decide_eq_false c3;skip;clear c3;by_cases c4:f < dawn
 case pos =>
  rw [show (if t <= f then (3:Int) else if f < 0 ∨ 40320 < t then 4 else if dawn < 0 ∨ f < dawn then 1 else 0) = 1 by split <;> first | rfl | omega | (split <;> first | rfl | omega | (split <;> first | rfl | omega))];have d4:decide (f < dawn) = true:=decide_eq_true c4;skip;go_enter Tryz.func145,Tryz.ntmps145;go_wp2_with (first | refine wpList_load_bk Zv 23 _ rfl _ _ rfl x _ (RB) Tryz.underlying23 rfl Zk ?_ | (go_at_call 38; (with_reducible refine (C1 _).mono ?_); rintro e w1 ⟨rfl,hb1⟩; obtain ⟨hc1,hf1⟩:=bcell hb1; have hz1:=hb1.size; (try simp at hz1); have hl1:w.heap.size + 1 < w1.heap.size:=Zo));go_ret;refine ⟨rfl,?_⟩;exact Zq
 have n4:dawn <= f:=by omega
 have d4:decide (f < dawn) = false:=decide_eq_false c4;skip;clear c4;rw [show (if t <= f then (3:Int) else if f < 0 ∨ 40320 < t then 4 else if dawn < 0 ∨ f < dawn then 1 else 0) = 0 by rw [if_neg Zo,if_neg Zo,if_neg Zo]];go_enter Tryz.func145,Tryz.ntmps145;go_wp2_with (first | refine wpList_load_bk Zv 23 _ rfl _ _ rfl x _ (RB) Tryz.underlying23 rfl Zk ?_ | (go_at_call 38; (with_reducible refine (C1 _).mono ?_); rintro e w1 ⟨rfl,hb1⟩; obtain ⟨hc1,hf1⟩:=bcell hb1; have hz1:=hb1.size; (try simp at hz1); have hl1:w.heap.size + 1 < w1.heap.size:=Zo));go_ret;refine ⟨rfl,?_⟩;exact Zq
structure SpW (w:World) (g h r c:Nat) (T:TypeId) (x:Nat -> Int) (f t:Int) (s:Wo) (W:World):Prop where
 bel:Below w.heap.size w W
 lt:g < c /\ h < c /\ r < c /\ w.heap.size <= c /\ w.heap.size <= r
 bk:RdI W g 0 x
 sp0:W.cell? ⟨h,0,none⟩ = some (.int .i64 f)
 sp1:W.cell? ⟨h,1,none⟩ = some (.int .i64 t)
 res:Bx W r T (wo .zero)
 cur:Bx W c T (wo s)
theorem SpW.put {w:World} {g h r c:Nat} {T:TypeId} {x:Nat -> Int} {f t:Int} {s:Wo} {W W':World} (S:SpW w g h r c T x f t s W) {k:Nat} {b:Bool} (hk:k < 7) (u:Upd W c T ((wo s).setIfInBounds k (.bool b)) W') :
  SpW w g h r c T x f t (s.set k b) W':=by
 obtain ⟨l1,l2,l3,l4,l5⟩:=S.lt;refine ⟨S.bel.trans (u.bel _ l4),S.lt,⟨by rw [u.size]; exact S.bk.1,fun i hi=>?_⟩,?_,?_,u.bx S.res Zo,?_⟩
 ·exact (u.cell (p:=⟨g,0 + i,none⟩) (Nat.ne_of_lt l1)).trans (S.bk.2 i hi)
 ·exact (u.cell (p:=⟨h,0,none⟩) (Nat.ne_of_lt l2)).trans S.sp0
 ·exact (u.cell (p:=⟨h,1,none⟩) (Nat.ne_of_lt l2)).trans S.sp1
 ·rw [<- wo_set s k b hk]; exact u.box
theorem SpW.cast {w:World} {g h r c:Nat} {T:TypeId} {x:Nat -> Int} {f t:Int} {s s':Wo} {W:World} (S:SpW w g h r c T x f t s W) (e:s = s'):SpW w g h r c T x f t s' W:=e ▸ S
theorem SpW.facts {w:World} {g h r c:Nat} {T:TypeId} {x:Nat -> Int} {f t:Int} {a0 a1 a2 a3 a4 a5 a6:Bool} {W:World} (S:SpW w g h r c T x f t ⟨a0,a1,a2,a3,a4,a5,a6⟩ W) :
  W.cell? ⟨g,1,none⟩ = some (.int .i64 (x 1)) /\ W.cell? ⟨g,2,none⟩ = some (.int .i64 (x 2)) /\ W.cell? ⟨g,3,none⟩ = some (.int .i64 (x 3)) /\ W.cell? ⟨g,7,none⟩ = some (.int .i64 (x 7)) /\ W.cell? ⟨g,8,none⟩ = some (.int .i64 (x 8)) /\ W.cell? ⟨g,10,none⟩ = some (.int .i64 (x 10)) /\ W.cell? ⟨g,11,none⟩ = some (.int .i64 (x 11)) /\ W.cell? ⟨g,12,none⟩ = some (.int .i64 (x 12)) /\ W.cell? ⟨g,13,none⟩ = some (.int .i64 (x 13)) /\ W.cell? ⟨c,0,none⟩ = some (.bool a0) /\ W.cell? ⟨c,1,none⟩ = some (.bool a1) /\ W.cell? ⟨c,2,none⟩ = some (.bool a2) /\ W.cell? ⟨c,3,none⟩ = some (.bool a3) /\ W.cell? ⟨c,4,none⟩ = some (.bool a4) /\ W.cell? ⟨c,5,none⟩ = some (.bool a5) /\ W.cell? ⟨c,6,none⟩ = some (.bool a6):=by
 have hb:∀ i,i < 19 -> W.cell? ⟨g,i,none⟩ = some (.int .i64 (x i)):=fun i hi=>by have:=S.bk.2 i hi; rwa [Nat.zero_add] at this
 exact ⟨hb 1 Zo,hb 2 Zo,hb 3 Zo,hb 7 Zo,hb 8 Zo,hb 10 Zo,hb 11 Zo,hb 12 Zo,hb 13 Zo,S.cur.cell rfl,S.cur.cell rfl,S.cur.cell rfl,S.cur.cell rfl,S.cur.cell rfl,S.cur.cell rfl,S.cur.cell rfl⟩
theorem SpW.put0 {w:World} {g h r c:Nat} {T:TypeId} {x:Nat -> Int} {f t:Int} {a0 a1 a2 a3 a4 a5 a6 b:Bool} {W W':World} (S:SpW w g h r c T x f t ⟨a0,a1,a2,a3,a4,a5,a6⟩ W) (u:Upd W c T ((wo ⟨a0,a1,a2,a3,a4,a5,a6⟩).setIfInBounds 0 (.bool b)) W') :
  SpW w g h r c T x f t ⟨b,a1,a2,a3,a4,a5,a6⟩ W':=S.put (k:=0) Zo u
theorem SpW.put1 {w:World} {g h r c:Nat} {T:TypeId} {x:Nat -> Int} {f t:Int} {a0 a1 a2 a3 a4 a5 a6 b:Bool} {W W':World} (S:SpW w g h r c T x f t ⟨a0,a1,a2,a3,a4,a5,a6⟩ W) (u:Upd W c T ((wo ⟨a0,a1,a2,a3,a4,a5,a6⟩).setIfInBounds 1 (.bool b)) W') :
  SpW w g h r c T x f t ⟨a0,b,a2,a3,a4,a5,a6⟩ W':=S.put (k:=1) Zo u
theorem SpW.put2 {w:World} {g h r c:Nat} {T:TypeId} {x:Nat -> Int} {f t:Int} {a0 a1 a2 a3 a4 a5 a6 b:Bool} {W W':World} (S:SpW w g h r c T x f t ⟨a0,a1,a2,a3,a4,a5,a6⟩ W) (u:Upd W c T ((wo ⟨a0,a1,a2,a3,a4,a5,a6⟩).setIfInBounds 2 (.bool b)) W') :
  SpW w g h r c T x f t ⟨a0,a1,b,a3,a4,a5,a6⟩ W':=S.put (k:=2) Zo u
theorem SpW.put3 {w:World} {g h r c:Nat} {T:TypeId} {x:Nat -> Int} {f t:Int} {a0 a1 a2 a3 a4 a5 a6 b:Bool} {W W':World} (S:SpW w g h r c T x f t ⟨a0,a1,a2,a3,a4,a5,a6⟩ W) (u:Upd W c T ((wo ⟨a0,a1,a2,a3,a4,a5,a6⟩).setIfInBounds 3 (.bool b)) W') :
  SpW w g h r c T x f t ⟨a0,a1,a2,b,a4,a5,a6⟩ W':=S.put (k:=3) Zo u
theorem SpW.put4 {w:World} {g h r c:Nat} {T:TypeId} {x:Nat -> Int} {f t:Int} {a0 a1 a2 a3 a4 a5 a6 b:Bool} {W W':World} (S:SpW w g h r c T x f t ⟨a0,a1,a2,a3,a4,a5,a6⟩ W) (u:Upd W c T ((wo ⟨a0,a1,a2,a3,a4,a5,a6⟩).setIfInBounds 4 (.bool b)) W') :
  SpW w g h r c T x f t ⟨a0,a1,a2,a3,b,a5,a6⟩ W':=S.put (k:=4) Zo u
theorem SpW.put5 {w:World} {g h r c:Nat} {T:TypeId} {x:Nat -> Int} {f t:Int} {a0 a1 a2 a3 a4 a5 a6 b:Bool} {W W':World} (S:SpW w g h r c T x f t ⟨a0,a1,a2,a3,a4,a5,a6⟩ W) (u:Upd W c T ((wo ⟨a0,a1,a2,a3,a4,a5,a6⟩).setIfInBounds 5 (.bool b)) W') :
  SpW w g h r c T x f t ⟨a0,a1,a2,a3,a4,b,a6⟩ W':=S.put (k:=5) Zo u
theorem SpW.put6 {w:World} {g h r c:Nat} {T:TypeId} {x:Nat -> Int} {f t:Int} {a0 a1 a2 a3 a4 a5 a6 b:Bool} {W W':World} (S:SpW w g h r c T x f t ⟨a0,a1,a2,a3,a4,a5,a6⟩ W) (u:Upd W c T ((wo ⟨a0,a1,a2,a3,a4,a5,a6⟩).setIfInBounds 6 (.bool b)) W') :
  SpW w g h r c T x f t ⟨a0,a1,a2,a3,a4,a5,b⟩ W':=S.put (k:=6) Zo u
set_option maxRecDepth 100000 in
set_option maxHeartbeats 8000000 in
theorem of_good (x:Nat -> Int) (f t dawn:Int) (half split:Bool) (w:World) (hm:May x) (b1:f < t) (b2:0 <= f) (b3:t <= 40320) (b4:0 <= dawn) (b5:dawn <= f) :
  Calls Tryz.prog 121 #[.agg (bk x),.agg #[.int .i64 f,.int .i64 t],.int .i64 dawn,.bool half,.bool split] w fun e w'=>e = .returned (.tuple #[.agg (wo (ofV x f t dawn half split)),.int .i64 0]) /\ Below w.heap.size w w':=by
 have eg:∀ args w,(callFunc 146 args).run Tryz.prog w = .ok (.enter 146 args) w:=enters_of Tryz.func146 Zk rfl;have r7:=may_time hm 7 Zo;have r11:=may_time hm 11 Zo;have C1:=fun W=>scheck_any x f t dawn W
 rw [spellErr_ok.2 ⟨hm,b1,b2,b3,b4,b5⟩] at C1;clear hm;have L1:=fun g W h0 h1=>lasts_any g f t (x 1) W h0 h1 b2 Zo b3
 have L3:=fun g W h0 h1=>lasts_any g f t (x 3) W h0 h1 b2 Zo b3
 have L2:=fun g W h0 h1=>lasts_any g f t (x 2) W h0 h1 b2 Zo b3
 have L10:=fun g W h0 h1=>lasts_any g f t (x 10) W h0 h1 b2 Zo b3
 have L8:=fun g W h0 h1=>lasts_any g f t (x 8) W h0 h1 b2 Zo b3
 have L13:=fun g W h0 h1=>lasts_any g f t (x 13) W h0 h1 b2 Zo b3
 have L12:=fun g W h0 h1=>lasts_any g f t (x 12) W h0 h1 b2 Zo b3
 unfold ofV;generalize lastB (t - f) (x 1) = br at L1 ⊢;generalize lastB (t - f) (x 3) = se at L3 ⊢;generalize lastB (t - f) (x 2) = fi at L2 ⊢;generalize lastB (t - f) (x 10) = pa at L10 ⊢;generalize lastB (t - f) (x 8) = da at L8 ⊢;generalize lastB (t - f) (x 13) = wk at L13 ⊢;generalize lastB (t - f) (x 12) = fu at L12 ⊢;obtain ⟨rg,hrg⟩:∃ rg,lastB (min t (dawn + x 11) - f) (x 7) = rg:=⟨_,rfl⟩;rw [hrg];have HG:=Zh hrg;clear hrg;go_enter Tryz.func121,Tryz.ntmps121;go_upto_region 5 with (first | refine wpList_load_bk Zv 23 _ rfl _ _ rfl x _ (((RdI.new x 23 rfl).alloc _).alloc _) Tryz.underlying23 rfl Zk ?_ | (go_at_call 145; (with_reducible refine (C1 _).mono ?_); rintro e w1 ⟨rfl,hb1⟩))
 have hz:=hb1.size;simp at hz;have hB:Below w.heap.size w w1:=b_cl (b_al (b_al (b_al (Below.refl _ _) Zl _) Zl _) Zl _) Zl hb1;have hbk:RdI w1 w.heap.size 0 x:=RdI.below (((RdI.new x 23 rfl).alloc _).alloc _) hb1;have hsb:Bx w1 (w.heap.size + 1) 121 #[.int .i64 f,.int .i64 t]:=((Bx.new (W:=w.alloc (.cells (bk x) 23)) 121 #[.int .i64 f,.int .i64 t] (by simp)).alloc _).below hb1;have hs0:w1.cell? ⟨w.heap.size + 1,0,none⟩ = some (.int .i64 f):=hsb.cell rfl;have hs1:w1.cell? ⟨w.heap.size + 1,1,none⟩ = some (.int .i64 t):=hsb.cell rfl;have hrs:Bx w1 (w.heap.size + 2) 172 (wo .zero):=(Bx.new (W:=(w.alloc (.cells (bk x) 23)).alloc (.cells #[.int .i64 f,.int .i64 t] 121)) 172 (wo .zero) (by simp)).below hb1;clear hb1 hsb;go_cut [14] (fun s wx=>s = .bool rg /\ w1 = wx)
 case first =>
  have q7:w1.cell? ⟨w.heap.size,7,none⟩ = some (.int .i64 (x 7)):=by have:=hbk.2 7 Zo; rwa [Nat.zero_add] at this
  have q11:w1.cell? ⟨w.heap.size,11,none⟩ = some (.int .i64 (x 11)):=by have:=hbk.2 11 Zo; rwa [Nat.zero_add] at this
  by_cases hq:t <= dawn + x 11
  ·have hd:decide (x 7 <= t - f) = rg:=by rw [<- HG.out]; unfold lastB; rw [show min t (dawn + x 11) = t by omega]
   go_wp2;go_meet;exact ⟨by first | rfl | (rw [show min t (dawn + x 11) = t by omega]; exact congrArg Value.bool hd),rfl⟩
  ·have hq':dawn + x 11 < t:=by omega
   have hd:decide (x 7 <= dawn + x 11 - f) = rg:=by rw [<- HG.out]; unfold lastB; rw [show min t (dawn + x 11) = dawn + x 11 by omega]
   clear hq;go_wp2;go_meet;exact ⟨by first | rfl | (rw [show min t (dawn + x 11) = dawn + x 11 by omega]; exact congrArg Value.bool hd),rfl⟩
 case rest =>
 obtain ⟨rfl,rfl⟩:=hcut;go_upto_region 7 with fail
 have S:SpW w w.heap.size (w.heap.size + 1) (w.heap.size + 2) w1.heap.size 172 x f t ⟨false,false,false,false,false,false,false⟩ (w1.alloc (.cells #[.bool false,.bool false,.bool false,.bool false,.bool false,.bool false,.bool false] 172)) :=
  ⟨b_al hB Zo _,by omega,hbk.alloc _,c_al _ hs0,c_al _ hs1,hrs.alloc _,Bx.new _ _ rfl⟩
 clear hB hbk hs0 hs1 hrs HG;go_upto_region 7 with fail
 go_cut [] (fun  wx=>SpW w w.heap.size (w.heap.size + 1) (w.heap.size + 2) (w1.heap.size) 172 x f t ⟨false,false,false,false,false,wk,false⟩ wx)
 case first =>
  obtain ⟨q1,q2,q3,q7,q8,q10,q11,q12,q13,v0,v1,v2,v3,v4,v5,v6⟩:=S.facts;have s0:=S.sp0;have s1:=S.sp1;go_wp2_with (first | (refine wpList_store_fld Zv 4 _ _ rfl (w1.heap.size) 5 (.bool _) rfl rfl rfl _ _ S.cur (by rw [wo_size]; decide) Zk (fun W' u=>?_); replace S:=S.put5 u) | (go_at_fn 146; (with_reducible refine (L1 _ _ S.sp0 S.sp1).mono ?_); rintro e w' ⟨rfl,rfl⟩) | (go_at_fn 146; (with_reducible refine (L3 _ _ S.sp0 S.sp1).mono ?_); rintro e w' ⟨rfl,rfl⟩) | (go_at_fn 146; (with_reducible refine (L2 _ _ S.sp0 S.sp1).mono ?_); rintro e w' ⟨rfl,rfl⟩) | (go_at_fn 146; (with_reducible refine (L10 _ _ S.sp0 S.sp1).mono ?_); rintro e w' ⟨rfl,rfl⟩) | (go_at_fn 146; (with_reducible refine (L8 _ _ S.sp0 S.sp1).mono ?_); rintro e w' ⟨rfl,rfl⟩) | (go_at_fn 146; (with_reducible refine (L13 _ _ S.sp0 S.sp1).mono ?_); rintro e w' ⟨rfl,rfl⟩) | (go_at_fn 146; (with_reducible refine (L12 _ _ S.sp0 S.sp1).mono ?_); rintro e w' ⟨rfl,rfl⟩))
  all_goals (go_meet; refine S.cast ?_; simp [*])
 case rest =>
 have S:=hcut; clear hcut;go_upto_region 8 with fail
 go_cut [] (fun  wx=>SpW w w.heap.size (w.heap.size + 1) (w.heap.size + 2) (w1.heap.size) 172 x f t ⟨false,false,false,false,false,wk,(wk && !fu)⟩ wx)
 case first =>
  obtain ⟨q1,q2,q3,q7,q8,q10,q11,q12,q13,v0,v1,v2,v3,v4,v5,v6⟩:=S.facts;have s0:=S.sp0;have s1:=S.sp1;go_wp2_with (first | (refine wpList_store_fld Zv 4 _ _ rfl (w1.heap.size) 6 (.bool _) rfl rfl rfl _ _ S.cur (by rw [wo_size]; decide) Zk (fun W' u=>?_); replace S:=S.put6 u) | (go_at_fn 146; (with_reducible refine (L1 _ _ S.sp0 S.sp1).mono ?_); rintro e w' ⟨rfl,rfl⟩) | (go_at_fn 146; (with_reducible refine (L3 _ _ S.sp0 S.sp1).mono ?_); rintro e w' ⟨rfl,rfl⟩) | (go_at_fn 146; (with_reducible refine (L2 _ _ S.sp0 S.sp1).mono ?_); rintro e w' ⟨rfl,rfl⟩) | (go_at_fn 146; (with_reducible refine (L10 _ _ S.sp0 S.sp1).mono ?_); rintro e w' ⟨rfl,rfl⟩) | (go_at_fn 146; (with_reducible refine (L8 _ _ S.sp0 S.sp1).mono ?_); rintro e w' ⟨rfl,rfl⟩) | (go_at_fn 146; (with_reducible refine (L13 _ _ S.sp0 S.sp1).mono ?_); rintro e w' ⟨rfl,rfl⟩) | (go_at_fn 146; (with_reducible refine (L12 _ _ S.sp0 S.sp1).mono ?_); rintro e w' ⟨rfl,rfl⟩))
  all_goals (go_meet; refine S.cast ?_; simp [*])
 case rest =>
 have S:=hcut; clear hcut;go_upto_region 9 with fail
 go_cut [] (fun  wx=>SpW w w.heap.size (w.heap.size + 1) (w.heap.size + 2) (w1.heap.size) 172 x f t ⟨false,false,false,da,false,wk,(wk && !fu)⟩ wx)
 case first =>
  obtain ⟨q1,q2,q3,q7,q8,q10,q11,q12,q13,v0,v1,v2,v3,v4,v5,v6⟩:=S.facts;have s0:=S.sp0;have s1:=S.sp1;go_wp2_with (first | (refine wpList_store_fld Zv 4 _ _ rfl (w1.heap.size) 3 (.bool _) rfl rfl rfl _ _ S.cur (by rw [wo_size]; decide) Zk (fun W' u=>?_); replace S:=S.put3 u) | (go_at_fn 146; (with_reducible refine (L1 _ _ S.sp0 S.sp1).mono ?_); rintro e w' ⟨rfl,rfl⟩) | (go_at_fn 146; (with_reducible refine (L3 _ _ S.sp0 S.sp1).mono ?_); rintro e w' ⟨rfl,rfl⟩) | (go_at_fn 146; (with_reducible refine (L2 _ _ S.sp0 S.sp1).mono ?_); rintro e w' ⟨rfl,rfl⟩) | (go_at_fn 146; (with_reducible refine (L10 _ _ S.sp0 S.sp1).mono ?_); rintro e w' ⟨rfl,rfl⟩) | (go_at_fn 146; (with_reducible refine (L8 _ _ S.sp0 S.sp1).mono ?_); rintro e w' ⟨rfl,rfl⟩) | (go_at_fn 146; (with_reducible refine (L13 _ _ S.sp0 S.sp1).mono ?_); rintro e w' ⟨rfl,rfl⟩) | (go_at_fn 146; (with_reducible refine (L12 _ _ S.sp0 S.sp1).mono ?_); rintro e w' ⟨rfl,rfl⟩))
  all_goals (go_meet; refine S.cast ?_; simp [*])
 case rest =>
 have S:=hcut; clear hcut;go_upto_region 10 with fail
 go_cut [3,4,14] (fun u3 u4 u14 wx=>u3 = .bool half /\ u4 = .bool split /\ u14 = .bool rg /\ SpW w w.heap.size (w.heap.size + 1) (w.heap.size + 2) (w1.heap.size) 172 x f t ⟨false,false,false,da,(da && !wk && !split && !rg),wk,(wk && !fu)⟩ wx)
 case first =>
  obtain ⟨q1,q2,q3,q7,q8,q10,q11,q12,q13,v0,v1,v2,v3,v4,v5,v6⟩:=S.facts;have s0:=S.sp0;have s1:=S.sp1;go_wp2_with (first | (refine wpList_store_fld Zv 4 _ _ rfl (w1.heap.size) 4 (.bool _) rfl rfl rfl _ _ S.cur (by rw [wo_size]; decide) Zk (fun W' u=>?_); replace S:=S.put4 u) | (go_at_fn 146; (with_reducible refine (L1 _ _ S.sp0 S.sp1).mono ?_); rintro e w' ⟨rfl,rfl⟩) | (go_at_fn 146; (with_reducible refine (L3 _ _ S.sp0 S.sp1).mono ?_); rintro e w' ⟨rfl,rfl⟩) | (go_at_fn 146; (with_reducible refine (L2 _ _ S.sp0 S.sp1).mono ?_); rintro e w' ⟨rfl,rfl⟩) | (go_at_fn 146; (with_reducible refine (L10 _ _ S.sp0 S.sp1).mono ?_); rintro e w' ⟨rfl,rfl⟩) | (go_at_fn 146; (with_reducible refine (L8 _ _ S.sp0 S.sp1).mono ?_); rintro e w' ⟨rfl,rfl⟩) | (go_at_fn 146; (with_reducible refine (L13 _ _ S.sp0 S.sp1).mono ?_); rintro e w' ⟨rfl,rfl⟩) | (go_at_fn 146; (with_reducible refine (L12 _ _ S.sp0 S.sp1).mono ?_); rintro e w' ⟨rfl,rfl⟩))
  all_goals (go_meet; refine ⟨by simp [*],by simp [*],by simp [*],?_⟩; refine S.cast ?_; simp [*])
 case rest =>
 obtain ⟨rfl,rfl,rfl,S⟩:=hcut;go_upto_region 11 with fail
 go_cut [] (fun  wx=>SpW w w.heap.size (w.heap.size + 1) (w.heap.size + 2) (w1.heap.size) 172 x f t ⟨false,false,(!da && pa),da,(da && !wk && !split && !rg),wk,(wk && !fu)⟩ wx)
 case first =>
  obtain ⟨q1,q2,q3,q7,q8,q10,q11,q12,q13,v0,v1,v2,v3,v4,v5,v6⟩:=S.facts;have s0:=S.sp0;have s1:=S.sp1;go_wp2_with (first | (refine wpList_store_fld Zv 4 _ _ rfl (w1.heap.size) 2 (.bool _) rfl rfl rfl _ _ S.cur (by rw [wo_size]; decide) Zk (fun W' u=>?_); replace S:=S.put2 u) | (go_at_fn 146; (with_reducible refine (L1 _ _ S.sp0 S.sp1).mono ?_); rintro e w' ⟨rfl,rfl⟩) | (go_at_fn 146; (with_reducible refine (L3 _ _ S.sp0 S.sp1).mono ?_); rintro e w' ⟨rfl,rfl⟩) | (go_at_fn 146; (with_reducible refine (L2 _ _ S.sp0 S.sp1).mono ?_); rintro e w' ⟨rfl,rfl⟩) | (go_at_fn 146; (with_reducible refine (L10 _ _ S.sp0 S.sp1).mono ?_); rintro e w' ⟨rfl,rfl⟩) | (go_at_fn 146; (with_reducible refine (L8 _ _ S.sp0 S.sp1).mono ?_); rintro e w' ⟨rfl,rfl⟩) | (go_at_fn 146; (with_reducible refine (L13 _ _ S.sp0 S.sp1).mono ?_); rintro e w' ⟨rfl,rfl⟩) | (go_at_fn 146; (with_reducible refine (L12 _ _ S.sp0 S.sp1).mono ?_); rintro e w' ⟨rfl,rfl⟩))
  all_goals (go_meet; refine S.cast ?_; simp [*])
 case rest =>
 have S:=hcut; clear hcut;go_upto_region 12 with fail
 go_cut [3,4,14] (fun u3 u4 u14 wx=>u3 = .bool half /\ u4 = .bool split /\ u14 = .bool rg /\ SpW w w.heap.size (w.heap.size + 1) (w.heap.size + 2) (w1.heap.size) 172 x f t ⟨(br || (half && se)),false,(!da && pa),da,(da && !wk && !split && !rg),wk,(wk && !fu)⟩ wx)
 case first =>
  obtain ⟨q1,q2,q3,q7,q8,q10,q11,q12,q13,v0,v1,v2,v3,v4,v5,v6⟩:=S.facts;have s0:=S.sp0;have s1:=S.sp1;go_wp2_with (first | (refine wpList_store_fld Zv 4 _ _ rfl (w1.heap.size) 0 (.bool _) rfl rfl rfl _ _ S.cur (by rw [wo_size]; decide) Zk (fun W' u=>?_); replace S:=S.put0 u) | (go_at_fn 146; (with_reducible refine (L1 _ _ S.sp0 S.sp1).mono ?_); rintro e w' ⟨rfl,rfl⟩) | (go_at_fn 146; (with_reducible refine (L3 _ _ S.sp0 S.sp1).mono ?_); rintro e w' ⟨rfl,rfl⟩) | (go_at_fn 146; (with_reducible refine (L2 _ _ S.sp0 S.sp1).mono ?_); rintro e w' ⟨rfl,rfl⟩) | (go_at_fn 146; (with_reducible refine (L10 _ _ S.sp0 S.sp1).mono ?_); rintro e w' ⟨rfl,rfl⟩) | (go_at_fn 146; (with_reducible refine (L8 _ _ S.sp0 S.sp1).mono ?_); rintro e w' ⟨rfl,rfl⟩) | (go_at_fn 146; (with_reducible refine (L13 _ _ S.sp0 S.sp1).mono ?_); rintro e w' ⟨rfl,rfl⟩) | (go_at_fn 146; (with_reducible refine (L12 _ _ S.sp0 S.sp1).mono ?_); rintro e w' ⟨rfl,rfl⟩))
  all_goals (go_meet; refine ⟨by simp [*],by simp [*],by simp [*],?_⟩; refine S.cast ?_; simp [*])
 case rest =>
 obtain ⟨rfl,rfl,rfl,S⟩:=hcut;go_upto_region 13 with fail
 go_cut [3,4,14] (fun u3 u4 u14 wx=>u3 = .bool half /\ u4 = .bool split /\ u14 = .bool rg /\ SpW w w.heap.size (w.heap.size + 1) (w.heap.size + 2) (w1.heap.size) 172 x f t ⟨(br || (half && se)),(!(br || (half && se)) && (half || fi)),(!da && pa),da,(da && !wk && !split && !rg),wk,(wk && !fu)⟩ wx)
 case first =>
  obtain ⟨q1,q2,q3,q7,q8,q10,q11,q12,q13,v0,v1,v2,v3,v4,v5,v6⟩:=S.facts;have s0:=S.sp0;have s1:=S.sp1;go_wp2_with (first | (refine wpList_store_fld Zv 4 _ _ rfl (w1.heap.size) 1 (.bool _) rfl rfl rfl _ _ S.cur (by rw [wo_size]; decide) Zk (fun W' u=>?_); replace S:=S.put1 u) | (go_at_fn 146; (with_reducible refine (L1 _ _ S.sp0 S.sp1).mono ?_); rintro e w' ⟨rfl,rfl⟩) | (go_at_fn 146; (with_reducible refine (L3 _ _ S.sp0 S.sp1).mono ?_); rintro e w' ⟨rfl,rfl⟩) | (go_at_fn 146; (with_reducible refine (L2 _ _ S.sp0 S.sp1).mono ?_); rintro e w' ⟨rfl,rfl⟩) | (go_at_fn 146; (with_reducible refine (L10 _ _ S.sp0 S.sp1).mono ?_); rintro e w' ⟨rfl,rfl⟩) | (go_at_fn 146; (with_reducible refine (L8 _ _ S.sp0 S.sp1).mono ?_); rintro e w' ⟨rfl,rfl⟩) | (go_at_fn 146; (with_reducible refine (L13 _ _ S.sp0 S.sp1).mono ?_); rintro e w' ⟨rfl,rfl⟩) | (go_at_fn 146; (with_reducible refine (L12 _ _ S.sp0 S.sp1).mono ?_); rintro e w' ⟨rfl,rfl⟩))
  all_goals (go_meet; refine ⟨by simp [*],by simp [*],by simp [*],?_⟩; refine S.cast ?_; simp [*])
 case rest =>
 obtain ⟨rfl,rfl,rfl,S⟩:=hcut
 go_wp2_with (first
  | refine wpList_load_box Zv 172 _ rfl (w1.heap.size) rfl 172 _ _ S.cur Tryz.underlying172 rfl Zk ?_
  | refine wpList_store_box rfl 172 _ _ rfl (w.heap.size + 2) _ rfl rfl 172 (wo .zero) S.res Zk rfl (wo_one _) (fun W' u=>?_))
 refine bodyPost_ret (results_box2 Tryz.results121 _ _ (w.heap.size + 2) 172 _ _ (.int .i64 0) rfl u.box rfl Tryz.underlying172 rfl Zk) rfl ⟨rfl,?_⟩;exact S.bel.trans (u.bel _ S.lt.2.2.2.2)
set_option maxRecDepth 20000 in
theorem breaks_any (g:Nat) (x:Nat -> Int) (m:Mt) (n k:Nat) (q:Int) (is:Bool) (w:World) (hb:Cn w g x m n) (hn:n < 1024) (hk:k < 10) (hq:q = ((2 ^ k:Nat):Int)) :
  Calls Tryz.prog 179 #[.pointer (some ⟨g,0,none⟩),.int .i64 q,.bool is] w fun e w'=>e = .returned (.tuple #[]) /\ CnTo w g x m (orB n k is) w':=by
 subst hq;have f:=hb.cell (k:=33) (v:=.int .i64 (n:Int)) rfl
 cases is with
 | false =>
  rw [orB_no];go_enter Tryz.func179,Tryz.ntmps179;go_wp2;refine bodyPost_end (results_none Tryz.results179 _ _ _) rfl ⟨rfl,Chg.refl hb⟩
 | true =>
  rw [orB_yes];obtain ⟨b,hbb⟩:∃ b,2 ^ k = b:=⟨_,rfl⟩;have hlt:b < 1024:=by rw [<- hbb]; exact Nat.lt_of_le_of_lt (Nat.pow_le_pow_right (n:=2) Zo (by omega:k <= 9)) Zd
  rw [hbb];clear hbb hk;have ho:=or_nat n b hn hlt;go_enter Tryz.func179,Tryz.ntmps179;go_wp2_with (refine wpList_store_fld Zv 3 _ _ rfl g 33 (.int .i64 ((n ||| b:Nat):Int)) rfl rfl rfl _ _ hb (by rw [cnt_size]; decide) Zk (fun W' u=>?_));refine bodyPost_end (results_none Tryz.results179 _ _ _) rfl ⟨rfl,(Chg.refl hb).upd u⟩
theorem goesOn_any (g:Nat) (x:Nat -> Int) (m:Mt) (n:Nat) (k:Int) (w:World) (hb:Cn w g x m n) :
  Calls Tryz.prog 143 #[.pointer (some ⟨g,0,none⟩),.int .i64 k] w fun e w'=>e = .returned (.int .i64 (if k < 0 ∨ 3 < k then 2 else if m.now = 40320 then 4 else 0)) /\ w = w':=by
 have f:=hb.cell (k:=19) (v:=.int .i64 m.now) rfl;generalize m.now = a at f;clear hb;by_cases h0:k < 0
 case pos =>
  rw [if_pos (Or.inl h0)];have d0:decide (k < 0) = true:=decide_eq_true h0;clear h0;go_enter Tryz.func143,Tryz.ntmps143;go_wp2;go_ret;exact ⟨rfl,rfl⟩
 have d0:decide (k < 0) = false:=decide_eq_false h0;by_cases h3:3 < k
 case pos =>
  rw [if_pos (Or.inr h3)];have d3:decide (4 <= k) = true:=decide_eq_true Zo;clear h0 h3;go_enter Tryz.func143,Tryz.ntmps143;go_wp2;go_ret;exact ⟨rfl,rfl⟩
 have d3:decide (4 <= k) = false:=decide_eq_false Zo;rw [if_neg Zo];by_cases ha:a = 40320
 case pos =>
  rw [if_pos ha];subst ha;clear h0 h3;go_enter Tryz.func143,Tryz.ntmps143;go_wp2;go_ret;exact ⟨rfl,rfl⟩
 rw [if_neg ha];have da:(a == 40320) = false:=by simpa using ha
 clear h0 h3;go_enter Tryz.func143,Tryz.ntmps143;go_wp2;go_ret;exact ⟨rfl,rfl⟩
end Go.Proofs.YtiamnbddbmgffaaGreatDoor
