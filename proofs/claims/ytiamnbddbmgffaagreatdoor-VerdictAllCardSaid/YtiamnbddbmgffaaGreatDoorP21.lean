/- Texts of the proofs of VerdictAudits, VerdictAll, VerdictRising, pressed: StretchFirst, StretchOverC, DutyRec0. Conditions: as each theorem says. -/
import Derived.Test.YtiamnbddbmgffaaGreatDoorRows
import Derived.Test.YtiamnbddbmgffaaGreatDoorP19
import Derived.Test.YtiamnbddbmgffaaGreatDoorP20
namespace Go.Proofs.YtiamnbddbmgffaaGreatDoor
open Go.RowKit
set_option linter.unusedVariables false
def yAt (s:Nat) (a:Int) (c:Nat):Nat -> Int:=fun i=>if i < c then recB s noneF a i else noneF i
theorem yAt_zero (s:Nat) (a:Int):yAt s a 0 = noneF:=by funext i; simp [yAt]
theorem yAt_yes {s:Nat} {a:Int} {c:Nat} (h:s.testBit c = true):fs (yAt s a c) c a = yAt s a (c + 1):=by
 funext i;unfold fs yAt;by_cases hi:i = c
 ·subst hi
  rw [if_pos rfl,if_pos Zo];unfold recB;rw [if_pos ⟨h,by show (-1:Int) < 0; decide⟩]
 ·rw [if_neg hi]
  by_cases hl:i < c
  ·rw [if_pos hl,if_pos Zo]
  ·rw [if_neg hl,if_neg Zo]
theorem yAt_no {s:Nat} {a:Int} {c:Nat} (h:s.testBit c = false):yAt s a c = yAt s a (c + 1):=by
 funext i;unfold yAt;by_cases hi:i = c
 ·subst hi
  rw [if_neg Zo,if_pos Zo];unfold recB;rw [if_neg (fun hh=>by rw [h] at hh; cases hh.1)]
 ·by_cases hl:i < c
  ·rw [if_pos hl,if_pos Zo]
  ·rw [if_neg hl,if_neg Zo]
theorem yAt_ten {s:Nat} {a:Int} (h:s < 1024):yAt s a 10 = recB s noneF a:=by
 funext i;unfold yAt;split
 ·rfl
 ·unfold recB
  rw [if_neg];intro hh;rw [Nat.testBit_lt_two_pow (Nat.lt_of_lt_of_le h (Nat.pow_le_pow_right (n:=2) Zo (by omega:10 <= i)))] at hh
  cases hh.1
theorem and_one (v:Nat) (hv:v < 1024):bits .and .i64 (v:Int) 1 = ((v % 2:Nat):Int):=by
 show IntKind.i64.wrap ((BitVec.ofInt 64 (v:Int) &&& BitVec.ofInt 64 ((1:Nat):Int)).toNat:Int) = _
 rw [BitVec.toNat_and,ofInt_n64 v Zo,ofInt_n64 1 Zo,Nat.and_one_is_mod];have:=Nat.mod_lt v (show 0 < 2 by omega);exact wrap14 _ Zo Zo
theorem bit_at (s c:Nat) (hs:s < 1024):(bits .and .i64 ((s:Int) / 2 ^ c) 1 == 1) = s.testBit c:=by
 have e:(s:Int) / 2 ^ c = ((s / 2 ^ c:Nat):Int):=by rw [Int.natCast_ediv,Int.natCast_pow]; rfl
 rw [e,and_one _ (Nat.lt_of_le_of_lt (Nat.div_le_self _ _) hs),Nat.testBit_eq_decide_div_mod_eq];by_cases h:s / 2 ^ c % 2 = 1
 ·rw [h]; rfl
 ·have h0:s / 2 ^ c % 2 = 0:=by omega
  rw [h0]; rfl
set_option maxRecDepth 100000 in
set_option maxHeartbeats 4000000 in
theorem first_any (g:Nat) (x:Nat -> Int) (k:Int) (m:Mt) (w:World) (hb:Bk w g x k m noneF) (hm:MayM m) (hn:m.now < 40320) (hk:¬ (k < 0 ∨ 3 < k)) (hx:May x) :
  Calls Tryz.prog 124 #[.pointer (some ⟨g,0,none⟩)] w fun e w'=>e = .returned (.tuple #[]) /\ BkTo w g x k (stepM x m k) (recB (stepC x m k) noneF m.now) w':=by
 have ST:=fun W=>step13_any x m k W
 rw [meterV_good [k] hx hm,runV_cons,if_neg hk,if_neg Zo] at ST;dsimp only [runV] at ST;rw [Nat.zero_or] at ST;have hs:=stepC_lt x m k;have hnow:=hm.1;clear hm hn hk hx;generalize stepM x m k = m1 at ST ⊢;generalize stepC x m k = s at ST hs ⊢;obtain ⟨a,ha⟩:∃ a,m.now = a:=⟨_,rfl⟩;rw [ha] at hnow ⊢;have f20:w.cell? ⟨g,20,none⟩ = some (.int .i64 a):=by rw [<- ha]; exact hb.cell rfl
 have f19:w.cell? ⟨g,19,none⟩ = some (.int .i64 k):=hb.cell rfl;clear ha;go_enter Tryz.func124,Tryz.ntmps124;go_upto_region 1 with fail
 go_cut [2,3,4] (fun u2 u3 u4 wx=>u2 = .int .i64 a /\ u4 = .int .i64 (s:Int) /\ ∃ R:Nat,u3 = .pointer (some ⟨R,0,none⟩) /\ Bx wx R 88 (mt m1) /\ w.heap.size <= R /\ Below w.heap.size w wx)
 case first =>
  refine wp_region_noPanic ?_;refine wp_region_held_drew (S:=fun w'=>Below w.heap.size w w') Zk ?_ (fun hHeld=>?_)
  ·exact b_dr (Below.refl _ _)
  refine Zt 0 (some 13) ?_;(try simp only [Zs]);refine Zt 1 (some 14) ?_;(try simp only [Zs]);refine Zt 2 (some 15) ?_;(try simp only [Zs]);refine Zt 3 (some 16) (v:=.agg (bk x)) (hy:=fun w' hSw=>exec_load g 0 x _ w' rfl rfl ((Bk.rdI hb).below hSw) Tryz.underlying23 rfl Zk) ?_;(try simp only [Zs]);refine Zt 4 (some 17) ?_;(try simp only [Zs]);refine Zt 5 (some 18) ?_;(try simp only [Zs]);refine Zt 6 (some 19) ?_;(try simp only [Zs]);refine Zt 7 (some 20) (v:=.agg (mt m)) (hy:=fun w' hSw=>exec_load_mid g 20 (mt m) _ w' rfl rfl (Bk.meter (hb.below hSw)) Tryz.underlying88 rfl Zk) ?_;(try simp only [Zs]);refine Zt 8 (some 21) ?_;(try simp only [Zs]);refine Zt 9 (some 22) ?_;(try simp only [Zs]);refine Zt 10 (some 23) ?_;(try simp only [Zs]);refine Zt 11 (some 24) (hy:=by intro w' hSw; have q0:=c_cl f19 hSw; clear hSw; go_simp; try (with_reducible rfl)) ?_;(try simp only [Zs]);refine wpAnyH_ready (rs:=[12,17]) Zk (by simp) ?_;refine AllReadyH.cons (o:=⟨some 25,_,_,_,_,_⟩) rfl (fun K hK=>?_) (AllReadyH.cons (o:=⟨some 3,_,_,_,_,_⟩) rfl (fun K hK=>?_) AllReadyH.nil)
  ·
   go_simp;(go_at_call 85; (with_reducible refine (ST _).mono ?_); rintro e w2 ⟨rfl,hb2⟩);go_wp2_with fail;refine hK.out _ _ (b_cl hHeld Zl Zm) (fun hHeld=>?_);clear hK K;(try simp only [Zs]);refine Zt 13 (some 12) ?_;(try simp only [Zs]);refine Zt 14 (some 26) ?_;(try simp only [Zs]);refine Zt 15 (some 27) ?_;(try simp only [Zs]);refine Zt 16 (some 28) ?_;(try simp only [Zs]);refine Zr 17 (some 3) fun K hK=>?_
   refine wp_alloc_any 88 (mt .zero) Zk (fun g_1 W' hg hA hbA=>?_);have hgN:=Nat.le_trans hHeld.size hg;refine hK.out _ _ (b_cl hHeld Zl hbA) (fun hHeld=>?_);clear hK K hbA hg;(try simp only [Zs]);refine Zr 18 none fun K hK=>?_
   refine wp_store_any 88 _ _ rfl g_1 (mt m1) rfl rfl 88 (mt .zero) hA Zk rfl (mt_one _) (fun W' u=>?_);refine hK.out _ _ (hHeld.trans (u.bel _ hgN)) (fun hHeld=>?_);clear hK K;(try simp only [Act.put]);refine Zt 19 (some 4) ?_;(try simp only [Zs]);refine Zt 20 (some 5) ?_;(try simp only [Zs]);refine wpAnyH_done Zk ?_ _;refine NoPanic.normal ?_;go_wp2_with fail;go_meet;exact ⟨rfl,rfl,g_1,rfl,u.box,hgN,hHeld⟩
  ·
   refine wp_alloc_any 88 (mt .zero) Zk (fun g_1 W' hg hA hbA=>?_);have hgN:=Nat.le_trans hHeld.size hg;refine hK.out _ _ (b_cl hHeld Zl hbA) (fun hHeld=>?_);clear hK K hbA hg;(try simp only [Zs]);refine Zr 12 (some 25) fun K hK=>?_
   go_simp;(go_at_call 85; (with_reducible refine (ST _).mono ?_); rintro e w2 ⟨rfl,hb2⟩);go_wp2_with fail;refine hK.out _ _ (b_cl hHeld Zl Zm) (fun hHeld=>?_);replace hA:=hA.below Zm;clear hK K;(try simp only [Zs]);refine Zt 13 (some 12) ?_;(try simp only [Zs]);refine Zt 14 (some 26) ?_;(try simp only [Zs]);refine Zt 15 (some 27) ?_;(try simp only [Zs]);refine Zt 16 (some 28) ?_;(try simp only [Zs]);refine Zr 18 none fun K hK=>?_
   refine wp_store_any 88 _ _ rfl g_1 (mt m1) rfl rfl 88 (mt .zero) hA Zk rfl (mt_one _) (fun W' u=>?_);refine hK.out _ _ (hHeld.trans (u.bel _ hgN)) (fun hHeld=>?_);clear hK K;(try simp only [Act.put]);refine Zt 19 (some 4) ?_;(try simp only [Zs]);refine Zt 20 (some 5) ?_;(try simp only [Zs]);refine wpAnyH_done Zk ?_ _;refine NoPanic.normal ?_;go_wp2_with fail;go_meet;exact ⟨rfl,rfl,g_1,rfl,u.box,hgN,hHeld⟩
 case rest =>
 obtain ⟨rfl,rfl,R,rfl,HR,hRw,hbe⟩:=hcut;rename World=>w1
 have hne:g ≠ R:=by have:=hb.lt; omega
 have C:BkTo w g x k m noneF w1:=⟨hbe.size,hb.below hbe,fun k _ hk=>hbe.block k hk,fun k hk hl=>hbe.mono hl⟩;clear hbe ST f19 f20
 go_upto_region 3 with (first
  | refine wpList_load_box Zv 88 _ rfl R rfl 88 (mt m1) _ HR Tryz.underlying88 rfl Zk ?_
  | (refine wpList_store_part Zv 88 _ _ rfl g 20 (mt m1) rfl rfl (mt_one _) _ _ C.box (by rw [blk_size,mt_size]; decide) Zk (fun w2 u=>?_); rw [blk_meter] at u; replace C:BkTo w g x k m1 noneF w2:=C.upd u; clear u HR))
 (try go_frame);rw [<- yAt_zero s a] at C;go_wp2;go_loopw [33] (fun i wr=>∃ c:Nat,c <= 10 /\ i = .int .i64 (c:Nat) /\ Hid (BkTo w g x k m1 (yAt s a c) wr)) (fun i _=>10 - (intOf i).toNat)
 case atStart=>exact ⟨0,Nat.zero_le _,rfl,Zh C⟩
 case round =>
  obtain ⟨c,hc,rfl,HC⟩:=hrel;obtain ⟨w3,rfl⟩:∃ w3:World,w3 = wr:=⟨_,rfl⟩;clear C;have C:=HC.out;by_cases hlt:c < 10
  case neg =>
   obtain rfl:c = 10:=by omega
   rw [yAt_ten hs] at C;go_wp2;refine bodyPost_end (results_none Tryz.results124 _ _ _) rfl ⟨rfl,?_⟩;exact C
  have hbit:=bit_at s c hs;by_cases ht:s.testBit c = true
  case pos =>
   rw [ht] at hbit;have hy:=yAt_yes (a:=a) ht;have hset:=blk_fs x k m1 (yAt s a c) a c hlt;rw [hy] at hset;have HS:=Zh hset;clear hy hset ht;go_wp2_with (refine wpList_store_fld Zv 3 _ _ rfl g (34 + c) (.int .i64 a) rfl rfl rfl _ _ C.box (by rw [blk_size]; omega) Zk (fun w4 u=>?_); rw [HS.out] at u; replace C:BkTo w g x k m1 (yAt s a (c + 1)) w4:=C.upd u; clear u);go_roundw
   case rel=>exact ⟨c + 1,by omega,by go_num,Zh C⟩
   case measure=>simp [intOf]; omega
  case neg =>
   rw [Bool.eq_false_iff.2 ht] at hbit;have hy:=yAt_no (a:=a) (Bool.eq_false_iff.2 ht);rw [hy] at C;clear hy ht;go_wp2;go_roundw
   case rel=>exact ⟨c + 1,by omega,by go_num,Zh C⟩
   case measure=>simp [intOf]; omega
noncomputable def overV (x:Nat -> Int) (m:Mt) (k n:Int):Mt × (Nat -> Int) × Int :=
 if err14 x m k = 0 then (if n < 0 ∨ 40320 - m.now < n then (.zero,zeroF,4) else ((walkV x k n.toNat m noneF).1,(walkV x k n.toNat m noneF).2,0)) else (.zero,zeroF,err14 x m k)
set_option maxRecDepth 100000 in
set_option maxHeartbeats 4000000 in
theorem over14_any (x:Nat -> Int) (m:Mt) (k n:Int) (w:World) :
  Calls Tryz.prog 88 #[.agg (bk x),.agg (mt m),.int .i64 k,.int .i64 n] w fun e w'=>e = .returned (.tuple #[.agg (mt (overV x m k n).1),.agg (tn (overV x m k n).2.1),.int .i64 (overV x m k n).2.2]) /\ Below w.heap.size w w':=by
 have C1:=fun W=>check14_any x m k W
 have RB:RdI ((((w.alloc (.cells (bk x) 23)).alloc (.cells (mt m) 88)).alloc (.cells (mt .zero) 88)).alloc (.cells (tn zeroF) 139)) w.heap.size 0 x:=(((RdI.new x 23 rfl).alloc _).alloc _).alloc _;have BM:Bx ((((w.alloc (.cells (bk x) 23)).alloc (.cells (mt m) 88)).alloc (.cells (mt .zero) 88)).alloc (.cells (tn zeroF) 139)) (w.heap.size + 1) 88 (mt m):=((Bx.new (W:=w.alloc (.cells (bk x) 23)) _ _ (by simp)).alloc _).alloc _;have BR:Bx ((((w.alloc (.cells (bk x) 23)).alloc (.cells (mt m) 88)).alloc (.cells (mt .zero) 88)).alloc (.cells (tn zeroF) 139)) (w.heap.size + 2) 88 (mt .zero):=(Bx.new (W:=(w.alloc (.cells (bk x) 23)).alloc (.cells (mt m) 88)) _ _ (by simp)).alloc _;have BF:Bx ((((w.alloc (.cells (bk x) 23)).alloc (.cells (mt m) 88)).alloc (.cells (mt .zero) 88)).alloc (.cells (tn zeroF) 139)) (w.heap.size + 3) 139 (tn zeroF):=Bx.new (W:=((w.alloc (.cells (bk x) 23)).alloc (.cells (mt m) 88)).alloc (.cells (mt .zero) 88)) _ _ (by simp);have hB0:Below w.heap.size w ((((w.alloc (.cells (bk x) 23)).alloc (.cells (mt m) 88)).alloc (.cells (mt .zero) 88)).alloc (.cells (tn zeroF) 139)):=b_al (b_al (b_al (b_al (Below.refl _ _) Zl _) Zl _) Zl _) Zl _;have hz0:((((w.alloc (.cells (bk x) 23)).alloc (.cells (mt m) 88)).alloc (.cells (mt .zero) 88)).alloc (.cells (tn zeroF) 139)).heap.size = w.heap.size + 4:=by simp
 by_cases he:err14 x m k = 0
 case neg =>
  have hv:overV x m k n = (.zero,zeroF,err14 x m k):=by unfold overV; rw [if_neg he]
  rw [hv];clear hv;generalize err14 x m k = er at he C1 ⊢;have ne:(er != 0) = true:=by simpa using he
  have ne2:(er == 0) = false:=by simpa using he
  clear he;go_enter Tryz.func88,Tryz.ntmps88
  go_wp2_with (first
   | refine wpList_load_bk Zv 23 _ rfl _ _ rfl x _ (RB) Tryz.underlying23 rfl Zk ?_ | refine wpList_load_box Zv 88 _ rfl (w.heap.size + 1) rfl 88 (mt m) _ BM Tryz.underlying88 rfl Zk ?_ | (go_at_call 122; (with_reducible refine (C1 _).mono ?_); rintro e w1 ⟨rfl,hb1⟩; have BR1:=BR.below hb1; have BF1:=BF.below hb1; have RB1:=RB.below hb1; have BM1:=BM.below hb1)
   | refine wpList_build_as rfl 88 _ rfl (mt .zero) Zk ?_ | refine wpList_build_as rfl 139 _ rfl (tn zeroF) Zk ?_ | refine wpList_store_box rfl 88 _ _ rfl (w.heap.size + 2) (mt .zero) rfl rfl 88 (mt .zero) BR1 Zk rfl (mt_one _) (fun w2 u=>?_) | refine wpList_store_box rfl 139 _ _ rfl (w.heap.size + 3) (tn zeroF) rfl rfl 139 (tn zeroF) (u.bx BF1 Zo) Zk rfl (tn_one _) (fun w3 u2=>?_))
  refine bodyPost_ret (results_box22 Tryz.results88 _ _ (w.heap.size + 2) (w.heap.size + 3) 88 139 (mt .zero) (tn zeroF) _ _ (.int .i64 er) rfl (u2.bx u.box Zo) rfl u2.box rfl Tryz.underlying88 rfl Zk Tryz.underlying139 rfl Zk) rfl ⟨rfl,?_⟩;exact ((b_cl hB0 Zl hb1).trans (u.bel _ Zo)).trans (u2.bel _ Zo)
 obtain ⟨hx,hm,hk⟩:=err14_ok.1 he;have HK:=Zh hk;rw [he] at C1;have hnow:=hm.1;have HM:=Zh hm;have HX:=Zh hx;clear hm hx hk;by_cases hr:n < 0 ∨ 40320 - m.now < n
 case pos =>
  have hv:overV x m k n = (.zero,zeroF,4):=by unfold overV; rw [if_pos he,if_pos hr]
  rw [hv];clear hv he;have f0:((((w.alloc (.cells (bk x) 23)).alloc (.cells (mt m) 88)).alloc (.cells (mt .zero) 88)).alloc (.cells (tn zeroF) 139)).cell? ⟨w.heap.size + 1,0,none⟩ = some (.int .i64 m.now):=BM.cell rfl;have hw40:=wrap14 (40320 - m.now) Zo Zo;generalize m.now = nw at *;by_cases h0:n < 0
  case pos =>
   have d0:decide (n < 0) = true:=decide_eq_true h0;clear hr h0;go_enter Tryz.func88,Tryz.ntmps88
   go_wp2_with (first
    | refine wpList_load_bk Zv 23 _ rfl _ _ rfl x _ (RB) Tryz.underlying23 rfl Zk ?_ | refine wpList_load_box Zv 88 _ rfl (w.heap.size + 1) rfl 88 (mt m) _ BM Tryz.underlying88 rfl Zk ?_ | (go_at_call 122; (with_reducible refine (C1 _).mono ?_); rintro e w1 ⟨rfl,hb1⟩; have BR1:=BR.below hb1; have BF1:=BF.below hb1; have RB1:=RB.below hb1; have BM1:=BM.below hb1)
    | refine wpList_build_as rfl 88 _ rfl (mt .zero) Zk ?_ | refine wpList_build_as rfl 139 _ rfl (tn zeroF) Zk ?_ | refine wpList_store_box rfl 88 _ _ rfl (w.heap.size + 2) (mt .zero) rfl rfl 88 (mt .zero) BR1 Zk rfl (mt_one _) (fun w2 u=>?_) | refine wpList_store_box rfl 139 _ _ rfl (w.heap.size + 3) (tn zeroF) rfl rfl 139 (tn zeroF) (u.bx BF1 Zo) Zk rfl (tn_one _) (fun w3 u2=>?_))
   refine bodyPost_ret (results_box22 Tryz.results88 _ _ (w.heap.size + 2) (w.heap.size + 3) 88 139 (mt .zero) (tn zeroF) _ _ (.int .i64 4) rfl (u2.bx u.box Zo) rfl u2.box rfl Tryz.underlying88 rfl Zk Tryz.underlying139 rfl Zk) rfl ⟨rfl,?_⟩;exact ((b_cl hB0 Zl hb1).trans (u.bel _ Zo)).trans (u2.bel _ Zo)
  case neg =>
   have d0:decide (n < 0) = false:=decide_eq_false h0;have d1:decide (40320 - nw < n) = true:=decide_eq_true Zo;have d2:40320 - nw < n:=by omega
   clear hr;go_enter Tryz.func88,Tryz.ntmps88
   go_wp2_with (first
    | refine wpList_load_bk Zv 23 _ rfl _ _ rfl x _ (RB) Tryz.underlying23 rfl Zk ?_ | refine wpList_load_box Zv 88 _ rfl (w.heap.size + 1) rfl 88 (mt m) _ BM Tryz.underlying88 rfl Zk ?_ | (go_at_call 122; (with_reducible refine (C1 _).mono ?_); rintro e w1 ⟨rfl,hb1⟩; have BR1:=BR.below hb1; have BF1:=BF.below hb1; have RB1:=RB.below hb1; have BM1:=BM.below hb1; have g0:=c_cl f0 hb1)
    | refine wpList_build_as rfl 88 _ rfl (mt .zero) Zk ?_ | refine wpList_build_as rfl 139 _ rfl (tn zeroF) Zk ?_ | refine wpList_store_box rfl 88 _ _ rfl (w.heap.size + 2) (mt .zero) rfl rfl 88 (mt .zero) BR1 Zk rfl (mt_one _) (fun w2 u=>?_) | refine wpList_store_box rfl 139 _ _ rfl (w.heap.size + 3) (tn zeroF) rfl rfl 139 (tn zeroF) (u.bx BF1 Zo) Zk rfl (tn_one _) (fun w3 u2=>?_))
   refine bodyPost_ret (results_box22 Tryz.results88 _ _ (w.heap.size + 2) (w.heap.size + 3) 88 139 (mt .zero) (tn zeroF) _ _ (.int .i64 4) rfl (u2.bx u.box Zo) rfl u2.box rfl Tryz.underlying88 rfl Zk Tryz.underlying139 rfl Zk) rfl ⟨rfl,?_⟩;exact ((b_cl hB0 Zl hb1).trans (u.bel _ Zo)).trans (u2.bel _ Zo)
 have hv:overV x m k n = ((walkV x k n.toNat m noneF).1,(walkV x k n.toNat m noneF).2,0):=by unfold overV; rw [if_pos he,if_neg hr]
 rw [hv];dsimp only;clear hv he;obtain ⟨n',rfl⟩:∃ n':Nat,n = (n':Int):=⟨n.toNat,by omega⟩;rw [Int.toNat_natCast];obtain ⟨Mf,hMf⟩:∃ Mf,(walkV x k n' m noneF).1 = Mf:=⟨_,rfl⟩;obtain ⟨Yf,hYf⟩:∃ Yf,(walkV x k n' m noneF).2 = Yf:=⟨_,rfl⟩;rw [hMf,hYf];have HMF:=Zh hMf;have HYF:=Zh hYf;clear hMf hYf;have f0:((((w.alloc (.cells (bk x) 23)).alloc (.cells (mt m) 88)).alloc (.cells (mt .zero) 88)).alloc (.cells (tn zeroF) 139)).cell? ⟨w.heap.size + 1,0,none⟩ = some (.int .i64 m.now):=BM.cell rfl;obtain ⟨nw,hnw⟩:∃ nw,m.now = nw:=⟨_,rfl⟩;rw [hnw] at f0 hnow hr;have HNW:=Zh hnw;clear hnw;have hw40:=wrap14 (40320 - nw) Zo Zo;have d0:decide ((n':Int) < 0) = false:=decide_eq_false Zo;have d1:decide (40320 - nw < (n':Int)) = false:=decide_eq_false Zo;have d2:¬ 40320 - nw < (n':Int):=by omega
 have d3:¬ (n':Int) < 0:=by omega
 go_enter Tryz.func88,Tryz.ntmps88;go_upto_region 6 with (first | refine wpList_load_bk Zv 23 _ rfl _ _ rfl x _ (RB) Tryz.underlying23 rfl Zk ?_ | refine wpList_load_box Zv 88 _ rfl (w.heap.size + 1) rfl 88 (mt m) _ BM Tryz.underlying88 rfl Zk ?_ | (go_at_call 122; (with_reducible refine (C1 _).mono ?_); rintro e w1 ⟨rfl,hb1⟩; have BR1:=BR.below hb1; have BF1:=BF.below hb1; have RB1:=RB.below hb1; have BM1:=BM.below hb1; have g0:=c_cl f0 hb1))
 (try go_frame);clear RB BM BR BF C1 f0;have hz1:=hb1.size;have hB1:=b_cl hB0 Zl hb1;simp only [World.size_alloc] at hz1;clear hb1 hB0 hz0 g0;go_cut [2,3,12] (fun u2 u3 u12 wx=>u2 = .int .i64 k /\ u3 = .int .i64 (n':Int) /\ ∃ R:Nat,u12 = .pointer (some ⟨R,0,none⟩) /\ Bk wx R x k m noneF /\ w1.heap.size <= R /\ Below w1.heap.size w1 wx)
 case first =>
  refine wp_region_noPanic ?_;refine wp_region_held_drew (S:=fun w'=>Below w1.heap.size w1 w') Zk ?_ (fun hHeld=>?_)
  ·exact b_dr (Below.refl _ _)
  refine Zt 0 (some 33) (v:=.agg (bk x)) (hy:=fun w' hSw=>exec_load w.heap.size 0 x _ w' rfl rfl (RB1.below hSw) Tryz.underlying23 rfl Zk) ?_;(try simp only [Zs]);refine Zt 1 (some 34) ?_;(try simp only [Zs]);refine Zt 2 (some 35) (v:=.agg (mt m)) (hy:=fun w' hSw=>exec_load_box (w.heap.size + 1) 88 _ _ w' rfl rfl (BM1.below hSw) Tryz.underlying88 rfl Zk) ?_;(try simp only [Zs]);refine wpAnyH_ready (rs:=[3,5]) Zk (by simp) ?_;refine AllReadyH.cons (o:=⟨some 36,_,_,_,_,_⟩) rfl (fun K hK=>?_) (AllReadyH.cons (o:=⟨some 12,_,_,_,_,_⟩) rfl (fun K hK=>?_) AllReadyH.nil)
  ·
   go_simp;(go_at_call 123; (with_reducible refine (none_any _).mono ?_); rintro e w2 ⟨rfl,hb2⟩);go_wp2_with fail;refine hK.out _ _ (b_cl hHeld Zl Zm) (fun hHeld=>?_);clear hK K;(try simp only [Zs]);refine Zt 4 (some 37) (v:=.agg (blk x k m noneF)) (hy:=fun w' hSw=>exec_build _ _ rfl Zk) ?_;(try simp only [Zs]);refine Zr 5 (some 12) fun K hK=>?_
   refine wp_alloc_any 178 (blk zeroF 0 .zero zeroF) Zk (fun g W' hg hA hbA=>?_);have hgN:=Nat.le_trans hHeld.size hg;refine hK.out _ _ (b_cl hHeld Zl hbA) (fun hHeld=>?_);clear hK K hbA hg;(try simp only [Zs]);refine Zr 6 none fun K hK=>?_
   refine wp_store_any 178 _ _ rfl g (blk x k m noneF) rfl rfl 178 (blk zeroF 0 .zero zeroF) hA Zk rfl (blk_one _ _ _ _) (fun W' u=>?_);refine hK.out _ _ (hHeld.trans (u.bel _ hgN)) (fun hHeld=>?_);clear hK K;(try simp only [Act.put]);refine wpAnyH_done Zk ?_ _;refine NoPanic.normal ?_;go_wp2_with fail;go_meet;exact ⟨rfl,rfl,g,rfl,u.box,hgN,hHeld⟩
  ·
   refine wp_alloc_any 178 (blk zeroF 0 .zero zeroF) Zk (fun g W' hg hA hbA=>?_);have hgN:=Nat.le_trans hHeld.size hg;refine hK.out _ _ (b_cl hHeld Zl hbA) (fun hHeld=>?_);clear hK K hbA hg;(try simp only [Zs]);refine Zr 3 (some 36) fun K hK=>?_
   go_simp;(go_at_call 123; (with_reducible refine (none_any _).mono ?_); rintro e w2 ⟨rfl,hb2⟩);go_wp2_with fail;refine hK.out _ _ (b_cl hHeld Zl Zm) (fun hHeld=>?_);replace hA:=hA.below Zm;clear hK K;(try simp only [Zs]);refine Zt 4 (some 37) (v:=.agg (blk x k m noneF)) (hy:=fun w' hSw=>exec_build _ _ rfl Zk) ?_;(try simp only [Zs]);refine Zr 6 none fun K hK=>?_
   refine wp_store_any 178 _ _ rfl g (blk x k m noneF) rfl rfl 178 (blk zeroF 0 .zero zeroF) hA Zk rfl (blk_one _ _ _ _) (fun W' u=>?_);refine hK.out _ _ (hHeld.trans (u.bel _ hgN)) (fun hHeld=>?_);clear hK K;(try simp only [Act.put]);refine wpAnyH_done Zk ?_ _;refine NoPanic.normal ?_;go_wp2_with fail;go_meet;exact ⟨rfl,rfl,g,rfl,u.box,hgN,hHeld⟩
 case rest =>
 obtain ⟨rfl,rfl,R,rfl,HR,hRw,hbe⟩:=hcut;rename World=>w2
 replace BR1:=BR1.below hbe;replace BF1:=BF1.below hbe;have hB2:=b_cl hB1 Zl hbe;clear RB1 BM1 hbe hB1;have C:BkTo w2 R x k m noneF w2:=Chg.refl HR;clear HR;go_upto_if 39 with fail
 go_cut [12] (fun u12 wx=>u12 = .pointer (some ⟨R,0,none⟩) /\ BkTo w2 R x k Mf Yf wx)
 case first =>
  by_cases hp:n' = 0
  case pos =>
   subst hp;have e1:Mf = m:=by rw [<- HMF.out]; rfl
   have e2:Yf = noneF:=by rw [<- HYF.out]; rfl
   subst e1 e2;go_wp2;go_meet;exact ⟨rfl,C⟩
  case neg =>
   have dp:decide ((0:Int) < (n':Int)) = true:=decide_eq_true Zo;have dq:(0:Int) < (n':Int):=by omega
   have hlt:m.now < 40320:=by rw [HNW.out]; omega
   have FI:=fun W h=>first_any R x k m W h HM.out hlt HK.out HX.out
   have hs1:=may_step (x:=x) k HM.out hlt;obtain ⟨q,rfl⟩:∃ q,n' = q + 1:=⟨n' - 1,by omega⟩;have ON:=fun W h=>on_any R x k (stepM x m k) (recB (stepC x m k) noneF m.now) q W h (noted_first HM.out hlt) hs1.1 (by rw [hs1.2,HNW.out]; omega) HX.out
   have e1:(walkV x k q (stepM x m k) (recB (stepC x m k) noneF m.now)).1 = Mf:=HMF.out;have e2:(walkV x k q (stepM x m k) (recB (stepC x m k) noneF m.now)).2 = Yf:=HYF.out;rw [e1,e2] at ON;clear e1 e2 hs1 hlt;generalize stepM x m k = m1 at FI ON;generalize recB (stepC x m k) noneF m.now = y1 at FI ON;have hq1:((q + 1:Nat):Int) - 1 = (q:Nat):=by omega
   go_wp2_with (first
    | (go_at_call 124; (with_reducible refine (FI _ C.box).mono ?_); rintro e w3 ⟨rfl,c⟩; replace C:BkTo w2 R x k m1 y1 w3:=C.trans c; clear c)
    | (go_at_call 125; (refine (ON _ C.box).mono ?_); rintro e w4 ⟨rfl,c⟩; replace C:BkTo w2 R x k Mf Yf w4:=C.trans c; clear c))
   go_meet;exact ⟨rfl,C⟩
 case rest =>
 clear C;obtain ⟨rfl,C⟩:=hcut;rename World=>w5
 have hR3:=C.bx BR1 Zo;have hF3:=C.bx BF1 Zo;have hB5:=hB2.trans (C.bel _ Zo (by have:=hB2.size; omega));have CB:=C.box;clear C BR1 BF1 hB2 HMF HYF;go_upto_region 10 with fail
 refine wp_region_noPanic ?_;refine wp_region_held_drew (S:=fun w'=>Bk w' R x k Mf Yf) Zk ?_ (fun hHeld=>?_)
 ·exact CB.drew
 refine Zt 0 (some 44) ?_;(try simp only [Zs]);refine Zt 1 (some 45) (v:=.agg (mt Mf)) (hy:=fun w' hSw=>exec_load_mid R 20 (mt Mf) _ w' rfl rfl (Bk.meter hSw) Tryz.underlying88 rfl Zk) ?_;(try simp only [Zs]);refine Zt 2 (some 46) ?_;(try simp only [Zs]);refine Zt 3 (some 47) (v:=.agg (tn Yf)) (hy:=fun w' hSw=>exec_load_mid R 34 (tn Yf) _ w' rfl rfl (Bk.firsts hSw) Tryz.underlying139 rfl Zk) ?_;(try simp only [Zs]);refine Zr 4 none fun K hK=>?_
 refine wp_store_any 88 _ _ rfl (w.heap.size + 2) (mt Mf) rfl rfl 88 (mt .zero) hR3.drew Zk rfl (mt_one _) (fun w6 u=>?_);refine hK.out _ _ (u.bx CB.drew Zo) (fun hHeld=>?_);clear hK K;(try simp only [Act.put]);refine Zr 5 none fun K hK=>?_
 refine wp_store_any 139 _ _ rfl (w.heap.size + 3) (tn Yf) rfl rfl 139 (tn zeroF) (u.bx hF3.drew Zo) Zk rfl (tn_one _) (fun w7 u2=>?_);refine hK.out _ _ (u2.bx hHeld Zo) (fun hHeld=>?_);clear hK K;(try simp only [Act.put]);refine Zt 6 (some 10) ?_;(try simp only [Zs]);refine wpAnyH_done Zk ?_ _;refine NoPanic.normal ?_;go_wp2_with fail;refine bodyPost_ret (results_box22 Tryz.results88 _ _ (w.heap.size + 2) (w.heap.size + 3) 88 139 (mt Mf) (tn Yf) _ _ (.int .i64 0) rfl (u2.bx u.box Zo) rfl u2.box rfl Tryz.underlying88 rfl Zk Tryz.underlying139 rfl Zk) rfl ⟨rfl,?_⟩;exact ((b_dr hB5).trans (u.bel _ Zo)).trans (u2.bel _ Zo)
theorem fi_index16 (y:Nat -> Int) (w:World):∀ k,k < 10 -> (Instr.index 139 (.agg (tn y)) (.int .i64 (k:Nat))).run Tryz.prog w = .ok (.int .i64 (y k)) w:=by
 intro i hi;have:i = 0 ∨ i = 1 ∨ i = 2 ∨ i = 3 ∨ i = 4 ∨ i = 5 ∨ i = 6 ∨ i = 7 ∨ i = 8 ∨ i = 9:=by omega
 rcases this with rfl | rfl | rfl | rfl | rfl | rfl | rfl | rfl | rfl | rfl <;> (show _ = _; kernel_rfl)
theorem walk_le {x:Nat -> Int} {k b:Int}:∀ (n:Nat) {m:Mt} (y:Nat -> Int),MayM m -> m.now + n <= 40320 -> m.now + n <= b -> (∀ c,y c <= b) -> ∀ c,(walkV x k n m y).2 c <= b
 | 0,_,_,_,_,_,h,c=>h c
 | n + 1,m,y,hm,hn,hb,h,c=>by
  have h1:=may_step (x:=x) k hm Zo;refine walk_le n _ h1.1 (by rw [h1.2]; omega) (by rw [h1.2]; omega) (fun c=>?_) c;unfold recB;split
  ·omega
  ·exact h c
end Go.Proofs.YtiamnbddbmgffaaGreatDoor
