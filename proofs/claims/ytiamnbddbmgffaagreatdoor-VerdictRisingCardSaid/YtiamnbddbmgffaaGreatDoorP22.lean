/- Texts of the proofs of VerdictAudits, VerdictAll, VerdictRising, pressed: DutyRecS, DutyRecA. Conditions: as each theorem says. -/
import Derived.Test.YtiamnbddbmgffaaGreatDoorRows
import Derived.Test.YtiamnbddbmgffaaGreatDoorP21
namespace Go.Proofs.YtiamnbddbmgffaaGreatDoor
open Go.RowKit
set_option linter.unusedVariables false
set_option maxRecDepth 1000000 in
theorem Zrec {p:Prop} (h:p:=by
 have eg:∀ args w,(callFunc 43 args).run Tryz.prog w = .ok (.enter 43 args) w:=enters_of Tryz.func43 Zk rfl;obtain ⟨n,hn⟩:∃ n:Nat,(z - y).toNat = n + 1:=⟨(z - y).toNat - 1,by omega⟩;have hnow:=hok.now;have hmay:=hok.may;have h1:=may_step (x:=x) k hmay Zo;rw [hn,run_record x k a n hmay Zo];dsimp only;have ST:=fun W=>step13_any x a.m k W
 rw [meterV_good [k] hx hmay,runV_cons,if_neg Zo,if_neg Zo] at ST;dsimp only [runV] at ST;rw [Nat.zero_or] at ST;have OV:=fun W=>over14_any x (stepM x a.m k) k (n:Nat) W
 have ho:overV x (stepM x a.m k) k (n:Nat) = ((walkV x k n (stepM x a.m k) noneF).1,(walkV x k n (stepM x a.m k) noneF).2,0):=by
  unfold overV;rw [if_pos (err14_ok.2 ⟨hx,h1.1,by omega⟩),if_neg (by rw [h1.2]; omega),Int.toNat_natCast]
 rw [ho] at OV;dsimp only at OV;clear ho;have hY1:=walk_high x k n (stepM x a.m k) noneF (fun _ _=>rfl);have hY2:=walk_le (x:=x) (k:=k) (b:=40320) n noneF h1.1 (by rw [h1.2]; omega) (by rw [h1.2]; omega) (fun c=>by unfold noneF; omega);have hS:=stepC_lt x a.m k
 have hF1:(a.step x k).F = recF (stepC x a.m k) a.F (fun c=>(sinceV x a.m a.p c y,y + 1)):=by
  show recF _ _ _ = _
  rw [hnow]
 rw [hF1];clear hF1;have NT:=fun F c t W (h:DutS base g L x a.m a.p F W) hc h0 h1=>note_any base g L x a.m a.p F c t W h hx hL18 hc h0 h1
 have NT2:=fun F c t W (h:DutS base g L x (stepM x a.m k) (pauseV x a.m a.p k) F W) hc h0 h1=>note_any base g L x (stepM x a.m k) (pauseV x a.m a.p k) F c t W h hx hL18 hc h0 h1
 have RI:=fun W (h:Sw W g x a.m a.p) hl=>rise16_any g x a.m a.p W h hmay hl hok.lie hx
 have hp1:(¬ k = 0 /\ 0 < a.m.lie -> (if (endW x a.m).brk = true then a.m.now else a.p) = pauseV x a.m a.p k) /\ (¬ (¬ k = 0 /\ 0 < a.m.lie) -> a.p = pauseV x a.m a.p k):=by
  unfold pauseV;constructor
  ·intro hh
   by_cases hbk:(endW x a.m).brk = true
   ·rw [if_pos hbk,if_pos ⟨hh.1,hh.2,hbk⟩]
   ·rw [if_neg hbk,if_neg (fun q=>hbk q.2.2)]
  ·intro hh
   rw [if_neg (fun q=>hh ⟨q.1,q.2.1⟩)]
 obtain ⟨lie,hlie⟩:∃ i,a.m.lie = i:=⟨_,rfl⟩;have f22:∀ W,Sw W g x a.m a.p -> W.cell? ⟨g,22,none⟩ = some (.int .i64 lie):=fun W h=>by rw [<- hlie]; exact h.cell rfl
 rw [hlie] at hp1 RI;(try rw [hlie] at hw);(try rw [hlie] at hl1);have hl0:0 <= lie:=by rw [<- hlie]; exact hmay.2.2.1.1
 have ev:∀ c,(sinceD x (stepM x a.m k).dawn (stepM x a.m k).sabbath (pauseV x a.m a.p k) c) = sinceV x (stepM x a.m k) (pauseV x a.m a.p k) c:=fun _=>rfl
 have HEV:=Zh ev;have HH:=Zh h;have HY1:=Zh hY1;have HY2:=Zh hY2;have HP1:=Zh hp1;have hgW:=h.sw.lt;have hLW:L < W.heap.size:=by obtain ⟨_,_,hh,_⟩:=h.cell; exact hh.lt
 clear hlie hnow hmay h1 hok ev hx h hY1 hY2 hp1;have hvs:∀ c,sinceV x a.m a.p c = sinceD x a.m.dawn a.m.sabbath a.p c:=fun _=>rfl
 obtain ⟨V0,hV0⟩:∃ V0:Nat -> Int × Int,(fun c=>(sinceV x a.m a.p c y,y + 1)) = V0:=⟨_,rfl⟩;have HV0:=Zh hV0;rw [hV0];clear hV0 hvs;obtain ⟨nn,hnn⟩:∃ i:Int,z - y - 1 = i:=⟨_,rfl⟩;have hnn2:nn = (n:Nat):=by omega
 rw [<- hnn2] at OV;have hnb0:-1000000 <= nn:=by omega
 have hnb1:nn <= 1000000:=by omega
 have HNN:=Zh hnn;clear hnn hnn2;generalize stepM x a.m k = m1 at *;generalize stepC x a.m k = S at *;generalize pauseV x a.m a.p k = p1 at *;obtain ⟨F1,hF1⟩:∃ F1,recF S a.F V0 = F1:=⟨_,rfl⟩;obtain ⟨M,hM⟩:∃ M,(walkV x k n m1 noneF).1 = M:=⟨_,rfl⟩;obtain ⟨Y,hY⟩:∃ Y,(walkV x k n m1 noneF).2 = Y:=⟨_,rfl⟩;rw [hM,hY] at OV;rw [hY] at HY1 HY2;rw [hF1,hM,hY];have HF1:=Zh hF1;clear hF1 hM hY hn;have B0:Below W.heap.size W (W.alloc (.cells #[.int .i64 k,.int .i64 y,.int .i64 z] 50)):=(Below.refl _ _).alloc Zl _;have D0:DutS base g L x a.m a.p a.F (W.alloc (.cells #[.int .i64 k,.int .i64 y,.int .i64 z] 50)):=HH.out.below B0 rfl;have R0:Bx (W.alloc (.cells #[.int .i64 k,.int .i64 y,.int .i64 z] 50)) W.heap.size 50 #[.int .i64 k,.int .i64 y,.int .i64 z]:=Bx.new _ _ rfl;have hz0:(W.alloc (.cells #[.int .i64 k,.int .i64 y,.int .i64 z] 50)).heap.size = W.heap.size + 1:=by simp
 clear HH;go_enter Tryz.func47,Tryz.ntmps47;go_upto_region 1 with fail
 obtain ⟨w0,hw0⟩:∃ w0,W.alloc (.cells #[.int .i64 k,.int .i64 y,.int .i64 z] 50) = w0:=⟨_,rfl⟩;rw [hw0] at B0 D0 R0 hz0 ⊢;clear hw0;go_cut [6,7,8] (fun u6 u7 u8 wx=>u8 = .int .i64 0 /\ u7 = .int .i64 (S:Int) /\ ∃ R:Nat,u6 = .pointer (some ⟨R,0,none⟩) /\ Bx wx R 88 (mt m1) /\ w0.heap.size <= R /\ Below w0.heap.size w0 wx)
 case first =>
  have hsw:=D0.sw;have fk:w0.cell? ⟨W.heap.size,0,none⟩ = some (.int .i64 k):=R0.cell rfl;refine wp_region_noPanic ?_;refine wp_region_held_drew (S:=fun w'=>Below w0.heap.size w0 w') Zk ?_ (fun hHeld=>?_)
  ·exact b_dr (Below.refl _ _)
  refine Zt 0 (some 17) ?_;(try simp only [Zs]);refine Zt 1 (some 18) ?_;(try simp only [Zs]);refine Zt 2 (some 19) ?_;(try simp only [Zs]);refine Zt 3 (some 20) (v:=.agg (bk x)) (hy:=fun w' hSw=>exec_load g 0 x _ w' rfl rfl ((Sw.rdI hsw).below hSw) Tryz.underlying23 rfl Zk) ?_;(try simp only [Zs]);refine Zt 4 (some 21) ?_;(try simp only [Zs]);refine Zt 5 (some 22) ?_;(try simp only [Zs]);refine Zt 6 (some 23) ?_;(try simp only [Zs]);refine Zt 7 (some 24) (v:=.agg (mt a.m)) (hy:=fun w' hSw=>exec_load_mid g 19 (mt a.m) _ w' rfl rfl (Sw.meter (hsw.below hSw)) Tryz.underlying88 rfl Zk) ?_;(try simp only [Zs]);refine Zt 8 (some 25) ?_;(try simp only [Zs]);refine Zt 9 (some 26) (hy:=by intro w' hSw; have q0:=c_cl fk hSw; clear hSw; go_simp; try (with_reducible rfl)) ?_;(try simp only [Zs]);refine wpAnyH_ready (rs:=[10,15]) Zk (by simp) ?_;refine AllReadyH.cons (o:=⟨some 27,_,_,_,_,_⟩) rfl (fun K hK=>?_) (AllReadyH.cons (o:=⟨some 6,_,_,_,_,_⟩) rfl (fun K hK=>?_) AllReadyH.nil)
  ·
   go_simp;(go_at_call 85; (with_reducible refine (ST _).mono ?_); rintro e w2 ⟨rfl,hb2⟩);go_wp2_with fail;refine hK.out _ _ (b_cl hHeld Zl Zm) (fun hHeld=>?_);clear hK K;(try simp only [Zs]);refine Zt 11 (some 16) ?_;(try simp only [Zs]);refine Zt 12 (some 28) ?_;(try simp only [Zs]);refine Zt 13 (some 29) ?_;(try simp only [Zs]);refine Zt 14 (some 30) ?_;(try simp only [Zs]);refine Zr 15 (some 6) fun K hK=>?_
   refine wp_alloc_any 88 (mt .zero) Zk (fun g_1 W' hg hA hbA=>?_);have hgN:=Nat.le_trans hHeld.size hg;refine hK.out _ _ (b_cl hHeld Zl hbA) (fun hHeld=>?_);clear hK K hbA hg;(try simp only [Zs]);refine Zr 16 none fun K hK=>?_
   refine wp_store_any 88 _ _ rfl g_1 (mt m1) rfl rfl 88 (mt .zero) hA Zk rfl (mt_one _) (fun W' u=>?_);refine hK.out _ _ (hHeld.trans (u.bel _ hgN)) (fun hHeld=>?_);clear hK K;(try simp only [Act.put]);refine Zt 17 (some 7) ?_;(try simp only [Zs]);refine Zt 18 (some 8) ?_;(try simp only [Zs]);refine wpAnyH_done Zk ?_ _;refine NoPanic.normal ?_;go_wp2_with fail;go_meet;exact ⟨rfl,rfl,g_1,rfl,u.box,hgN,hHeld⟩
  ·
   refine wp_alloc_any 88 (mt .zero) Zk (fun g_1 W' hg hA hbA=>?_);have hgN:=Nat.le_trans hHeld.size hg;refine hK.out _ _ (b_cl hHeld Zl hbA) (fun hHeld=>?_);clear hK K hbA hg;(try simp only [Zs]);refine Zr 10 (some 27) fun K hK=>?_
   go_simp;(go_at_call 85; (with_reducible refine (ST _).mono ?_); rintro e w2 ⟨rfl,hb2⟩);go_wp2_with fail;refine hK.out _ _ (b_cl hHeld Zl Zm) (fun hHeld=>?_);replace hA:=hA.below Zm;clear hK K;(try simp only [Zs]);refine Zt 11 (some 16) ?_;(try simp only [Zs]);refine Zt 12 (some 28) ?_;(try simp only [Zs]);refine Zt 13 (some 29) ?_;(try simp only [Zs]);refine Zt 14 (some 30) ?_;(try simp only [Zs]);refine Zr 16 none fun K hK=>?_
   refine wp_store_any 88 _ _ rfl g_1 (mt m1) rfl rfl 88 (mt .zero) hA Zk rfl (mt_one _) (fun W' u=>?_);refine hK.out _ _ (hHeld.trans (u.bel _ hgN)) (fun hHeld=>?_);clear hK K;(try simp only [Act.put]);refine Zt 17 (some 7) ?_;(try simp only [Zs]);refine Zt 18 (some 8) ?_;(try simp only [Zs]);refine wpAnyH_done Zk ?_ _;refine NoPanic.normal ?_;go_wp2_with fail;go_meet;exact ⟨rfl,rfl,g_1,rfl,u.box,hgN,hHeld⟩
 case rest =>
 obtain ⟨rfl,rfl,R,rfl,HR,hRw,hbe⟩:=hcut;rename World=>w1
 have D1:=D0.below hbe rfl;have B1:Below W.heap.size W w1:=B0.trans (hbe.mono Zo);have R1:=R0.below hbe;have hz1:=hbe.size;clear hbe ST D0 B0 R0;have hRl:=HR.lt;have hR1l:=R1.lt;have AL:=fun W=>all15_any (S:Int) W
 go_wp2_with (go_at_call 86; (with_reducible refine (AL _).mono ?_); rintro e w2 ⟨v,rfl,ho2,hb2⟩; obtain ⟨A2,c2,rfl,hrd2⟩:=ho2.read; obtain ⟨n2,hn2⟩:∃ n2,(allN (S:Int) 16).length = n2:=⟨_,rfl⟩; rw [hn2]);have D2:=D1.below hb2 rfl;have B2:Below W.heap.size W w2:=B1.trans (hb2.mono Zo);have R2:=R1.below hb2;have HR2:=HR.below hb2;have hz2:=hb2.size;have HAM:=Zh (fun c hc=>all_lt (s:=S) hS (c:=c) hc);have HF2:Hid (recL (allN (S:Int) 16) a.F V0 = F1):=Zh (by rw [recL_all hS]; exact HF1.out);have HO2:=Zh ho2;have HRD2:=Zh hrd2;have HN2:=Zh hn2;have HD2:Hid (DutS base g L x a.m a.p (recL ((allN (S:Int) 16).take 0) a.F V0) w2):=Zh (by rw [List.take_zero,recL_nil]; exact D2);have hs16:=all_len (S:Int) 16;rw [hn2] at hs16;have HB2:=Zh B2;have hgb:=D2.gb;have hlb:=D2.lb;have hgl:=D2.ne;have hbs0:=D2.sz;clear hb2 D1 D2 B1 B2 R1 HR ho2 hrd2 hn2 AL HF1 hS;generalize allN (S:Int) 16 = cs at *;go_loopw [34] (fun i wr=>∃ j:Nat,j <= n2 /\ i = .int .i64 (j:Nat) /\ Hid (DutS base g L x a.m a.p (recL (cs.take j) a.F V0) wr) /\ Hid (Kp2 base g L w2 wr)) (fun i _=>n2 - (intOf i).toNat)
 case atStart=>exact ⟨0,Nat.zero_le _,rfl,HD2,Zh (Kp2.refl _ _ _ _)⟩
 case round =>
  clear HD2;obtain ⟨j,hj,rfl,HD,HK⟩:=hrel;obtain ⟨w3,rfl⟩:∃ w3:World,w3 = wr:=⟨_,rfl⟩;have R3:Bx w3 W.heap.size 50 #[.int .i64 k,.int .i64 y,.int .i64 z]:=HK.out.bx R2 Zo Zo Zd;have fy:w3.cell? ⟨W.heap.size,1,none⟩ = some (.int .i64 y):=R3.cell rfl;by_cases hlt:j < n2
  case pos =>
   have hlt':j < cs.length:=by rw [HN2.out]; exact hlt
   have hrd3:RdN w3 A2 cs:=by
    have hq:=HO2.out;unfold OwnN at hq;have hq2:=HK.out.row hq Zo Zo Zd;obtain ⟨A4,c4,e4,hr4⟩:=OwnN.read (show OwnN w1.heap.size w3 (.slice A2 cs.length c2) cs from hq2);simp only [Value.slice.injEq] at e4;obtain ⟨rfl,_,_⟩:=e4;exact hr4
   obtain ⟨c,hc10,hcj⟩:=HAM.out (cs.getD j 0) (by rw [List.getD_eq_getElem?_getD,List.getElem?_eq_getElem hlt']; exact List.getElem_mem hlt');obtain ⟨b2,off2,rfl,hbb2,hcell⟩:=hrd3 (nonnil hlt');have fc:=hcell j hlt';rw [hcj] at fc;have HD1:Hid (DutS base g L x a.m a.p (putF (recL (cs.take j) a.F V0) c (V0 c)) w3 -> True):=Zh fun _=>trivial
   have hst:putF (recL (cs.take j) a.F V0) c (V0 c) = recL (cs.take (j + 1)) a.F V0:=by
    rw [recL_snoc,List.take_succ_eq_append_getElem hlt'];congr 2;rw [<- hcj,List.getD_eq_getElem?_getD,List.getElem?_eq_getElem hlt'];rfl
   have hv0:V0 c = (sinceV x a.m a.p c y,y + 1):=by rw [<- HV0.out]
   rw [hv0] at hst;have HST:=Zh hst;have N1:=NT (recL (cs.take j) a.F V0) c y w3 HD.out hc10 Zo Zo;clear hst hcj hcell hv0 HD1 hrd3 NT NT2 RI f22 OV;go_wp2_with (go_at_fn 43; (refine N1.mono ?_); rintro e w4 ⟨rfl,hd4,hk4⟩; have HD4:=Zh hd4; have HK4:=Zh (HK.out.trans hk4.wide); clear hd4 hk4);go_roundw
   case rel=>exact ⟨j + 1,by omega,by go_num,Zh (by rw [<- HST.out]; exact HD4.out),HK4⟩
   case measure=>simp [intOf]; omega
  case neg =>
  obtain rfl:j = n2:=by omega
  have D3:DutS base g L x a.m a.p F1 w3:=by
   have:=HD.out;rw [List.take_of_length_le (Nat.le_of_eq HN2.out),HF2.out] at this;exact this
  have hk3:=(Kp2.of_below (base:=base) (E:=g) (L:=L) HB2.out rfl).trans HK.out;have HR3:Bx w3 R 88 (mt m1):=HK.out.bx HR2 Zo Zo Zd;have fk:w3.cell? ⟨W.heap.size,0,none⟩ = some (.int .i64 k):=R3.cell rfl;clear HD HK HO2 HRD2 HN2 HB2 HF2 HAM R2 HR2 NT fy
  first
   | (have dk:(k != 0) = false:=(by simp [hk0.out]); have hno:Hid (¬ (¬ k = 0 /\ 0 < lie)):=(Zh fun q=>q.1 hk0.out); clear hk0; obtain ⟨w4,rfl⟩:∃ w4:World,w4 = w3:=⟨_,rfl⟩; have D4:DutS base g L x a.m p1 F1 w4:=(by have hh:=D3; rw [HP1.out.2 hno.out] at hh; exact hh); have hk4:=hk3; have HR4:=HR3; have R4:=R3; clear D3 hk3 HR3 R3)
   | (have dk:(k != 0) = true:=(by simpa using hk0.out); have fl:=f22 w3 D3.sw; have dl2:¬ 0 < lie:=(by have:=hw.out; omega); have dl:decide (0 < lie) = false:=decide_eq_false dl2; have hno:Hid (¬ (¬ k = 0 /\ 0 < lie)):=(Zh fun q=>dl2 q.2); obtain ⟨w4,rfl⟩:∃ w4:World,w4 = w3:=⟨_,rfl⟩; have D4:DutS base g L x a.m p1 F1 w4:=(by have hh:=D3; rw [HP1.out.2 hno.out] at hh; exact hh); have hk4:=hk3; have HR4:=HR3; have R4:=R3; clear D3 hk3 HR3 R3)
   | (have dk:(k != 0) = true:=(by simpa using hk0.out); have fl:=f22 w3 D3.sw; have dl:decide (0 < lie) = true:=decide_eq_true hl1.out; have dl2:=hl1.out)
  go_upto_region 10 with (first
   | (go_at_call 87; go_loud ((with_reducible refine (RI _ D3.sw hl1.out).mono ?_); rintro e w4 ⟨rfl,hs4⟩; have D4:DutS base g L x a.m p1 F1 w4:=(by have hh:=D3.turned hs4; rw [HP1.out.1 ⟨hk0.out,hl1.out⟩] at hh; exact hh); have hk4:=hk3.trans (Kp2.chg hs4); have HR4:Bx w4 R 88 (mt m1):=hs4.bx HR3 Zo; have R4:=hs4.bx R3 Zo; clear hs4 D3 hk3 HR3 R3))
   | refine wpList_load_box Zv 88 _ rfl R rfl 88 (mt m1) _ HR4 Tryz.underlying88 rfl Zk ?_
   | (refine wpList_store_part Zv 88 _ _ rfl g 19 (mt m1) rfl rfl (mt_one _) _ _ D4.sw (by rw [swp_size,mt_size]; decide) Zk (fun w5 u=>?_); rw [swp_meter] at u; have D5:=D4.turned ((Chg.refl D4.sw).upd u); have hk5:=hk4.upd u (Or.inl rfl); have R5:=u.bx R4 Zo; clear u D4 hk4 HR4 R4))
  (try go_frame);have hz5:=hk5.size;go_cut [11,12,13] (fun u11 u12 u13 wx=>u13 = .int .i64 0 /\ ∃ R2 R3:Nat,u11 = .pointer (some ⟨R2,0,none⟩) /\ u12 = .pointer (some ⟨R3,0,none⟩) /\ Bx wx R2 88 (mt M) /\ Bx wx R3 139 (tn Y) /\ w5.heap.size <= R2 /\ w5.heap.size <= R3 /\ Below w5.heap.size w5 wx)
  case first =>
   have hsw:=D5.sw;have q0:w5.cell? ⟨W.heap.size,0,none⟩ = some (.int .i64 k):=R5.cell rfl;have q1:w5.cell? ⟨W.heap.size,1,none⟩ = some (.int .i64 y):=R5.cell rfl;have q2:w5.cell? ⟨W.heap.size,2,none⟩ = some (.int .i64 z):=R5.cell rfl;have e1:=wrap14 (z - y) Zo Zo;have e2:IntKind.i64.wrap (z - y - 1) = nn:=by rw [HNN.out]; exact wrap14 nn hnb0 hnb1
   refine wp_region_noPanic ?_;refine wp_region_held_drew (S:=fun w'=>Below w5.heap.size w5 w') Zk ?_ (fun hHeld=>?_)
   ·exact b_dr (Below.refl _ _)
   refine Zt 0 (some 62) ?_;(try simp only [Zs]);refine Zt 1 (some 63) ?_;(try simp only [Zs]);refine Zt 2 (some 64) ?_;(try simp only [Zs]);refine Zt 3 (some 65) (v:=.agg (bk x)) (hy:=fun w' hSw=>exec_load g 0 x _ w' rfl rfl ((Sw.rdI hsw).below hSw) Tryz.underlying23 rfl Zk) ?_;(try simp only [Zs]);refine Zt 4 (some 66) ?_;(try simp only [Zs]);refine Zt 5 (some 67) ?_;(try simp only [Zs]);refine Zt 6 (some 68) ?_;(try simp only [Zs]);refine Zt 7 (some 69) (v:=.agg (mt m1)) (hy:=fun w' hSw=>exec_load_mid g 19 (mt m1) _ w' rfl rfl (Sw.meter (hsw.below hSw)) Tryz.underlying88 rfl Zk) ?_;(try simp only [Zs]);refine Zt 8 (some 70) ?_;(try simp only [Zs]);refine Zt 9 (some 71) (hy:=by intro w' hSw; have p0:=c_cl q0 hSw; clear hSw; go_simp; try (with_reducible rfl)) ?_;(try simp only [Zs]);refine Zt 10 (some 72) ?_;(try simp only [Zs]);refine Zt 11 (some 73) (hy:=by intro w' hSw; have p0:=c_cl q2 hSw; clear hSw; go_simp; try (with_reducible rfl)) ?_;(try simp only [Zs]);refine Zt 12 (some 74) ?_;(try simp only [Zs]);refine Zt 13 (some 75) (hy:=by intro w' hSw; have p0:=c_cl q1 hSw; clear hSw; go_simp; try (with_reducible rfl)) ?_;(try simp only [Zs]);refine Zt 14 (some 76) ?_;(try simp only [Zs]);refine Zt 15 (some 77) ?_;(try simp only [Zs]);refine wpAnyH_ready (rs:=[16,21,22]) Zk (by simp) ?_;refine AllReadyH.cons (o:=⟨some 78,_,_,_,_,_⟩) rfl (fun K hK=>?_) (AllReadyH.cons (o:=⟨some 11,_,_,_,_,_⟩) rfl (fun K hK=>?_) (AllReadyH.cons (o:=⟨some 12,_,_,_,_,_⟩) rfl (fun K hK=>?_) AllReadyH.nil))
   ·
    go_simp;(go_at_call 88; (with_reducible refine (OV _).mono ?_); rintro e w7 ⟨rfl,hb7⟩);go_wp2_with fail;refine hK.out _ _ (b_cl hHeld Zl Zm) (fun hHeld=>?_);clear hK K;(try simp only [Zs]);refine Zt 17 (some 61) ?_;(try simp only [Zs]);refine Zt 18 (some 79) ?_;(try simp only [Zs]);refine Zt 19 (some 80) ?_;(try simp only [Zs]);refine Zt 20 (some 81) ?_;(try simp only [Zs]);refine wpAnyH_ready (rs:=[21,22]) Zk (by simp) ?_;refine AllReadyH.cons (o:=⟨some 11,_,_,_,_,_⟩) rfl (fun K hK=>?_) (AllReadyH.cons (o:=⟨some 12,_,_,_,_,_⟩) rfl (fun K hK=>?_) AllReadyH.nil)
    ·
     refine wp_alloc_any 88 (mt .zero) Zk (fun gM WM hg hAM hbA=>?_);have hgNM:=Nat.le_trans hHeld.size hg;refine hK.out _ _ (b_cl hHeld Zl hbA) (fun hHeld=>?_);clear hK K hbA hg;(try simp only [Zs]);refine Zr 22 (some 12) fun K hK=>?_
     refine wp_alloc_any 139 (tn zeroF) Zk (fun gF WF hg hAF hbA=>?_);have hgNF:=Nat.le_trans hHeld.size hg;have hneF:=Nat.ne_of_lt (Nat.lt_of_lt_of_le (hAM.lt) hg);replace hAM:=hAM.below hbA;refine hK.out _ _ (b_cl hHeld Zl hbA) (fun hHeld=>?_);clear hK K hbA hg;(try simp only [Zs]);refine Zr 23 none fun K hK=>?_
     refine wp_store_any 88 _ _ rfl gM (mt M) rfl rfl 88 (mt .zero) hAM Zk rfl (mt_one _) (fun W8 u8=>?_);refine hK.out _ _ (hHeld.trans (u8.bel _ hgNM)) (fun hHeld=>?_);clear hK K;(try simp only [Act.put]);replace hAF:=u8.bx hAF Zo;refine Zr 24 none fun K hK=>?_
     refine wp_store_any 139 _ _ rfl gF (tn Y) rfl rfl 139 (tn zeroF) hAF Zk rfl (tn_one _) (fun W9 u9=>?_);refine hK.out _ _ (hHeld.trans (u9.bel _ hgNF)) (fun hHeld=>?_);clear hK K;(try simp only [Act.put]);refine Zt 25 (some 13) ?_;(try simp only [Zs]);refine wpAnyH_done Zk ?_ _;refine NoPanic.normal ?_;go_wp2_with fail;go_meet;exact ⟨rfl,gM,gF,rfl,rfl,u9.bx u8.box Zo,u9.box,hgNM,hgNF,hHeld⟩
    ·
     refine wp_alloc_any 139 (tn zeroF) Zk (fun gF WF hg hAF hbA=>?_);have hgNF:=Nat.le_trans hHeld.size hg;refine hK.out _ _ (b_cl hHeld Zl hbA) (fun hHeld=>?_);clear hK K hbA hg;(try simp only [Zs]);refine Zr 21 (some 11) fun K hK=>?_
     refine wp_alloc_any 88 (mt .zero) Zk (fun gM WM hg hAM hbA=>?_);have hgNM:=Nat.le_trans hHeld.size hg;have hneM:=Nat.ne_of_lt (Nat.lt_of_lt_of_le (hAF.lt) hg);replace hAF:=hAF.below hbA;refine hK.out _ _ (b_cl hHeld Zl hbA) (fun hHeld=>?_);clear hK K hbA hg;(try simp only [Zs]);refine Zr 23 none fun K hK=>?_
     refine wp_store_any 88 _ _ rfl gM (mt M) rfl rfl 88 (mt .zero) hAM Zk rfl (mt_one _) (fun W8 u8=>?_);refine hK.out _ _ (hHeld.trans (u8.bel _ hgNM)) (fun hHeld=>?_);clear hK K;(try simp only [Act.put]);replace hAF:=u8.bx hAF Zo;refine Zr 24 none fun K hK=>?_
     refine wp_store_any 139 _ _ rfl gF (tn Y) rfl rfl 139 (tn zeroF) hAF Zk rfl (tn_one _) (fun W9 u9=>?_);refine hK.out _ _ (hHeld.trans (u9.bel _ hgNF)) (fun hHeld=>?_);clear hK K;(try simp only [Act.put]);refine Zt 25 (some 13) ?_;(try simp only [Zs]);refine wpAnyH_done Zk ?_ _;refine NoPanic.normal ?_;go_wp2_with fail;go_meet;exact ⟨rfl,gM,gF,rfl,rfl,u9.bx u8.box Zo,u9.box,hgNM,hgNF,hHeld⟩
   ·
    refine wp_alloc_any 88 (mt .zero) Zk (fun gM WM hg hAM hbA=>?_);have hgNM:=Nat.le_trans hHeld.size hg;refine hK.out _ _ (b_cl hHeld Zl hbA) (fun hHeld=>?_);clear hK K hbA hg;(try simp only [Zs]);refine wpAnyH_ready (rs:=[16,22]) Zk (by simp) ?_;refine AllReadyH.cons (o:=⟨some 78,_,_,_,_,_⟩) rfl (fun K hK=>?_) (AllReadyH.cons (o:=⟨some 12,_,_,_,_,_⟩) rfl (fun K hK=>?_) AllReadyH.nil)
    ·
     go_simp;(go_at_call 88; (with_reducible refine (OV _).mono ?_); rintro e w7 ⟨rfl,hb7⟩);go_wp2_with fail;refine hK.out _ _ (b_cl hHeld Zl Zm) (fun hHeld=>?_);replace hAM:=hAM.below Zm;clear hK K;(try simp only [Zs]);refine Zt 17 (some 61) ?_;(try simp only [Zs]);refine Zt 18 (some 79) ?_;(try simp only [Zs]);refine Zt 19 (some 80) ?_;(try simp only [Zs]);refine Zt 20 (some 81) ?_;(try simp only [Zs]);refine Zr 22 (some 12) fun K hK=>?_
     refine wp_alloc_any 139 (tn zeroF) Zk (fun gF WF hg hAF hbA=>?_);have hgNF:=Nat.le_trans hHeld.size hg;have hneF:=Nat.ne_of_lt (Nat.lt_of_lt_of_le (hAM.lt) hg);replace hAM:=hAM.below hbA;refine hK.out _ _ (b_cl hHeld Zl hbA) (fun hHeld=>?_);clear hK K hbA hg;(try simp only [Zs]);refine Zr 23 none fun K hK=>?_
     refine wp_store_any 88 _ _ rfl gM (mt M) rfl rfl 88 (mt .zero) hAM Zk rfl (mt_one _) (fun W8 u8=>?_);refine hK.out _ _ (hHeld.trans (u8.bel _ hgNM)) (fun hHeld=>?_);clear hK K;(try simp only [Act.put]);replace hAF:=u8.bx hAF Zo;refine Zr 24 none fun K hK=>?_
     refine wp_store_any 139 _ _ rfl gF (tn Y) rfl rfl 139 (tn zeroF) hAF Zk rfl (tn_one _) (fun W9 u9=>?_);refine hK.out _ _ (hHeld.trans (u9.bel _ hgNF)) (fun hHeld=>?_);clear hK K;(try simp only [Act.put]);refine Zt 25 (some 13) ?_;(try simp only [Zs]);refine wpAnyH_done Zk ?_ _;refine NoPanic.normal ?_;go_wp2_with fail;go_meet;exact ⟨rfl,gM,gF,rfl,rfl,u9.bx u8.box Zo,u9.box,hgNM,hgNF,hHeld⟩
    ·
     refine wp_alloc_any 139 (tn zeroF) Zk (fun gF WF hg hAF hbA=>?_);have hgNF:=Nat.le_trans hHeld.size hg;have hneF:=Nat.ne_of_lt (Nat.lt_of_lt_of_le (hAM.lt) hg);replace hAM:=hAM.below hbA;refine hK.out _ _ (b_cl hHeld Zl hbA) (fun hHeld=>?_);clear hK K hbA hg;(try simp only [Zs]);refine Zr 16 (some 78) fun K hK=>?_
     go_simp;(go_at_call 88; (with_reducible refine (OV _).mono ?_); rintro e w7 ⟨rfl,hb7⟩);go_wp2_with fail;refine hK.out _ _ (b_cl hHeld Zl Zm) (fun hHeld=>?_);replace hAM:=hAM.below Zm;replace hAF:=hAF.below Zm;clear hK K;(try simp only [Zs]);refine Zt 17 (some 61) ?_;(try simp only [Zs]);refine Zt 18 (some 79) ?_;(try simp only [Zs]);refine Zt 19 (some 80) ?_;(try simp only [Zs]);refine Zt 20 (some 81) ?_;(try simp only [Zs]);refine Zr 23 none fun K hK=>?_
     refine wp_store_any 88 _ _ rfl gM (mt M) rfl rfl 88 (mt .zero) hAM Zk rfl (mt_one _) (fun W8 u8=>?_);refine hK.out _ _ (hHeld.trans (u8.bel _ hgNM)) (fun hHeld=>?_);clear hK K;(try simp only [Act.put]);replace hAF:=u8.bx hAF Zo;refine Zr 24 none fun K hK=>?_
     refine wp_store_any 139 _ _ rfl gF (tn Y) rfl rfl 139 (tn zeroF) hAF Zk rfl (tn_one _) (fun W9 u9=>?_);refine hK.out _ _ (hHeld.trans (u9.bel _ hgNF)) (fun hHeld=>?_);clear hK K;(try simp only [Act.put]);refine Zt 25 (some 13) ?_;(try simp only [Zs]);refine wpAnyH_done Zk ?_ _;refine NoPanic.normal ?_;go_wp2_with fail;go_meet;exact ⟨rfl,gM,gF,rfl,rfl,u9.bx u8.box Zo,u9.box,hgNM,hgNF,hHeld⟩
   ·
    refine wp_alloc_any 139 (tn zeroF) Zk (fun gF WF hg hAF hbA=>?_);have hgNF:=Nat.le_trans hHeld.size hg;refine hK.out _ _ (b_cl hHeld Zl hbA) (fun hHeld=>?_);clear hK K hbA hg;(try simp only [Zs]);refine wpAnyH_ready (rs:=[16,21]) Zk (by simp) ?_;refine AllReadyH.cons (o:=⟨some 78,_,_,_,_,_⟩) rfl (fun K hK=>?_) (AllReadyH.cons (o:=⟨some 11,_,_,_,_,_⟩) rfl (fun K hK=>?_) AllReadyH.nil)
    ·
     go_simp;(go_at_call 88; (with_reducible refine (OV _).mono ?_); rintro e w7 ⟨rfl,hb7⟩);go_wp2_with fail;refine hK.out _ _ (b_cl hHeld Zl Zm) (fun hHeld=>?_);replace hAF:=hAF.below Zm;clear hK K;(try simp only [Zs]);refine Zt 17 (some 61) ?_;(try simp only [Zs]);refine Zt 18 (some 79) ?_;(try simp only [Zs]);refine Zt 19 (some 80) ?_;(try simp only [Zs]);refine Zt 20 (some 81) ?_;(try simp only [Zs]);refine Zr 21 (some 11) fun K hK=>?_
     refine wp_alloc_any 88 (mt .zero) Zk (fun gM WM hg hAM hbA=>?_);have hgNM:=Nat.le_trans hHeld.size hg;have hneM:=Nat.ne_of_lt (Nat.lt_of_lt_of_le (hAF.lt) hg);replace hAF:=hAF.below hbA;refine hK.out _ _ (b_cl hHeld Zl hbA) (fun hHeld=>?_);clear hK K hbA hg;(try simp only [Zs]);refine Zr 23 none fun K hK=>?_
     refine wp_store_any 88 _ _ rfl gM (mt M) rfl rfl 88 (mt .zero) hAM Zk rfl (mt_one _) (fun W8 u8=>?_);refine hK.out _ _ (hHeld.trans (u8.bel _ hgNM)) (fun hHeld=>?_);clear hK K;(try simp only [Act.put]);replace hAF:=u8.bx hAF Zo;refine Zr 24 none fun K hK=>?_
     refine wp_store_any 139 _ _ rfl gF (tn Y) rfl rfl 139 (tn zeroF) hAF Zk rfl (tn_one _) (fun W9 u9=>?_);refine hK.out _ _ (hHeld.trans (u9.bel _ hgNF)) (fun hHeld=>?_);clear hK K;(try simp only [Act.put]);refine Zt 25 (some 13) ?_;(try simp only [Zs]);refine wpAnyH_done Zk ?_ _;refine NoPanic.normal ?_;go_wp2_with fail;go_meet;exact ⟨rfl,gM,gF,rfl,rfl,u9.bx u8.box Zo,u9.box,hgNM,hgNF,hHeld⟩
    ·
     refine wp_alloc_any 88 (mt .zero) Zk (fun gM WM hg hAM hbA=>?_);have hgNM:=Nat.le_trans hHeld.size hg;have hneM:=Nat.ne_of_lt (Nat.lt_of_lt_of_le (hAF.lt) hg);replace hAF:=hAF.below hbA;refine hK.out _ _ (b_cl hHeld Zl hbA) (fun hHeld=>?_);clear hK K hbA hg;(try simp only [Zs]);refine Zr 16 (some 78) fun K hK=>?_
     go_simp;(go_at_call 88; (with_reducible refine (OV _).mono ?_); rintro e w7 ⟨rfl,hb7⟩);go_wp2_with fail;refine hK.out _ _ (b_cl hHeld Zl Zm) (fun hHeld=>?_);replace hAF:=hAF.below Zm;replace hAM:=hAM.below Zm;clear hK K;(try simp only [Zs]);refine Zt 17 (some 61) ?_;(try simp only [Zs]);refine Zt 18 (some 79) ?_;(try simp only [Zs]);refine Zt 19 (some 80) ?_;(try simp only [Zs]);refine Zt 20 (some 81) ?_;(try simp only [Zs]);refine Zr 23 none fun K hK=>?_
     refine wp_store_any 88 _ _ rfl gM (mt M) rfl rfl 88 (mt .zero) hAM Zk rfl (mt_one _) (fun W8 u8=>?_);refine hK.out _ _ (hHeld.trans (u8.bel _ hgNM)) (fun hHeld=>?_);clear hK K;(try simp only [Act.put]);replace hAF:=u8.bx hAF Zo;refine Zr 24 none fun K hK=>?_
     refine wp_store_any 139 _ _ rfl gF (tn Y) rfl rfl 139 (tn zeroF) hAF Zk rfl (tn_one _) (fun W9 u9=>?_);refine hK.out _ _ (hHeld.trans (u9.bel _ hgNF)) (fun hHeld=>?_);clear hK K;(try simp only [Act.put]);refine Zt 25 (some 13) ?_;(try simp only [Zs]);refine wpAnyH_done Zk ?_ _;refine NoPanic.normal ?_;go_wp2_with fail;go_meet;exact ⟨rfl,gM,gF,rfl,rfl,u9.bx u8.box Zo,u9.box,hgNM,hgNF,hHeld⟩
  case rest =>
  obtain ⟨rfl,R2,R3,rfl,rfl,HM6,HF6,hR2,hR3,hbe⟩:=hcut;rename World=>w6
  have D6:=D5.below hbe rfl;have hk6:=hk5.trans (Kp2.of_below hbe rfl);have hz6:=hbe.size;rw [<- combT_zero x m1.dawn m1.sabbath p1 F1 Y] at D6;clear D5 hk5 hbe OV R5 RI f22;go_wp2_with (refine wpList_load_box Zv 139 _ rfl R3 rfl 139 (tn Y) _ HF6 Tryz.underlying139 rfl Zk ?_);clear HF6;go_loopw [83] (fun i wr=>∃ c:Nat,c <= 10 /\ i = .int .i64 (c:Nat) /\ Hid (DutS base g L x m1 p1 (combT x m1.dawn m1.sabbath p1 F1 Y c) wr) /\ Hid (Kp2 base g L w6 wr)) (fun i _=>10 - (intOf i).toNat)
  case atStart=>exact ⟨0,Nat.zero_le _,rfl,Zh D6,Zh (Kp2.refl _ _ _ _)⟩
  case round =>
   clear D6;obtain ⟨c,hc,rfl,HD,HK⟩:=hrel;obtain ⟨w7,rfl⟩:∃ w7:World,w7 = wr:=⟨_,rfl⟩;by_cases hlt:c < 10
   case neg =>
    obtain rfl:c = 10:=by omega
    have D7:=HD.out;rw [combT_ten HY1.out] at D7;have hk7:=hk6.trans HK.out;have HM7:Bx w7 R2 88 (mt M):=HK.out.bx HM6 Zo Zo Zd;clear HD HK NT2
    go_wp2_with (first
     | refine wpList_load_box Zv 88 _ rfl R2 rfl 88 (mt M) _ HM7 Tryz.underlying88 rfl Zk ?_
     | (refine wpList_store_part Zv 88 _ _ rfl g 19 (mt M) rfl rfl (mt_one _) _ _ D7.sw (by rw [swp_size,mt_size]; decide) Zk (fun w8 u=>?_); rw [swp_meter] at u))
    refine bodyPost_end (results_none Tryz.results47 _ _ _) rfl ⟨rfl,D7.turned ((Chg.refl D7.sw).upd u),hk7.upd u (Or.inl rfl)⟩
   have hi0:=fun W=>fi_index16 Y W c hlt
   have hyb:=HY2.out c;obtain ⟨v,hv⟩:∃ v,Y c = v:=⟨_,rfl⟩;rw [hv] at hi0 hyb;by_cases h0:0 <= v
   case neg =>
    have d0:decide (0 <= v) = false:=decide_eq_false h0;have hst:=combT_no (x:=x) (d:=m1.dawn) (s:=m1.sabbath) (p:=p1) (F:=F1) (y:=Y) (c:=c) (by rw [hv]; exact h0);have HST:=Zh hst;clear hst hv NT2;go_wp2;go_roundw
    case rel=>exact ⟨c + 1,by omega,by go_num,Zh (by rw [<- HST.out]; exact HD.out),HK⟩
    case measure=>simp [intOf]; omega
   have d0:decide (0 <= v) = true:=decide_eq_true h0;have hst:=combT_yes (x:=x) (d:=m1.dawn) (s:=m1.sabbath) (p:=p1) (F:=F1) (y:=Y) (c:=c) (by rw [hv]; exact h0);rw [hv,HEV.out c] at hst;have HST:=Zh hst;have N2:=NT2 _ c v w7 HD.out hlt h0 hyb;clear hst hv NT2;go_wp2_with (go_at_fn 43; (refine N2.mono ?_); rintro e w8 ⟨rfl,hd8,hk8⟩; have HD8:=Zh hd8; have HK8:=Zh (HK.out.trans hk8.wide); clear hd8 hk8);go_roundw
   case rel=>exact ⟨c + 1,by omega,by go_num,Zh (by rw [<- HST.out]; exact HD8.out),HK8⟩
   case measure=>simp [intOf]; omega):p:=h
set_option maxRecDepth 100000 in
set_option maxHeartbeats 16000000 in
theorem record16_rest (base g L:Nat) (x:Nat -> Int) (a:Au) (k y z:Int) (W:World) (h:DutS base g L x a.m a.p a.F W) (hok:a.Ok y) (hx:May x) (hL18:1 <= x 18) (hk:0 <= k /\ k < 4) (hk0:Hid (k = 0)) (hb:0 <= y /\ y < z /\ z <= 40320) :
  Calls Tryz.prog 47 #[.pointer (some ⟨g,0,none⟩),.agg #[.int .i64 k,.int .i64 y,.int .i64 z],.func (.func 43) #[] #[.pointer (some ⟨L,0,none⟩),.pointer (some ⟨g,0,none⟩)]] W fun e W'=>e = .returned (.tuple #[]) /\
   DutS base g L x (a.run x (List.replicate (z - y).toNat k)).m (a.run x (List.replicate (z - y).toNat k)).p (a.run x (List.replicate (z - y).toNat k)).F W' /\ Kp2 base g L W W':=Zrec
end Go.Proofs.YtiamnbddbmgffaaGreatDoor
