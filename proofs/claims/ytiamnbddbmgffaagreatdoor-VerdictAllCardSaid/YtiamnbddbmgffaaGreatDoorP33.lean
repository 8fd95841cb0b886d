/- Texts of the proofs of VerdictAudits, VerdictAll, VerdictRising, pressed: TrailFollow, SortNew, TrailAudit. Conditions: as each theorem says. -/
import Derived.Test.YtiamnbddbmgffaaGreatDoorRows
import Derived.Test.YtiamnbddbmgffaaGreatDoorP32
namespace Go.Proofs.YtiamnbddbmgffaaGreatDoor
open Go.RowKit
set_option linter.unusedVariables false
set_option maxRecDepth 20000 in
set_option maxHeartbeats 2000000 in
theorem follow20_any (g:Nat) (cb:Array Value) (eg:∀ args w,(callFunc g args).run Tryz.prog w = .ok (.enter g args) w) (A:Option Addr) (n c:Nat) (l:List Tk) (hn:l.length = n) (i x y:Int) (A':Option Addr) (n' c':Nat) (r:List Rc) (hn':r.length = n')
  (n0:Nat) (I:Nat -> World -> Prop) (w:World) (hK:RdKn n0 w A l) (hR:RdRn n0 w A' r) (h0:n0 <= w.heap.size) (few:Few l) (hcn:n <= c) (hz:A = none -> c = 0) (hl:n' <= 4611686018427387904) (ck:checkT l = 0) (fit:Fits l (i,x,y)) (tl:Tl (beg r) r)
  (hd:Does g cb n0 w.heap.size I l (kindsV r) (beg r) (i,x,y)) (hI:I 0 w) :
  Calls Tryz.prog 51 #[.slice A n c,.agg #[.int .i64 i,.int .i64 x,.int .i64 y],.slice A' n' c',.func (.func g) #[] cb] w fun e w' =>
   e = .returned (.agg (sp3 (runS l (kindsV r) (beg r) ((i,x,y),none4)).1)) /\ I (kindsV r).length w' /\ KeepT n0 w w':=by
 obtain ⟨ok,_⟩:=checkt_zero ck;have tb:=tl.bd;have HD:=Zh hd;have HK:=Zh hK;have HR:=Zh hR;have HN:=Zh hn;have HN':=Zh hn';have HF:=Zh fit;have OK:=Zh ok;have CKT:=Zh (And.intro ck (And.intro few (And.intro hcn hz)));have TL:=Zh tl;have S0:Bx ((w.alloc (.cells #[.int .i64 i,.int .i64 x,.int .i64 y] 27)).alloc (.cells #[.int .i64 0,.int .i64 0,.int .i64 0] 27)) w.heap.size 27 #[.int .i64 i,.int .i64 x,.int .i64 y]:=(Bx.new (W:=w) _ _ rfl).alloc _;have Q0:Bx ((w.alloc (.cells #[.int .i64 i,.int .i64 x,.int .i64 y] 27)).alloc (.cells #[.int .i64 0,.int .i64 0,.int .i64 0] 27)) (w.heap.size + 1) 27 #[.int .i64 0,.int .i64 0,.int .i64 0]:=Bx.new (W:=w.alloc (.cells #[.int .i64 i,.int .i64 x,.int .i64 y] 27)) _ _ (by simp);have B0:Below w.heap.size w ((w.alloc (.cells #[.int .i64 i,.int .i64 x,.int .i64 y] 27)).alloc (.cells #[.int .i64 0,.int .i64 0,.int .i64 0] 27)):=Zq;have I0:I 0 ((w.alloc (.cells #[.int .i64 i,.int .i64 x,.int .i64 y] 27)).alloc (.cells #[.int .i64 0,.int .i64 0,.int .i64 0] 27)):=hd.bel 0 _ _ hI B0;have HS0:=Zh S0;have HQ0:=Zh Q0;have HI0:=Zh I0;have HB0:=Zh (KeepT.of_below B0 h0);clear hd hK hR hn hn' fit ok ck few hcn hz tl S0 Q0 B0 I0 hI;go_enter Tryz.func51,Tryz.ntmps51;go_upto_region 1 with fail
 generalize ((w.alloc (.cells #[.int .i64 i,.int .i64 x,.int .i64 y] 27)).alloc (.cells #[.int .i64 0,.int .i64 0,.int .i64 0] 27)) = W1 at *;go_wp2;go_loopw [15] (fun s15 wr=>∃ (kk ii:Nat) (a u v:Int),kk <= n' /\ s15 = .int .i64 (kk:Int) /\ Hid ((kindsV (r.take kk)).length = ii) /\ Hid ((runS l ((kindsV r).take (ii)) (beg r) ((i,x,y),none4)).1 = (a,u,v)) /\ Hid (I ii wr) /\ Bx wr w.heap.size 27 #[.int .i64 a,.int .i64 u,.int .i64 v] /\ Bx wr (w.heap.size + 1) 27 #[.int .i64 0,.int .i64 0,.int .i64 0] /\ KeepT n0 w wr) (fun s15 _=>n' - (intOf s15).toNat)
 case atStart=>exact ⟨0,0,i,x,y,Nat.zero_le _,rfl,Zh (by simp [kindsV]),Zh rfl,HI0,HS0.out,HQ0.out,HB0.out⟩
 case round =>
  clear HI0 HS0 HQ0 HB0;obtain ⟨kk,ii,a,u,v,hkk,rfl,HII,HSP,HI,BS,BQ,KT⟩:=hrel;obtain ⟨w2,rfl⟩:∃ w2:World,w2 = wr:=⟨_,rfl⟩;have HKT:=Zh KT;have HBS:=Zh BS;have HBQ:=Zh BQ;clear KT BS BQ;by_cases hlt:kk < n'
  ·obtain ⟨b,off,q,y1,z1,rfl,hbb,c0,c1,c2,hs⟩:=(HR.out.below HKT.out.bel).rd.at_ (k:=kk) (by rw [HN'.out]; exact hlt)
   have hq:=hs.out;have HSQ:=hs;have bd:=TL.out.at_ kk (by rw [HN'.out]; exact hlt);rw [hq] at bd;obtain ⟨⟨q0,q3⟩,y0,yz,z3⟩:=bd;simp only at q0 q3 y0 yz z3;have HY:=Zh (tl_begins TL.out (by rw [HN'.out]; exact hlt) hq);clear hs hq tb;have R2:Bx (w2.alloc (.cells #[.int .i64 q,.int .i64 y1,.int .i64 z1] 50)) w2.heap.size 50 #[.int .i64 q,.int .i64 y1,.int .i64 z1]:=Bx.new (W:=w2) _ _ rfl;have HR2:=Zh R2;have HS2:=Zh (HBS.out.alloc (.cells #[.int .i64 q,.int .i64 y1,.int .i64 z1] 50));have HQ2:=Zh (HBQ.out.alloc (.cells #[.int .i64 q,.int .i64 y1,.int .i64 z1] 50));have HI2:=Zh (HD.out.bel ii _ _ HI.out (b_al (Below.refl _ _) Zl (.cells #[.int .i64 q,.int .i64 y1,.int .i64 z1] 50)));have HK2:=Zh (HKT.out.below (b_al (Below.refl _ _) Zl (.cells #[.int .i64 q,.int .i64 y1,.int .i64 z1] 50)) h0);have lt2:=HBQ.out.lt;clear R2 HI HBS HBQ HKT;obtain ⟨gr,hgr⟩:∃ gr,w2.heap.size = gr:=⟨_,rfl⟩;go_upto_region 4 with fail
   rw [hgr] at HR2;have hlg:w.heap.size + 1 < gr:=by omega
   clear lt2 c0 c1 c2 hgr;generalize (w2.alloc (.cells #[.int .i64 q,.int .i64 y1,.int .i64 z1] 50)) = w3 at *;have r1:=HR2.out.cell (k:=1) rfl;have lr:=HR2.out.lt;go_wp2;clear r1 lr;go_loopw [11] (fun s11 w4=>∃ (d:Nat) (a u v:Int),y1 + (d:Int) <= z1 /\ s11 = .int .i64 (y1 + (d:Int)) /\ Hid ((runS l ((kindsV r).take (ii + d)) (beg r) ((i,x,y),none4)).1 = (a,u,v)) /\ Hid (I (ii + d) w4) /\ Bx w4 w.heap.size 27 #[.int .i64 a,.int .i64 u,.int .i64 v] /\ Bx w4 (w.heap.size + 1) 27 #[.int .i64 0,.int .i64 0,.int .i64 0] /\ Bx w4 gr 50 #[.int .i64 q,.int .i64 y1,.int .i64 z1] /\ KeepT n0 w w4) (fun s11 _=>(z1 - intOf s11).toNat)
   case atStart=>exact ⟨0,a,u,v,by omega,by simp,HSP,HI2,HS2.out,HQ2.out,HR2.out,HK2.out⟩
   case round =>
    clear HSP HI2 HS2 HQ2 HR2 HK2;obtain ⟨d,a,u,v,hd,rfl,HSP,HI,BS,BQ,BR,KT⟩:=hrel;obtain ⟨w4,rfl⟩:∃ w4:World,w4 = wr:=⟨_,rfl⟩;have r2:=BR.cell (k:=2) rfl;have lr:=BR.lt;have HKT:=Zh KT;have HBS:=Zh BS;have HBQ:=Zh BQ;have HBR:=Zh BR;clear KT BS BQ BR;by_cases hlt2:y1 + (d:Int) < z1
    ·have FT:=runS_fits OK.out ((kindsV r).take (ii + d)) (beg r) ((i,x,y),none4) HF.out
     rw [HSP.out] at FT;obtain ⟨ck,few,hcn,hz⟩:=CKT.out;obtain ⟨p,hp⟩:∃ p,farV l (a,u,v) q = p:=⟨_,rfl⟩;have p0:0 < p:=by rw [<- hp]; exact far_pos
     have p1:p <= 40320:=by rw [<- hp]; exact far_hi OK.out FT
     obtain ⟨bb,hbb2⟩:∃ bb,min z1 (y1 + (d:Int) + p) = bb:=⟨_,rfl⟩;obtain ⟨nn,hnn⟩:∃ nn:Nat,bb = y1 + (d:Int) + (nn:Int):=⟨(bb - (y1 + (d:Int))).toNat,by omega⟩;have hn0:0 < nn:=by omega
     have hPC:Pc l (a,u,v) q nn:=far_pc hn0 (by rw [hp]; omega);have hal:aloneV q (y1 + (d:Int)) bb = 0:=alone_zero.2 ⟨⟨q0,q3⟩,by omega⟩;obtain ⟨⟨⟨a2,u2,v2⟩,f⟩,hRK⟩:∃ X:Pt × Fs,runK l q nn (y1 + (d:Int)) ((a,u,v),none4) = X:=⟨_,rfl⟩;have CF:=fun W (h:RdK W A l)=>far20_any A n c l HN.out a u v q W h OK.out FT
     rw [hp] at CF;have CO:=fun W (h:RdK W A l)=>over20_any A n c l HN.out a u v q (y1 + (d:Int)) bb W h few hcn hz ck FT nn hPC hal hnn (a2,u2,v2) f hRK
     have hTP:=kinds_piece (by rw [HN'.out]; exact hlt) HSQ.out HII.out (d:=d) (n:=nn) Zo
     have hLE:ii + d + nn <= (kindsV r).length:=by
      have e1:=congrArg List.length hTP;rw [List.length_append,List.length_replicate,List.length_take,List.length_take] at e1;omega
     have hh:(beg r) + ((ii + d:Nat):Int) = y1 + (d:Int):=by have:=HY.out; rw [HII.out] at this; omega
     have HRK:=Zh (show runK l q nn (beg r + ((ii + d:Nat):Int)) ((a,u,v),none4) = ((a2,u2,v2),f) by rw [hh]; exact hRK);have HRS:=Zh (show runS l ((kindsV r).take (ii + d)) (beg r) ((i,x,y),none4) = ((a,u,v),(runS l ((kindsV r).take (ii + d)) (beg r) ((i,x,y),none4)).2) by rw [<- HSP.out]);have HNS:=Zh (run_piece (st:=((i,x,y),none4)) Zo hTP HSP.out HRK.out);have HTP:=Zh hTP;have HLE:=Zh hLE;have HPC:=Zh hPC;have HNN:=Zh hn0;have HBB:=Zh hnn.symm;have HMN:=Zh hbb2;have HK4:=Zh (HK.out.below HKT.out.bel).rd;have r0:=HBR.out.cell (k:=0) rfl;have hw1:IntKind.i64.wrap (y1 + (d:Int) + p) = y1 + (d:Int) + p:=IntWalk.i64_in _ ⟨by omega,by omega⟩;clear FT ck few hcn hz hp hnn hPC hal hRK hTP hLE hh hbb2;go_upto_region 6 with fail
     refine wp_region_noPanic ?_;refine wp_region_held_drew (S:=fun w'=>Below w4.heap.size w4 w') Zk ?_ (fun hHeld=>?_)
     ·exact b_dr (Below.refl _ _)
     refine Zt 0 (some 25) ?_;(try simp only [Zs]);refine Zt 1 (some 26) (v:=.agg #[.int .i64 a,.int .i64 u,.int .i64 v]) (hy:=fun w' hSw=>exec_load_box (w.heap.size) 27 #[.int .i64 a,.int .i64 u,.int .i64 v] _ w' rfl rfl (HBS.out.below hSw) Tryz.underlying27 rfl size_spot) ?_;(try simp only [Zs]);refine Zt 2 (some 27) ?_;(try simp only [Zs]);refine Zt 3 (some 28) (hy:=by intro w' hSw; have:=c_cl r0 hSw; clear hSw; go_simp; try (with_reducible rfl)) ?_;(try simp only [Zs]);refine Zt 4 (some 29) ?_;(try simp only [Zs]);refine Zt 5 (some 30) ?_;(try simp only [Zs]);refine Zt 6 (some 31) (hy:=by intro w' hSw; have:=c_cl r2 hSw; clear hSw; go_simp; try (with_reducible rfl)) ?_;(try simp only [Zs]);refine Zt 7 (some 32) ?_;(try simp only [Zs]);refine Zt 8 (some 33) ?_;(try simp only [Zs]);refine Zt 9 (some 34) (v:=.agg #[.int .i64 a,.int .i64 u,.int .i64 v]) (hy:=fun w' hSw=>exec_load_box (w.heap.size) 27 #[.int .i64 a,.int .i64 u,.int .i64 v] _ w' rfl rfl (HBS.out.below hSw) Tryz.underlying27 rfl size_spot) ?_;(try simp only [Zs]);refine Zt 10 (some 35) ?_;(try simp only [Zs]);refine Zt 11 (some 36) (hy:=by intro w' hSw; have:=c_cl r0 hSw; clear hSw; go_simp; try (with_reducible rfl)) ?_;(try simp only [Zs]);refine wpAnyH_ready (rs:=[12,17]) Zk (by simp) ?_;refine AllReadyH.cons (o:=⟨some 37,_,_,_,_,_⟩) rfl (fun K hK=>?_) (AllReadyH.cons (o:=⟨some 12,_,_,_,_,_⟩) rfl (fun K hK=>?_) AllReadyH.nil)
     ·
      go_simp;(go_at_call 95; refine (CF _ (HK4.out.below hHeld)).mono ?_; rintro e wf ⟨rfl,hbf⟩);go_wp2_with fail;refine hK.out _ _ (b_cl hHeld Zl Zm) (fun hHeld=>?_);clear hK K;(try simp only [Zs]);refine Zt 13 (some 38) ?_;(try simp only [Zs]);refine Zt 14 (some 39) (v:=.int .i64 bb) (hy:=fun w' hSw=>(by rw [<- HMN.out]; go_simp)) ?_;(try simp only [Zs]);refine Zt 15 (some 40) (v:=.agg #[.int .i64 q,.int .i64 (y1 + (d:Int)),.int .i64 bb]) (hy:=fun w' hSw=>exec_build _ _ rfl Zk) ?_;(try simp only [Zs]);refine wpAnyH_ready (rs:=[16,17]) Zk (by simp) ?_;refine AllReadyH.cons (o:=⟨some 41,_,_,_,_,_⟩) rfl (fun K hK=>?_) (AllReadyH.cons (o:=⟨some 12,_,_,_,_,_⟩) rfl (fun K hK=>?_) AllReadyH.nil)
      ·
       go_simp;(go_at_call 94; refine (CO _ (HK4.out.below hHeld)).mono ?_; rintro e wo ⟨rfl,hbo⟩);go_wp2_with fail;refine hK.out _ _ (b_cl hHeld Zl Zm) (fun hHeld=>?_);clear hK K;(try simp only [Zs]);refine Zr 17 (some 12) fun K hK=>?_
       refine wp_alloc_any 102 (#[.int .i64 0,.int .i64 0,.int .i64 0,.int .i64 0,.int .i64 0,.int .i64 0,.int .i64 0,.int .i64 0,.int .i64 0,.int .i64 0,.int .i64 0,.int .i64 0,.int .i64 0]) Zk (fun g_ W' hg hA hbA=>?_);have hgN:=Nat.le_trans hHeld.size hg;refine hK.out _ _ (b_cl hHeld Zl hbA) (fun hHeld=>?_);clear hK K hbA hg;(try simp only [Zs]);refine Zr 18 none fun K hK=>?_
       refine wp_store_any 102 _ _ rfl g_ ((pc13 q (y1 + (d:Int)) bb (a,u,v) (a2,u2,v2) f)) rfl rfl 102 (#[.int .i64 0,.int .i64 0,.int .i64 0,.int .i64 0,.int .i64 0,.int .i64 0,.int .i64 0,.int .i64 0,.int .i64 0,.int .i64 0,.int .i64 0,.int .i64 0,.int .i64 0]) hA Zk rfl (pc13_one _ _ _ _ _ _) (fun W' u=>?_);refine hK.out _ _ (hHeld.trans (u.bel _ hgN)) (fun hHeld=>?_);clear hK K;(try simp only [Act.put]);refine wpAnyH_done Zk ?_ _;refine NoPanic.normal ?_;have HB6:=Zh hHeld;have HP6:=Zh u.box;have HI6:=Zh (HD.out.bel _ _ _ HI.out hHeld);have HKT6:=Zh (HKT.out.below hHeld h0);have HBS6:=Zh (HBS.out.below hHeld);have HBQ6:=Zh (HBQ.out.below hHeld);have HBR6:=Zh (HBR.out.below hHeld);have ST:=HD.out.step _ _ _ _ _ _ _ W' HI6.out HNN.out HLE.out HTP.out HRS.out HPC.out HRK.out;have hh:(beg r) + ((ii + d:Nat):Int) = y1 + (d:Int):=by have:=HY.out; have:=HII.out; omega
       rw [hh,HBB.out] at ST;have lg:w.heap.size < g_:=Nat.lt_of_lt_of_le HBS.out.lt hgN;clear u hHeld hA hgN hh
       go_upto_region 8 with (first
        | (refine wpList_load_box Zv 102 _ rfl g_ rfl 102 (pc13 q (y1 + (d:Int)) bb (a,u,v) (a2,u2,v2) f) _ HP6.out Tryz.underlying102 rfl size_piece ?_)
        | (go_at_fn g; refine ST.mono ?_; rintro e w7 ⟨rfl,hI7,hk7⟩))
       have HP7:=Zh (hk7.box _ _ _ HP6.out (Or.inr (Or.inr rfl)));have HBS7:=Zh (hk7.box _ _ _ HBS6.out (Or.inl rfl));have HBQ7:=Zh (hk7.box _ _ _ HBQ6.out (Or.inl rfl));have HBR7:=Zh (hk7.box _ _ _ HBR6.out (Or.inr (Or.inl rfl)));have HKT7:=Zh (HKT6.out.trans hk7);have HI7:=Zh hI7;clear ST hI7 hk7 HI6 HP6 HBS6 HBQ6 HBR6 HKT6;have p2:w7.cell? ⟨g_,2,none⟩ = some (.int .i64 bb):=HP7.out.cell (k:=2) rfl;have p6:w7.cell? ⟨g_,6,none⟩ = some (.int .i64 a2):=HP7.out.cell (k:=6) rfl;have p7:w7.cell? ⟨g_,7,none⟩ = some (.int .i64 u2):=HP7.out.cell (k:=7) rfl;have p8:w7.cell? ⟨g_,8,none⟩ = some (.int .i64 v2):=HP7.out.cell (k:=8) rfl;have s0:=HBS7.out.cell (k:=0) rfl;have s1:=HBS7.out.cell (k:=1) rfl;have s2:=HBS7.out.cell (k:=2) rfl;have t0:=HBS7.out.free 0;have t1:=HBS7.out.free 1;have t2:=HBS7.out.free 2;have ls7:=HBS7.out.lt;have lp7:=HP7.out.lt;have lne:¬ g_ = w.heap.size:=by omega
       have lne2:¬ w.heap.size = g_:=by omega
       go_region
       all_goals
        have U0:=HBS7.out.drew.setOne (k:=0) (v:=.int .i64 a2)
        have U1:=U0.trans (U0.box.setOne (k:=1) (v:=.int .i64 u2))
        have U2:=U1.trans (U1.box.setOne (k:=2) (v:=.int .i64 v2))
        have HI8:=Zh (HD.out.upd _ _ _ _ _ _ _ (HD.out.bel _ _ _ HI7.out (b_dr (Below.refl _ _))) Zl (Or.inl rfl) HBS7.out.drew U2)
        have HU8:=Zh (show Bx _ w.heap.size 27 #[.int .i64 a2,.int .i64 u2,.int .i64 v2] from U2.box)
        have HQ8:=Zh (U2.bx HBQ7.out.drew Zo)
        have HR8:=Zh (U2.bx HBR7.out.drew Zo)
        have HT8:=Zh ((HKT7.out.below (b_dr (Below.refl _ _)) h0).upd U2 Zl h0)
        have hb8:bb = y1 + ((d + nn:Nat):Int):=by have:=HBB.out; omega
        have hle8:y1 + ((d + nn:Nat):Int) <= z1:=by have:=HMN.out; omega
        have hgt8:0 < nn:=HNN.out
        have HBB8:=Zh hb8
        clear U0 U1 U2 p2 p6 p7 p8 s0 s1 s2 t0 t1 t2 hb8 lne lne2
        go_wp2
        go_roundw
        case rel=>exact ⟨d + nn,a2,u2,v2,hle8,by rw [HBB8.out],Zh (by rw [<- Nat.add_assoc]; exact HNS.out),Zh (by rw [<- Nat.add_assoc]; exact HI8.out),HU8.out,HQ8.out,HR8.out,HT8.out⟩
        case measure=>have:=HBB8.out; simp [intOf]; omega
      ·
       refine wp_alloc_any 102 (#[.int .i64 0,.int .i64 0,.int .i64 0,.int .i64 0,.int .i64 0,.int .i64 0,.int .i64 0,.int .i64 0,.int .i64 0,.int .i64 0,.int .i64 0,.int .i64 0,.int .i64 0]) Zk (fun g_ W' hg hA hbA=>?_);have hgN:=Nat.le_trans hHeld.size hg;refine hK.out _ _ (b_cl hHeld Zl hbA) (fun hHeld=>?_);clear hK K hbA hg;(try simp only [Zs]);refine Zr 16 (some 41) fun K hK=>?_
       go_simp;(go_at_call 94; refine (CO _ (HK4.out.below hHeld)).mono ?_; rintro e wo ⟨rfl,hbo⟩);go_wp2_with fail;refine hK.out _ _ (b_cl hHeld Zl Zm) (fun hHeld=>?_);replace hA:=hA.below Zm;clear hK K;(try simp only [Zs]);refine Zr 18 none fun K hK=>?_
       refine wp_store_any 102 _ _ rfl g_ ((pc13 q (y1 + (d:Int)) bb (a,u,v) (a2,u2,v2) f)) rfl rfl 102 (#[.int .i64 0,.int .i64 0,.int .i64 0,.int .i64 0,.int .i64 0,.int .i64 0,.int .i64 0,.int .i64 0,.int .i64 0,.int .i64 0,.int .i64 0,.int .i64 0,.int .i64 0]) hA Zk rfl (pc13_one _ _ _ _ _ _) (fun W' u=>?_);refine hK.out _ _ (hHeld.trans (u.bel _ hgN)) (fun hHeld=>?_);clear hK K;(try simp only [Act.put]);refine wpAnyH_done Zk ?_ _;refine NoPanic.normal ?_;have HB6:=Zh hHeld;have HP6:=Zh u.box;have HI6:=Zh (HD.out.bel _ _ _ HI.out hHeld);have HKT6:=Zh (HKT.out.below hHeld h0);have HBS6:=Zh (HBS.out.below hHeld);have HBQ6:=Zh (HBQ.out.below hHeld);have HBR6:=Zh (HBR.out.below hHeld);have ST:=HD.out.step _ _ _ _ _ _ _ W' HI6.out HNN.out HLE.out HTP.out HRS.out HPC.out HRK.out;have hh:(beg r) + ((ii + d:Nat):Int) = y1 + (d:Int):=by have:=HY.out; have:=HII.out; omega
       rw [hh,HBB.out] at ST;have lg:w.heap.size < g_:=Nat.lt_of_lt_of_le HBS.out.lt hgN;clear u hHeld hA hgN hh
       go_upto_region 8 with (first
        | (refine wpList_load_box Zv 102 _ rfl g_ rfl 102 (pc13 q (y1 + (d:Int)) bb (a,u,v) (a2,u2,v2) f) _ HP6.out Tryz.underlying102 rfl size_piece ?_)
        | (go_at_fn g; refine ST.mono ?_; rintro e w7 ⟨rfl,hI7,hk7⟩))
       have HP7:=Zh (hk7.box _ _ _ HP6.out (Or.inr (Or.inr rfl)));have HBS7:=Zh (hk7.box _ _ _ HBS6.out (Or.inl rfl));have HBQ7:=Zh (hk7.box _ _ _ HBQ6.out (Or.inl rfl));have HBR7:=Zh (hk7.box _ _ _ HBR6.out (Or.inr (Or.inl rfl)));have HKT7:=Zh (HKT6.out.trans hk7);have HI7:=Zh hI7;clear ST hI7 hk7 HI6 HP6 HBS6 HBQ6 HBR6 HKT6;have p2:w7.cell? ⟨g_,2,none⟩ = some (.int .i64 bb):=HP7.out.cell (k:=2) rfl;have p6:w7.cell? ⟨g_,6,none⟩ = some (.int .i64 a2):=HP7.out.cell (k:=6) rfl;have p7:w7.cell? ⟨g_,7,none⟩ = some (.int .i64 u2):=HP7.out.cell (k:=7) rfl;have p8:w7.cell? ⟨g_,8,none⟩ = some (.int .i64 v2):=HP7.out.cell (k:=8) rfl;have s0:=HBS7.out.cell (k:=0) rfl;have s1:=HBS7.out.cell (k:=1) rfl;have s2:=HBS7.out.cell (k:=2) rfl;have t0:=HBS7.out.free 0;have t1:=HBS7.out.free 1;have t2:=HBS7.out.free 2;have ls7:=HBS7.out.lt;have lp7:=HP7.out.lt;have lne:¬ g_ = w.heap.size:=by omega
       have lne2:¬ w.heap.size = g_:=by omega
       go_region
       all_goals
        have U0:=HBS7.out.drew.setOne (k:=0) (v:=.int .i64 a2)
        have U1:=U0.trans (U0.box.setOne (k:=1) (v:=.int .i64 u2))
        have U2:=U1.trans (U1.box.setOne (k:=2) (v:=.int .i64 v2))
        have HI8:=Zh (HD.out.upd _ _ _ _ _ _ _ (HD.out.bel _ _ _ HI7.out (b_dr (Below.refl _ _))) Zl (Or.inl rfl) HBS7.out.drew U2)
        have HU8:=Zh (show Bx _ w.heap.size 27 #[.int .i64 a2,.int .i64 u2,.int .i64 v2] from U2.box)
        have HQ8:=Zh (U2.bx HBQ7.out.drew Zo)
        have HR8:=Zh (U2.bx HBR7.out.drew Zo)
        have HT8:=Zh ((HKT7.out.below (b_dr (Below.refl _ _)) h0).upd U2 Zl h0)
        have hb8:bb = y1 + ((d + nn:Nat):Int):=by have:=HBB.out; omega
        have hle8:y1 + ((d + nn:Nat):Int) <= z1:=by have:=HMN.out; omega
        have hgt8:0 < nn:=HNN.out
        have HBB8:=Zh hb8
        clear U0 U1 U2 p2 p6 p7 p8 s0 s1 s2 t0 t1 t2 hb8 lne lne2
        go_wp2
        go_roundw
        case rel=>exact ⟨d + nn,a2,u2,v2,hle8,by rw [HBB8.out],Zh (by rw [<- Nat.add_assoc]; exact HNS.out),Zh (by rw [<- Nat.add_assoc]; exact HI8.out),HU8.out,HQ8.out,HR8.out,HT8.out⟩
        case measure=>have:=HBB8.out; simp [intOf]; omega
     ·
      refine wp_alloc_any 102 (#[.int .i64 0,.int .i64 0,.int .i64 0,.int .i64 0,.int .i64 0,.int .i64 0,.int .i64 0,.int .i64 0,.int .i64 0,.int .i64 0,.int .i64 0,.int .i64 0,.int .i64 0]) Zk (fun g_ W' hg hA hbA=>?_);have hgN:=Nat.le_trans hHeld.size hg;refine hK.out _ _ (b_cl hHeld Zl hbA) (fun hHeld=>?_);clear hK K hbA hg;(try simp only [Zs]);refine Zr 12 (some 37) fun K hK=>?_
      go_simp;(go_at_call 95; refine (CF _ (HK4.out.below hHeld)).mono ?_; rintro e wf ⟨rfl,hbf⟩);go_wp2_with fail;refine hK.out _ _ (b_cl hHeld Zl Zm) (fun hHeld=>?_);replace hA:=hA.below Zm;clear hK K;(try simp only [Zs]);refine Zt 13 (some 38) ?_;(try simp only [Zs]);refine Zt 14 (some 39) (v:=.int .i64 bb) (hy:=fun w' hSw=>(by rw [<- HMN.out]; go_simp)) ?_;(try simp only [Zs]);refine Zt 15 (some 40) (v:=.agg #[.int .i64 q,.int .i64 (y1 + (d:Int)),.int .i64 bb]) (hy:=fun w' hSw=>exec_build _ _ rfl Zk) ?_;(try simp only [Zs]);refine Zr 16 (some 41) fun K hK=>?_
      go_simp;(go_at_call 94; refine (CO _ (HK4.out.below hHeld)).mono ?_; rintro e wo ⟨rfl,hbo⟩);go_wp2_with fail;refine hK.out _ _ (b_cl hHeld Zl Zm) (fun hHeld=>?_);replace hA:=hA.below Zm;clear hK K;(try simp only [Zs]);refine Zr 18 none fun K hK=>?_
      refine wp_store_any 102 _ _ rfl g_ ((pc13 q (y1 + (d:Int)) bb (a,u,v) (a2,u2,v2) f)) rfl rfl 102 (#[.int .i64 0,.int .i64 0,.int .i64 0,.int .i64 0,.int .i64 0,.int .i64 0,.int .i64 0,.int .i64 0,.int .i64 0,.int .i64 0,.int .i64 0,.int .i64 0,.int .i64 0]) hA Zk rfl (pc13_one _ _ _ _ _ _) (fun W' u=>?_);refine hK.out _ _ (hHeld.trans (u.bel _ hgN)) (fun hHeld=>?_);clear hK K;(try simp only [Act.put]);refine wpAnyH_done Zk ?_ _;refine NoPanic.normal ?_;have HB6:=Zh hHeld;have HP6:=Zh u.box;have HI6:=Zh (HD.out.bel _ _ _ HI.out hHeld);have HKT6:=Zh (HKT.out.below hHeld h0);have HBS6:=Zh (HBS.out.below hHeld);have HBQ6:=Zh (HBQ.out.below hHeld);have HBR6:=Zh (HBR.out.below hHeld);have ST:=HD.out.step _ _ _ _ _ _ _ W' HI6.out HNN.out HLE.out HTP.out HRS.out HPC.out HRK.out;have hh:(beg r) + ((ii + d:Nat):Int) = y1 + (d:Int):=by have:=HY.out; have:=HII.out; omega
      rw [hh,HBB.out] at ST;have lg:w.heap.size < g_:=Nat.lt_of_lt_of_le HBS.out.lt hgN;clear u hHeld hA hgN hh
      go_upto_region 8 with (first
       | (refine wpList_load_box Zv 102 _ rfl g_ rfl 102 (pc13 q (y1 + (d:Int)) bb (a,u,v) (a2,u2,v2) f) _ HP6.out Tryz.underlying102 rfl size_piece ?_)
       | (go_at_fn g; refine ST.mono ?_; rintro e w7 ⟨rfl,hI7,hk7⟩))
      have HP7:=Zh (hk7.box _ _ _ HP6.out (Or.inr (Or.inr rfl)));have HBS7:=Zh (hk7.box _ _ _ HBS6.out (Or.inl rfl));have HBQ7:=Zh (hk7.box _ _ _ HBQ6.out (Or.inl rfl));have HBR7:=Zh (hk7.box _ _ _ HBR6.out (Or.inr (Or.inl rfl)));have HKT7:=Zh (HKT6.out.trans hk7);have HI7:=Zh hI7;clear ST hI7 hk7 HI6 HP6 HBS6 HBQ6 HBR6 HKT6;have p2:w7.cell? ⟨g_,2,none⟩ = some (.int .i64 bb):=HP7.out.cell (k:=2) rfl;have p6:w7.cell? ⟨g_,6,none⟩ = some (.int .i64 a2):=HP7.out.cell (k:=6) rfl;have p7:w7.cell? ⟨g_,7,none⟩ = some (.int .i64 u2):=HP7.out.cell (k:=7) rfl;have p8:w7.cell? ⟨g_,8,none⟩ = some (.int .i64 v2):=HP7.out.cell (k:=8) rfl;have s0:=HBS7.out.cell (k:=0) rfl;have s1:=HBS7.out.cell (k:=1) rfl;have s2:=HBS7.out.cell (k:=2) rfl;have t0:=HBS7.out.free 0;have t1:=HBS7.out.free 1;have t2:=HBS7.out.free 2;have ls7:=HBS7.out.lt;have lp7:=HP7.out.lt;have lne:¬ g_ = w.heap.size:=by omega
      have lne2:¬ w.heap.size = g_:=by omega
      go_region
      all_goals
       have U0:=HBS7.out.drew.setOne (k:=0) (v:=.int .i64 a2)
       have U1:=U0.trans (U0.box.setOne (k:=1) (v:=.int .i64 u2))
       have U2:=U1.trans (U1.box.setOne (k:=2) (v:=.int .i64 v2))
       have HI8:=Zh (HD.out.upd _ _ _ _ _ _ _ (HD.out.bel _ _ _ HI7.out (b_dr (Below.refl _ _))) Zl (Or.inl rfl) HBS7.out.drew U2)
       have HU8:=Zh (show Bx _ w.heap.size 27 #[.int .i64 a2,.int .i64 u2,.int .i64 v2] from U2.box)
       have HQ8:=Zh (U2.bx HBQ7.out.drew Zo)
       have HR8:=Zh (U2.bx HBR7.out.drew Zo)
       have HT8:=Zh ((HKT7.out.below (b_dr (Below.refl _ _)) h0).upd U2 Zl h0)
       have hb8:bb = y1 + ((d + nn:Nat):Int):=by have:=HBB.out; omega
       have hle8:y1 + ((d + nn:Nat):Int) <= z1:=by have:=HMN.out; omega
       have hgt8:0 < nn:=HNN.out
       have HBB8:=Zh hb8
       clear U0 U1 U2 p2 p6 p7 p8 s0 s1 s2 t0 t1 t2 hb8 lne lne2
       go_wp2
       go_roundw
       case rel=>exact ⟨d + nn,a2,u2,v2,hle8,by rw [HBB8.out],Zh (by rw [<- Nat.add_assoc]; exact HNS.out),Zh (by rw [<- Nat.add_assoc]; exact HI8.out),HU8.out,HQ8.out,HR8.out,HT8.out⟩
       case measure=>have:=HBB8.out; simp [intOf]; omega
    ·have hdz:d = (z1 - y1).toNat:=by omega
     have HII2:=Zh ((kinds_next (by rw [HN'.out]; exact hlt) HSQ.out HII.out).trans (by rw [hdz]:ii + (z1 - y1).toNat = ii + d))
     clear hdz
     go_wp2
     go_roundw
     case rel=>exact ⟨kk + 1,ii + d,a,u,v,by omega,by go_num,HII2,HSP,HI,HBS.out,HBQ.out,HKT.out⟩
     case measure=>simp [intOf]; omega
  ·have hkn:kk = n':=by omega
   have hlen:ii = (kindsV r).length:=by
    have:=HII.out;rw [List.take_of_length_le (by rw [HN'.out]; omega)] at this;exact this.symm
   have HE:=Zh (show (runS l (kindsV r) (beg r) ((i,x,y),none4)).1 = (a,u,v) by
    have:=HSP.out;rw [hlen,List.take_of_length_le Zl] at this
    exact this)
   have HIE:=Zh (show I (kindsV r).length w2 by rw [<- hlen]; exact HI.out)
   clear HSP HI HII hlen
   go_wp2_with (first
    | (refine wpList_load_box Zv 27 _ rfl (w.heap.size) rfl 27 #[.int .i64 a,.int .i64 u,.int .i64 v] _ HBS.out Tryz.underlying27 rfl size_spot ?_)
    | (refine wpList_store_box rfl 27 _ _ rfl (w.heap.size + 1) #[.int .i64 a,.int .i64 u,.int .i64 v] rfl rfl 27 #[.int .i64 0,.int .i64 0,.int .i64 0] HBQ.out size_spot rfl (one3 _ _ _) (fun w5 u5=>?_)))
   refine bodyPost_ret (v:=.agg #[.int .i64 a,.int .i64 u,.int .i64 v]) (results_box1 Tryz.results51 _ _ (w.heap.size + 1) 27 #[.int .i64 a,.int .i64 u,.int .i64 v] _ rfl u5.box Tryz.underlying27 rfl size_spot) rfl ⟨by rw [HE.out]; rfl,HD.out.upd _ _ _ _ _ _ _ HIE.out Zo (Or.inl rfl) HBQ.out u5,?_⟩
   exact HKT.out.upd u5 Zo Zo
theorem RdF.moved {w W:World} {g:Nat} {r:List Rc} (h:RdF w (some ⟨g,0,none⟩) r) (hs:w.heap.size <= W.heap.size) (hg:W.heap[g]? = w.heap[g]?):RdF W (some ⟨g,0,none⟩) r:=fun hne=>by
 obtain ⟨b,off,hA,hb,hc⟩:=h hne;simp only [Option.some.injEq,Addr.mk.injEq,and_true] at hA;obtain ⟨rfl,rfl⟩:=hA;have key:∀ o,W.cell? ⟨g,o,none⟩ = w.cell? ⟨g,o,none⟩:=fun o=>World.cell?_of_block (w:=w) hg
 exact ⟨g,0,rfl,Nat.lt_of_lt_of_le hb hs,fun k hk=>by rw [key,key,key]; exact hc k hk⟩
set_option maxHeartbeats 1000000 in
theorem sort15_new (A:Option Addr) (c n:Nat) (l:List Rc) (w:World) (hn:l.length = n) (hr:RdF w A l) (hz:A = none -> c = 0) (hl:n <= 10000) :
  Calls Tryz.prog 48 #[.slice A n c] w fun e w'=>∃ A' m c' r,e = .returned (.slice A' m c') /\ r.length = m /\ SetF r l /\ RdF w' A' r /\ (A' = none -> c' = 0) /\ (r = [] ∨ ∃ g,A' = some ⟨g,0,none⟩ /\ w.heap.size <= g) /\ Below w.heap.size w w':=by
 have CC:=clone15_any A c n l w hn hr hz hl;by_cases h0:n = 0
 ·subst h0
  obtain rfl:=List.eq_nil_of_length_eq_zero hn;have HS:=fun (p:Option Addr) (cap:Nat) (fv:Value) (W:World)=>AnyF.slices_SortFunc_none { sortL with } p cap fv W
  clear hr hz hn;go_enter Tryz.func48,Tryz.ntmps48
  go_wp2_with (first
   | (go_at_call 89; (with_reducible refine CC.mono ?_); rintro e w1 ⟨v,rfl,ho,hb1⟩; obtain ⟨A1,c1,rfl,hr1,hz1⟩:=ho.read; have HZ1:=Zh hz1; clear hz1 ho hr1)
   | (go_at_call 90; (refine (HS _ _ _ _).mono ?_); rintro e w2 ⟨rfl,rfl⟩)
   | (go_at_call 92; (with_reducible refine (few_any _ _ _).mono ?_); rintro e w3 ⟨rfl,hb3⟩))
  go_ret;exact ⟨A1,0,c1,[],rfl,rfl,⟨List.Pairwise.nil,fun _=>Iff.rfl⟩,RdF.nil _ _,HZ1.out,.inl rfl,b_cl hb1 Zl hb3⟩
 ·have HN:=Zh hn
  have H0:=Zh h0;have CS:=fun (g c':Nat) (d:Array Rc) (W:World) (hd:d.size = n) (h:RwA W g d) (hg:w.heap.size <= g)=>sortF_any w.heap.size g c' n d W hd h hg Zo
  have CK:=fun (g c':Nat) (d:Array Rc) (W:World) (hd:d.size = n) (h:RwA W g d) (hc:n <= c')=>compactF_any g c' n d W hd h hc Zo
  clear hr hz h0;go_enter Tryz.func48,Tryz.ntmps48
  go_wp2_with (first
   | (go_at_call 89; (with_reducible refine CC.mono ?_); rintro e w1 ⟨v,rfl,ho,hb1⟩; obtain ⟨A1,c1,rfl,_,_⟩:=ho.read; rw [hn] at ho ⊢; obtain ⟨g,rfl,hg,hc1⟩:=own_cap ho H0.out; have HW1:=Zh (RwA.of_own ho); clear ho hn)
   | (go_at_call 90; (refine (CS g c1 l.toArray _ (by simpa using HN.out) HW1.out hg).mono ?_); rintro e w2 ⟨rfl,d2,hd2,hp2,hs2,hW2,hb2⟩; have HD2:=Zh hd2; have HP2:=Zh hp2; have HS2:=Zh hs2; have HW2:=Zh hW2; clear hd2 hp2 hs2 hW2)
   | (go_at_call 92; (refine (CK g c1 d2 _ HD2.out HW2.out hc1).mono ?_); rintro e w3 ⟨m,rfl,hm,hW3,hb3⟩; have HM3:=Zh hm; have HW3:=Zh hW3; have HB3:=Zh (hb3 w.heap.size hg); clear hm hW3 hb3))
  go_ret;have hset:=compact_setF HS2.out;rw [HD2.out] at hset;refine ⟨_,m,c1,Lib.compactUpTo d2 n,rfl,HM3.out,setF_perm hset (by simpa using HP2.out),?_,(fun h=>by cases h),.inr ⟨g,rfl,hg⟩,(hb1.trans hb2).trans HB3.out⟩;exact HW3.out.rd
set_option maxRecDepth 20000 in
set_option maxHeartbeats 2000000 in
theorem audit20_bad (A:Option Addr) (n c:Nat) (l:List Tk) (hn:l.length = n) (i x y:Int) (A':Option Addr) (n' c':Nat) (r:List Rc) (hn':r.length = n') (w:World) (h:RdK w A l) (hf:Few l) (hcn:n <= c) (hz:A = none -> c = 0)
  (hx:-9223372036854775808 <= x /\ x <= 9223372036854775807) (hy:-9223372036854775808 <= y /\ y <= 9223372036854775807) (hr:RdR w A' r) (hl:n' <= 4611686018427387904) {er:Int} (he:checkE l (i,x,y) r = er) (hne:er ≠ 0) :
  Calls Tryz.prog 24 #[.slice A n c,.agg #[.int .i64 i,.int .i64 x,.int .i64 y],.slice A' n' c'] w fun e w'=>∃ A2 m2 c2,e = .returned (.tuple #[.agg (sp3 (audV l (i,x,y) r).1),.slice A2 m2 c2,.int .i64 (audV l (i,x,y) r).2.2]) /\ (audV l (i,x,y) r).2.1.length = m2 /\ RdF w' A2 (audV l (i,x,y) r).2.1 /\ (A2 = none -> c2 = 0) /\ Below w.heap.size w w':=by
 rw [aud_bad he hne];have HS0:=Zh (show Bx ((w.alloc (.cells #[.int .i64 i,.int .i64 x,.int .i64 y] 27)).alloc (.cells #[.int .i64 0,.int .i64 0,.int .i64 0] 27)) w.heap.size 27 #[.int .i64 i,.int .i64 x,.int .i64 y] from (Bx.new (W:=w) _ _ rfl).alloc _);have HQ0:=Zh (show Bx ((w.alloc (.cells #[.int .i64 i,.int .i64 x,.int .i64 y] 27)).alloc (.cells #[.int .i64 0,.int .i64 0,.int .i64 0] 27)) (w.heap.size + 1) 27 #[.int .i64 0,.int .i64 0,.int .i64 0] from Bx.new (W:=w.alloc (.cells #[.int .i64 i,.int .i64 x,.int .i64 y] 27)) _ _ (by simp));have HB0:=Zh (show Below w.heap.size w ((w.alloc (.cells #[.int .i64 i,.int .i64 x,.int .i64 y] 27)).alloc (.cells #[.int .i64 0,.int .i64 0,.int .i64 0] 27)) from Zq);have CK:=fun W (h:RdK W A l) (hr:RdR W A' r)=>check20_any A n c l hn i x y A' n' c' r hn' W h hf hcn hz hx hy hr hl
 have HK:=Zh h;have HR:=Zh hr;rw [he] at CK;have hne':(er != 0) = true:=by simp [hne]
 clear he hne h hr hn hn' hf hcn hz hx hy;go_enter Tryz.func24,Tryz.ntmps24;go_upto_region 1 with fail
 generalize ((w.alloc (.cells #[.int .i64 i,.int .i64 x,.int .i64 y] 27)).alloc (.cells #[.int .i64 0,.int .i64 0,.int .i64 0] 27)) = W0 at *
 go_wp2_with (first
  | (refine wpList_load_box Zv 27 _ rfl (w.heap.size) rfl 27 #[.int .i64 i,.int .i64 x,.int .i64 y] _ HS0.out Tryz.underlying27 rfl size_spot ?_)
  | (go_at_call 49; refine (CK _ (HK.out.below HB0.out) (HR.out.below HB0.out)).mono ?_; rintro e w1 ⟨rfl,hb1⟩; have HS1:=Zh (HS0.out.below hb1); have HQ1:=Zh (HQ0.out.below hb1); have HB1:=Zh (b_cl HB0.out Zl hb1); have lt1:=HQ1.out.lt; have ls1:w.heap.size < w1.heap.size:=Zo; clear hb1)
  | (refine wpList_store_box rfl 27 _ _ rfl (w.heap.size + 1) #[.int .i64 0,.int .i64 0,.int .i64 0] rfl rfl 27 #[.int .i64 0,.int .i64 0,.int .i64 0] HQ1.out size_spot rfl (one3 _ _ _) (fun w2 u2=>?_)))
 refine bodyPost_ret (results_box3 Tryz.results24 _ _ (w.heap.size + 1) 27 #[.int .i64 0,.int .i64 0,.int .i64 0] _ (.slice none 0 0) (.int .i64 er) rfl u2.box rfl rfl Tryz.underlying27 rfl size_spot) rfl ⟨none,0,0,rfl,rfl,RdF.nil _ _,fun _=>rfl,?_⟩;exact HB1.out.trans (u2.bel _ Zo)
theorem wpList_store_one {P:Program} {ops:Array Oper} {rest:List Oper} {o:Oper} {a:Act} {W:World} {Q:Exit -> Act -> World -> Prop} (hgd:Region.wanted o (yielded ops a.tmps) = true) (ty:TypeId) (x y:Operand) (ho:o.op = .store ty x y)
  (g:Nat) (v old:Value) (hx:a.eval x = .pointer (some ⟨g,0,none⟩)) (hy:a.eval y = v) (h1:v.oneCell' = true) (t:TypeId) (hgg:g = W.heap.size) (hi:(P.info? ty).map (·.size) = some 1)
  (h:wpList P ops Q rest (a.put o.dst undef) (W.alloc (.cells #[v] t))):wpList P ops Q (o :: rest) a (W.alloc (.cells #[old] t)) :=
 wpList_step fun K hK=>by
  rw [if_pos hgd];unfold Oper.wp execOp;simp only [ho,hx,hy,Instr.storeAt,Instr.sureAddr,Sem.run_bind,Sem.run_pure,Result.andThen_ok,run_storeVar_fld (W.alloc (.cells #[old] t)) g 0 t ty #[old] v (Bx.new t #[old] hgg) (by simp) hi h1];refine hK _ _ ?_;rw [setRow_new W g #[old] _ t hgg];exact h
structure TailS (base g0 L:Nat) (SA:Array Value) (v:Value) (l:List Rc) (W:World):Prop where
 s:Bx W g0 27 SA
 q:∃ cs:Array Value,Bx W (g0 + 1) 27 cs /\ cs.size = 3
 f:Bx W L 33 #[v]
 o:OwnF base W v l
 ne:L ≠ g0 + 1
theorem TailS.below {base g0 L:Nat} {SA:Array Value} {v:Value} {l:List Rc} {W W':World} (h:TailS base g0 L SA v l W) (hb:Below W.heap.size W W'):TailS base g0 L SA v l W':=by
 obtain ⟨cs,h1,h2⟩:=h.q;exact ⟨h.s.below hb,⟨cs,h1.below hb,h2⟩,h.f.below hb,h.o.below hb,h.ne⟩
theorem TailS.upd {base g0 L:Nat} {SA:Array Value} {v:Value} {l:List Rc} {W W':World} {cs:Array Value} (h:TailS base g0 L SA v l W) (u:Upd W (g0 + 1) 27 cs W') (hs:cs.size = 3):TailS base g0 L SA v l W':=by
 obtain ⟨old,h1,h2⟩:=h.q;exact ⟨u.bx h.s Zo,⟨cs,u.box,hs⟩,u.bx h.f h.ne,h.o.held h1 Zd u,h.ne⟩
theorem HanS.upd {base E L N q:Nat} {t:TypeId} {old cs:Array Value} {l:List Rc} {s:Nat} {W W':World} (h:HanS base E L N l s W) (ht:Held t) (hB:Bx W q t old) (u:Upd W q t cs W') (nE:E ≠ q) (nL:L ≠ q) (nN:N ≠ q):HanS base E L N l s W':=by
 obtain ⟨v,hv,ho⟩:=h.ns.bL;have hne:t ≠ 52:=by rcases ht with rfl | rfl | rfl <;> decide
 exact ⟨⟨u.bx h.ns.bE nE,⟨v,u.bx hv nL,ho.held hB hne u⟩,h.ns.eb,h.ns.lb,h.ns.ne,by rw [u.size]; exact h.ns.sz⟩,u.bx h.bN nN,h.nb,h.nE,h.nL⟩
abbrev audW (w1:World):World:=(((w1.alloc (.cells #[.slice none 0 0] 33)).alloc (.cells #[.int .i64 0] 3)).alloc (.cells #[.func (.func 50) #[] #[.pointer (some ⟨w1.heap.size + 1,0,none⟩),.pointer (some ⟨w1.heap.size,0,none⟩)]] 94))
theorem aud_start (w1:World) (l:List Tk) (ks:List Int) (m0:Int) (s0:Pt):AudI (w1.heap.size + 1 + 1 + 1) (w1.heap.size + 1) (w1.heap.size) (w1.heap.size + 1 + 1) l ks m0 s0 0 (audW w1):=by
 refine ⟨[],0,⟨⟨(Bx.new (W:=w1.alloc (.cells #[.slice none 0 0] 33)) (g:=w1.heap.size + 1) _ _ (by simp)).alloc _,⟨.slice none 0 0,((Bx.new (W:=w1) _ _ rfl).alloc _).alloc _,OwnF.nil _ _⟩,by omega,by omega,by omega,by simp⟩,Bx.new (W:=(w1.alloc (.cells #[.slice none 0 0] 33)).alloc (.cells #[.int .i64 0] 3)) (g:=w1.heap.size + 1 + 1) _ _ (by simp),by omega,by omega,by omega⟩,?_⟩
 have e:GF (runS l (ks.take 0) m0 (s0,none4)).2 = fun _=>none:=by
  funext c
  have e1:fget none4 c = -1:=by
   unfold fget none4
   repeat' split
   all_goals rfl
  have e2:(runS l (ks.take 0) m0 (s0,none4)).2 = none4:=rfl;unfold GF;rw [e2,e1,if_neg (fun k=>absurd k.2 Zd)]
 rw [e];exact RepG.nil
theorem aud_bel {n:Nat} {w1:World} (h:n <= w1.heap.size):Below n w1 (audW w1) :=
 (((Below.refl n w1).alloc h _).alloc (by simp; omega) _).alloc (by simp; omega) _
set_option maxRecDepth 20000 in
set_option maxHeartbeats 2000000 in
theorem audit20_good (A:Option Addr) (n c:Nat) (l:List Tk) (hn:l.length = n) (i x y:Int) (A':Option Addr) (n' c':Nat) (r:List Rc) (hn':r.length = n') (w:World) (h:RdK w A l) (hf:Few l) (hcn:n <= c) (hz:A = none -> c = 0)
    (hx:-9223372036854775808 <= x /\ x <= 9223372036854775807) (hy:-9223372036854775808 <= y /\ y <= 9223372036854775807) (hr:RdR w A' r) (hl:n' <= 4611686018427387904) (he:checkE l (i,x,y) r = 0) :
    Calls Tryz.prog 24 #[.slice A n c,.agg #[.int .i64 i,.int .i64 x,.int .i64 y],.slice A' n' c'] w fun e w'=>∃ A2 m2 c2,e = .returned (.tuple #[.agg (sp3 (audV l (i,x,y) r).1),.slice A2 m2 c2,.int .i64 (audV l (i,x,y) r).2.2]) /\ (audV l (i,x,y) r).2.1.length = m2 /\ RdF w' A2 (audV l (i,x,y) r).2.1 /\ (A2 = none -> c2 = 0) /\ Below w.heap.size w w':=by
  obtain ⟨ck,fit,tl⟩:=checkE_zero he;obtain ⟨ok,_⟩:=checkt_zero ck;have tb:=tl.bd;obtain ⟨⟨⟨a,u,v⟩,F⟩,hX⟩:∃ X:Pt × Fs,runS l (kindsV r) (beg r) ((i,x,y),none4) = X:=⟨_,rfl⟩;rw [aud_ok he hX];have FE:=runS_fits ok (kindsV r) (beg r) ((i,x,y),none4) fit;rw [hX] at FE;have ELT:=Zh (show ((a,u,v):Pt).1 < (l.length:Int) ↔ a < (n:Int) by rw [hn]);have HS0:=Zh (show Bx ((w.alloc (.cells #[.int .i64 i,.int .i64 x,.int .i64 y] 27)).alloc (.cells #[.int .i64 0,.int .i64 0,.int .i64 0] 27)) w.heap.size 27 #[.int .i64 i,.int .i64 x,.int .i64 y] from (Bx.new (W:=w) _ _ rfl).alloc _);have HQ0:=Zh (show Bx ((w.alloc (.cells #[.int .i64 i,.int .i64 x,.int .i64 y] 27)).alloc (.cells #[.int .i64 0,.int .i64 0,.int .i64 0] 27)) (w.heap.size + 1) 27 #[.int .i64 0,.int .i64 0,.int .i64 0] from Bx.new (W:=w.alloc (.cells #[.int .i64 i,.int .i64 x,.int .i64 y] 27)) _ _ (by simp));have HB0:=Zh (show Below w.heap.size w ((w.alloc (.cells #[.int .i64 i,.int .i64 x,.int .i64 y] 27)).alloc (.cells #[.int .i64 0,.int .i64 0,.int .i64 0] 27)) from Zq);have CK:=fun W (h:RdK W A l) (hr:RdR W A' r)=>check20_any A n c l hn i x y A' n' c' r hn' W h hf hcn hz hx hy hr hl
  have HK:=Zh h;have HR:=Zh hr;rw [he] at CK;have hn0:∀ W1:World,Below w.heap.size w W1 -> RdKn w.heap.size W1 A l /\ RdRn w.heap.size W1 A' r:=fun W1 hb=>⟨⟨w,rfl,h,hb⟩,⟨w,rfl,hr,hb⟩⟩
  have HN0:=Zh hn0;have HX:=Zh hX;have eg:∀ args w,(callFunc 52 args).run Tryz.prog w = .ok (.enter 52 args) w:=enters_of Tryz.func52 Zk rfl
  have CF:=fun (w1:World) (hK:RdKn w.heap.size (audW w1) A l) (hR:RdRn w.heap.size (audW w1) A' r) (h0:w.heap.size <= w1.heap.size) =>
    follow20_any 52 #[.pointer (some ⟨w1.heap.size + 1 + 1,0,none⟩)] eg A n c l hn i x y A' n' c' r hn' w.heap.size (AudI (w1.heap.size + 1 + 1 + 1) (w1.heap.size + 1) (w1.heap.size) (w1.heap.size + 1 + 1) l (kindsV r) (beg r) (i,x,y)) (audW w1) hK hR (by simp; omega) hf hcn hz hl ck fit tl
      (by have hs:(audW w1).heap.size = w1.heap.size + 1 + 1 + 1:=by simp
          rw [hs]
          exact aud_does tb.1 Zo Zo Zo Zo) (aud_start w1 _ _ _ _)
  rw [hX] at CF
  have fb:-9223372036854775807 <= fin r /\ fin r <= 9223372036854775807:=by
    rcases List.eq_nil_or_concat r with rfl | ⟨r',q,rfl⟩
    · decide
    · have:=tl.len (by simp); omega
  have CLt:=fun W (h:RdR W A' r)=>last20_any A' n' c' r hn' W h hl fb
  have LTB:=Zh (show 0 <= lastT r /\ lastT r <= 40320 by
    unfold lastT;by_cases hq:r = []
    · rw [if_pos hq]; omega
    · rw [if_neg hq]
      have h1:=tl.len hq
      have h2:=tl.bd
      have h3:0 < (kindsV r).length:=by
        rcases r with _ | ⟨q,r⟩
        · exact absurd rfl hq
        · have:=tl.1.2
          rw [kinds_cons,List.length_append,List.length_replicate]
          omega
      omega)
  obtain ⟨lv,hlv⟩:∃ lv,lastT r = lv:=⟨_,rfl⟩;rw [hlv] at CLt LTB;have HLV:=Zh hlv;clear he h hr hn hn' hf hcn hz hx hy ck fit tl ok FE tb hX hn0 eg fb hlv;go_enter Tryz.func24,Tryz.ntmps24;go_upto_region 1 with fail
  generalize ((w.alloc (.cells #[.int .i64 i,.int .i64 x,.int .i64 y] 27)).alloc (.cells #[.int .i64 0,.int .i64 0,.int .i64 0] 27)) = W0 at *
  go_upto_region 8 with (first
    | (refine wpList_load_box Zv 27 _ rfl (w.heap.size) rfl 27 #[.int .i64 i,.int .i64 x,.int .i64 y] _ HS0.out Tryz.underlying27 rfl size_spot ?_)
    | (go_at_call 49; refine (CK _ (HK.out.below HB0.out) (HR.out.below HB0.out)).mono ?_; rintro e w1 ⟨rfl,hb1⟩; have HS1:=Zh (HS0.out.below hb1); have HQ1:=Zh (HQ0.out.below hb1); have HB1:=Zh (b_cl HB0.out Zl hb1); have lt1:=HQ1.out.lt; have ls1:w.heap.size < w1.heap.size:=Zo; have HN1:=Zh (HN0.out _ HB1.out); have HK7:=Zh ((HN1.out.1.below (aud_bel Zo))); have HR7:=Zh ((HN1.out.2.below (aud_bel Zo))); have HB7:=Zh (show Below w.heap.size w (audW w1) from HB1.out.trans (aud_bel Zo)); have HS7:=Zh (show Bx (audW w1) (w.heap.size) 27 #[.int .i64 i,.int .i64 x,.int .i64 y] from ((HS1.out.alloc _).alloc _).alloc _); have HQ7:=Zh (show Bx (audW w1) (w.heap.size + 1) 27 #[.int .i64 0,.int .i64 0,.int .i64 0] from ((HQ1.out.alloc _).alloc _).alloc _); clear hb1)
    | (refine wpList_store_one Zv 94 _ _ rfl (w1.heap.size + 1 + 1) _ .nilFunc rfl rfl rfl 94 (by simp) Zk ?_)
    | (refine wpList_load_box Zv 27 _ rfl (w.heap.size) rfl 27 #[.int .i64 i,.int .i64 x,.int .i64 y] _ HS7.out Tryz.underlying27 rfl size_spot ?_)
    | (go_at_call 51; refine (CF w1 HK7.out HR7.out Zo).mono ?_; rintro e w8 ⟨rfl,hI8,hk8⟩; have HI8:=Zh hI8; have HS8:=Zh (hk8.box _ _ _ HS7.out (Or.inl rfl)); have HQ8:=Zh (hk8.box _ _ _ HQ7.out (Or.inl rfl)); have HB8:=Zh (HB7.out.trans hk8.bel); have HN8:=Zh (And.intro (HK7.out.below hk8.bel) (HR7.out.below hk8.bel)); clear hI8 hk8)
    | (refine wpList_store_box rfl 27 _ _ rfl (w.heap.size) #[.int .i64 a,.int .i64 u,.int .i64 v] rfl rfl 27 #[.int .i64 i,.int .i64 x,.int .i64 y] HS8.out size_spot rfl (one3 _ _ _) (fun w9 u9=>?_)))
  obtain ⟨l8,s8,hh8,hr8⟩:=HI8.out;rw [List.take_of_length_le Zl,HX.out] at hr8;have H9:=Zh (hh8.upd (Or.inl rfl) HS8.out u9 Zo Zo Zo);have HR8:=Zh (show RepG l8 s8 (GF F) from hr8);have HS9:=Zh u9.box;have HQ9:=Zh (u9.bx HQ8.out Zo);have HB9:=Zh (HB8.out.trans (u9.bel _ Zl));have HR9:=Zh (HN8.out.2.below (u9.bel _ Zl)).rd;have t9:w9.cell? ⟨w.heap.size,0,none⟩ = some (.int .i64 a):=HS9.out.cell rfl;have lt9:=HS9.out.lt;clear hh8 hr8 HI8 HS8 HQ8 HB8 HN8 u9 HS7 HQ7 HB7 HK7 HR7 CF;by_cases hlt:a < (n:Int)
  · have CNt:=fun W (h:NotS (w1.heap.size + 1 + 1 + 1) (w1.heap.size + 1) (w1.heap.size) l8 s8 W)=>note20_any (w1.heap.size + 1 + 1 + 1) (w1.heap.size + 1) (w1.heap.size) l8 s8 (GF F) 4 lv W h HR8.out Zo LTB.out.1 LTB.out.2
    go_upto_region 9 with fail
    refine wp_region_noPanic ?_
    refine wp_region_held_drew (S:=(fun w'=>w'.cell? ⟨w1.heap.size + 1 + 1,0,none⟩ = some (.func (.func 50) #[] #[.pointer (some ⟨w1.heap.size + 1,0,none⟩),.pointer (some ⟨w1.heap.size,0,none⟩)]))) Zk ?_ (fun hHeld=>?_)
    · exact (show w9.drew.cell? _ = _ from H9.out.bN.cell rfl)
    refine Zt 0 (some 32) (hy:=by intro w' hSw; have hc:=hSw; (try dsimp only at hc); clear hSw; go_simp; try (with_reducible rfl)) ?_
    (try simp only [Zs])
    refine Zt 1 (some 33) ?_
    (try simp only [Zs])
    refine Zr 2 (some 34) fun K hK=>?_
    go_simp
    (go_at_call 53; refine (CLt _ (HR9.out.below (b_dr (Below.refl _ _)))).mono ?_; rintro e w' ⟨rfl,rfl⟩)
    go_wp2_with fail
    refine hK.out _ _ (hHeld) (fun hHeld=>?_)
    clear hK K
    (try simp only [Zs])
    refine Zr 3 (some 35) fun K hK=>?_
    go_simp
    (go_at_call 50; refine (CNt _ (H9.out.ns.below (b_dr (Below.refl _ _)))).mono ?_; rintro e w10 ⟨rfl,⟨l10,s10,hn10,hr10⟩,hk10⟩)
    go_wp2_with fail
    refine hK.out _ _ ((hk10.bx (H9.out.below (b_dr (Below.refl _ _))).bN H9.out.nE H9.out.nL Zd).cell rfl) (fun hHeld=>?_)
    clear hK K
    (try simp only [Zs])
    refine wpAnyH_done Zk ?_ _
    refine NoPanic.normal ?_
    have hkb:=(KpT.of_below (T:=52) (base:=(w1.heap.size + 1 + 1 + 1)) (E:=w1.heap.size + 1) (L:=w1.heap.size) (b_dr (Below.refl w9.heap.size w9)) rfl).trans hk10
    obtain ⟨v9,hv9,ho9⟩:=H9.out.ns.bL
    have hkt:=hkb.keep (n:=w.heap.size) H9.out.ns.bE hv9 (by rintro (h | h | h) <;> exact absurd h Zd) (by rintro (h | h | h) <;> exact absurd h Zd) (by rintro (h | h | h) <;> exact absurd h Zd) Zo Zo Zo (Nat.le_of_lt HS9.out.lt)
    have H10:=Zh (show HanS (w1.heap.size + 1 + 1 + 1) (w1.heap.size + 1) (w1.heap.size) (w1.heap.size + 1 + 1) l10 s10 w10 from ⟨hn10,hkb.bx H9.out.bN H9.out.nE H9.out.nL Zd,H9.out.nb,H9.out.nE,H9.out.nL⟩)
    have HR10:=Zh (show RepG l10 s10 (allG l r ((a,u,v),F)) by rw [allG_left (ELT.out.2 hlt),HLV.out]; exact hr10)
    have HS10:=Zh (hkt.box _ _ _ HS9.out (Or.inl rfl))
    have HQ10:=Zh (hkt.box _ _ _ HQ9.out (Or.inl rfl))
    have HB10:=Zh (HB9.out.trans hkt.bel)
    clear hkb hkt hn10 hr10 hk10 hv9 ho9 t9 lt9 CNt CLt
    go_wp2_with fail
    obtain ⟨v3,hv3,ho3⟩:=H10.out.ns.bL
    obtain ⟨A3,c3,rfl,hrd3,hz3⟩:=ho3.read
    have HOG:=Zh (fun rr (hs:SetF rr l10)=>outG_is HR10.out hs)
    have hle3:=HR10.out.le
    obtain ⟨n3,hn3⟩:∃ n3,(l10).length = n3:=⟨_,rfl⟩
    rw [hn3] at hv3 ho3 hle3
    have TS0:=Zh (show TailS (w1.heap.size + 1 + 1 + 1) (w.heap.size) (w1.heap.size) #[.int .i64 a,.int .i64 u,.int .i64 v] (.slice A3 n3 c3) l10 w10 from ⟨HS10.out,⟨_,HQ10.out,rfl⟩,hv3,ho3,by omega⟩)
    have SC:=fun W (ho:OwnF (w1.heap.size + 1 + 1 + 1) W (.slice A3 n3 c3) l10)=>sort15_new A3 c3 n3 l10 W hn3 ho.rd hz3 Zo
    clear hrd3 hv3 ho3 hle3
    refine wp_region_noPanic ?_
    refine wp_region_held_drew (S:=(fun w'=>TailS (w1.heap.size + 1 + 1 + 1) (w.heap.size) (w1.heap.size) #[.int .i64 a,.int .i64 u,.int .i64 v] (.slice A3 n3 c3) l10 w')) Zk ?_ (fun hHeld=>?_)
    · exact (TS0.out.below (b_dr (Below.refl _ _)))
    refine Zt 0 (some 36) (v:=.agg #[.int .i64 a,.int .i64 u,.int .i64 v]) (hy:=fun w' hSw=>exec_load_box (w.heap.size) 27 #[.int .i64 a,.int .i64 u,.int .i64 v] _ w' rfl rfl hSw.s Tryz.underlying27 rfl size_spot) ?_
    (try simp only [Zs])
    refine Zt 1 (some 37) (hy:=by intro w' hSw; have:=hSw.f.cell (k:=0) rfl; clear hSw; go_simp; try (with_reducible rfl)) ?_
    (try simp only [Zs])
    refine Zr 2 (some 38) fun K hK=>?_
    go_simp
    (go_at_call 48; refine (SC _ hHeld.o).mono ?_; rintro e w11 ⟨A2,m2,c2,rr,rfl,hm,hset,hrd,hz2,hnew,hb11⟩; have HB11:=Zh (HB10.out.trans ((b_dr (Below.refl _ _)).trans (hb11.mono (by show _ <= w10.heap.size; have:=HS10.out.lt; omega)))))
    go_wp2_with fail
    refine hK.out _ _ (hHeld.below hb11) (fun hHeld=>?_)
    clear hK K
    (try simp only [Zs])
    refine Zr 3 none fun K hK=>?_
    obtain ⟨old,ho1,ho2⟩:=hHeld.q
    refine wp_store_any 27 _ _ rfl (w.heap.size + 1) #[.int .i64 a,.int .i64 u,.int .i64 v] rfl rfl 27 old ho1 size_spot ho2 (one3 _ _ _) (fun w12 u12=>?_)
    refine hK.out _ _ (hHeld.upd u12 rfl) (fun hHeld=>?_)
    clear hK K
    (try simp only [Act.put])
    refine Zt 4 (some 7) ?_
    (try simp only [Zs])
    refine Zt 5 (some 8) ?_
    (try simp only [Zs])
    refine wpAnyH_done Zk ?_ _
    refine NoPanic.normal ?_
    go_wp2_with fail
    refine bodyPost_ret (results_box3 Tryz.results24 _ _ (w.heap.size + 1) 27 #[.int .i64 a,.int .i64 u,.int .i64 v] _ (.slice A2 m2 c2) (.int .i64 0) rfl u12.box rfl rfl Tryz.underlying27 rfl size_spot) rfl ⟨A2,m2,c2,rfl,by rw [<- HOG.out _ hset]; exact hm,?_,hz2,HB11.out.trans (u12.bel _ Zo)⟩
    rw [<- HOG.out _ hset]
    rcases hnew with rfl | ⟨gg,rfl,hgg⟩
    · exact RdF.nil _ _
    · exact hrd.moved (by rw [u12.size]; exact Nat.le_refl _) (u12.other gg (by have h1:=HS10.out.lt; have h2:=HQ10.out.lt; have h3:w10.heap.size <= gg:=hgg; omega))
  · have HR10:=Zh (show RepG l8 s8 (allG l r ((a,u,v),F)) by rw [allG_none (fun c=>hlt (ELT.out.1 c))]; exact HR8.out)
    have hge:(n:Int) <= a:=by omega
    go_wp2_with fail
    clear t9 lt9 CLt
    obtain ⟨v3,hv3,ho3⟩:=H9.out.ns.bL
    obtain ⟨A3,c3,rfl,hrd3,hz3⟩:=ho3.read
    have HOG:=Zh (fun rr (hs:SetF rr l8)=>outG_is HR10.out hs)
    have hle3:=HR10.out.le
    obtain ⟨n3,hn3⟩:∃ n3,(l8).length = n3:=⟨_,rfl⟩
    rw [hn3] at hv3 ho3 hle3
    have TS0:=Zh (show TailS (w1.heap.size + 1 + 1 + 1) (w.heap.size) (w1.heap.size) #[.int .i64 a,.int .i64 u,.int .i64 v] (.slice A3 n3 c3) l8 w9 from ⟨HS9.out,⟨_,HQ9.out,rfl⟩,hv3,ho3,by omega⟩)
    have SC:=fun W (ho:OwnF (w1.heap.size + 1 + 1 + 1) W (.slice A3 n3 c3) l8)=>sort15_new A3 c3 n3 l8 W hn3 ho.rd hz3 Zo
    clear hrd3 hv3 ho3 hle3
    refine wp_region_noPanic ?_
    refine wp_region_held_drew (S:=(fun w'=>TailS (w1.heap.size + 1 + 1 + 1) (w.heap.size) (w1.heap.size) #[.int .i64 a,.int .i64 u,.int .i64 v] (.slice A3 n3 c3) l8 w')) Zk ?_ (fun hHeld=>?_)
    · exact (TS0.out.below (b_dr (Below.refl _ _)))
    refine Zt 0 (some 36) (v:=.agg #[.int .i64 a,.int .i64 u,.int .i64 v]) (hy:=fun w' hSw=>exec_load_box (w.heap.size) 27 #[.int .i64 a,.int .i64 u,.int .i64 v] _ w' rfl rfl hSw.s Tryz.underlying27 rfl size_spot) ?_
    (try simp only [Zs])
    refine Zt 1 (some 37) (hy:=by intro w' hSw; have:=hSw.f.cell (k:=0) rfl; clear hSw; go_simp; try (with_reducible rfl)) ?_
    (try simp only [Zs])
    refine Zr 2 (some 38) fun K hK=>?_
    go_simp
    (go_at_call 48; refine (SC _ hHeld.o).mono ?_; rintro e w11 ⟨A2,m2,c2,rr,rfl,hm,hset,hrd,hz2,hnew,hb11⟩; have HB11:=Zh (HB9.out.trans ((b_dr (Below.refl _ _)).trans (hb11.mono (by show _ <= w9.heap.size; have:=HS9.out.lt; omega)))))
    go_wp2_with fail
    refine hK.out _ _ (hHeld.below hb11) (fun hHeld=>?_)
    clear hK K
    (try simp only [Zs])
    refine Zr 3 none fun K hK=>?_
    obtain ⟨old,ho1,ho2⟩:=hHeld.q
    refine wp_store_any 27 _ _ rfl (w.heap.size + 1) #[.int .i64 a,.int .i64 u,.int .i64 v] rfl rfl 27 old ho1 size_spot ho2 (one3 _ _ _) (fun w12 u12=>?_)
    refine hK.out _ _ (hHeld.upd u12 rfl) (fun hHeld=>?_)
    clear hK K
    (try simp only [Act.put])
    refine Zt 4 (some 7) ?_
    (try simp only [Zs])
    refine Zt 5 (some 8) ?_
    (try simp only [Zs])
    refine wpAnyH_done Zk ?_ _
    refine NoPanic.normal ?_
    go_wp2_with fail
    refine bodyPost_ret (results_box3 Tryz.results24 _ _ (w.heap.size + 1) 27 #[.int .i64 a,.int .i64 u,.int .i64 v] _ (.slice A2 m2 c2) (.int .i64 0) rfl u12.box rfl rfl Tryz.underlying27 rfl size_spot) rfl ⟨A2,m2,c2,rfl,by rw [<- HOG.out _ hset]; exact hm,?_,hz2,HB11.out.trans (u12.bel _ Zo)⟩
    rw [<- HOG.out _ hset]
    rcases hnew with rfl | ⟨gg,rfl,hgg⟩
    · exact RdF.nil _ _
    · exact hrd.moved (by rw [u12.size]; exact Nat.le_refl _) (u12.other gg (by have h1:=HS9.out.lt; have h2:=HQ9.out.lt; have h3:w9.heap.size <= gg:=hgg; omega))
end Go.Proofs.YtiamnbddbmgffaaGreatDoor
