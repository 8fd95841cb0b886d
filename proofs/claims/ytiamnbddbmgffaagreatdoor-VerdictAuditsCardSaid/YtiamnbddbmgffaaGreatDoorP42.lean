/- Texts of the proofs of VerdictAudits, VerdictAll, VerdictRising, pressed: DutyRefR, DutyRefG, DutyRests, DutyQLoad, DutyBrk0, DutyBrk1. Conditions: as each theorem says. -/
import Derived.Test.YtiamnbddbmgffaaGreatDoorRows
import Derived.Test.YtiamnbddbmgffaaGreatDoorP41
namespace Go.Proofs.YtiamnbddbmgffaaGreatDoor
open Go.RowKit
set_option linter.unusedVariables false
set_option maxRecDepth 20000 in
set_option maxHeartbeats 4000000 in
theorem reduced16_any (x:Nat -> Int) (A:Option Addr) (c n k:Nat) (L:List Sp) (w:World) (hn:L.length = n) (hr:RdS w A L) (hT:InT L) (h4:n <= 100000) (hk:k < n) (hx:May x) :
  Calls Tryz.prog 104 #[.agg (bk x),.slice A n c,.int .i64 (k:Nat)] w fun e w'=>e = .returned (.bool (docRed x L k)) /\ Below w.heap.size w w':=by
 have LC:=fun W h=>last16_any A c n L (x 8) (L.getD k (0,0)).1 W hn h hT h4
 have LB:=last_bd (long:=x 8) (cut:=(L.getD k (0,0)).1) hT;have t11:=may_time hx 11 Zo;have hlt':k < L.length:=by omega
 have HN:=Zh hn;have HT:=Zh hT;have RB:RdI (w.alloc (.cells (bk x) 23)) w.heap.size 0 x:=RdI.new x 23 rfl;have hB0:Below w.heap.size w (w.alloc (.cells (bk x) 23)):=b_al (Below.refl _ _) Zl _;have HR:=Zh (hr.below hB0);clear hn hT hr hx;go_enter Tryz.func104,Tryz.ntmps104;go_wp2;obtain ⟨w1,hw1⟩:∃ w1,w.alloc (.cells (bk x) 23) = w1:=⟨_,rfl⟩;rw [hw1] at RB hB0 HR ⊢;clear hw1;obtain ⟨b,off,f,t,rfl,hbb,hc0,hc1,hs⟩:=HR.out.at_ hlt';have hxy:=HT.out (f,t) (by rw [<- hs.out]; exact getDs_mem hlt');obtain ⟨hx0,hx1,hx2⟩:=hxy;dsimp only at hx0 hx1 hx2;rw [hs.out] at LC LB;dsimp only at LC LB
 have hdoc:docRed x L k = (decide (x 8 <= t - f) && (decide (t - f < x 13) && (!((L.take k).any (partB x (docLast L (x 8) f))) && decide (min t (docLast L (x 8) f + x 11) - f < x 7)))):=by
  unfold docRed; rw [hs.out]
 obtain ⟨dw,hdw⟩:∃ dw,docLast L (x 8) f = dw:=⟨_,rfl⟩;rw [hdw] at LC LB hdoc;have HD:=Zh hdoc;clear hdw hs hdoc;have k0:(0:Int) <= (k:Int):=by omega
 have k1:(k:Int) < (n:Int):=by omega
 have hwr:IntKind.i64.wrap (t - f) = t - f:=wrap14 (t - f) Zo Zo;have q0:∀ p:BelowOf w1,p.world.cell? ⟨b,off + k * 2,none⟩ = some (.int .i64 f):=fun p=>p.cell hc0
 have q1:∀ p:BelowOf w1,p.world.cell? ⟨b,off + k * 2 + 1,none⟩ = some (.int .i64 t):=fun p=>p.cell hc1
 refine wp_region_bel Zk Zk ?_
 repeat (go_big_quiet_step (first | (fail)))
 refine wpQuiet_nil ?_;refine bel_all fun w2 hb2=>?_
 have HB2:=Zh (b_cl hB0 Zl hb2);have RB2:=RB.below hb2;have HR2:=Zh (HR.out.below hb2);rw [<- hb2.cell (p:=⟨b,_,none⟩) hbb] at hc0 hc1;have hbw2:b < w2.heap.size:=by have:=hb2.size; omega
 clear q0 q1 hb2 RB HR hB0 hbb;have q0:∀ p:BelowOf w2,p.world.cell? ⟨b,off + k * 2,none⟩ = some (.int .i64 f):=fun p=>p.cell hc0
 have q8:∀ p:BelowOf w2,p.world.cell? ⟨w.heap.size,8,none⟩ = some (.int .i64 (x 8)):=fun p=>p.cell (RB2.2 8 Zo)
 have CL:=fun p:BelowOf w2=>LC p.world (HR2.out.below p.ok)
 go_wp2;refine wp_region_bel Zk Zk ?_
 repeat (go_big_quiet_step (first | (go_at_call 100; (with_reducible exact Calls.bel_of (CL _)))))
 refine wpQuiet_nil ?_;refine bel_all fun w3 hb3=>?_
 have HB3:=Zh (HB2.out.trans (hb3.mono HB2.out.size));have RB3:=RB2.below hb3;have HR3:=Zh (HR2.out.below hb3);rw [<- hb3.cell (p:=⟨b,_,none⟩) hbw2] at hc0 hc1;have hbw3:b < w3.heap.size:=by have:=hb3.size; omega
 clear q0 q8 CL LC hb3 RB2 HR2 HB2 hbw2;have f8:w3.cell? ⟨w.heap.size,8,none⟩ = some (.int .i64 (x 8)):=RB3.2 8 Zo;have f13:w3.cell? ⟨w.heap.size,13,none⟩ = some (.int .i64 (x 13)):=RB3.2 13 Zo;by_cases g8:x 8 <= t - f
 case neg =>
  have e8:decide (t - f < x 8) = true:=decide_eq_true Zo;have HV:=Zh (show docRed x L k = false by rw [HD.out,decide_eq_false g8]; rfl);clear g8;go_wp2;go_ret;exact ⟨by rw [HV.out]; rfl,HB3.out⟩
 have e8:decide (t - f < x 8) = false:=decide_eq_false Zo;by_cases g13:t - f < x 13
 case neg =>
  have e13:decide (x 13 <= t - f) = true:=decide_eq_true Zo;have HV:=Zh (show docRed x L k = false by rw [HD.out,decide_eq_false g13,Bool.false_and,Bool.and_false]);clear g8 g13;go_wp2;go_ret;exact ⟨by rw [HV.out]; rfl,HB3.out⟩
 have e13:decide (x 13 <= t - f) = false:=decide_eq_false Zo;have HD2:=Zh (show docRed x L k = (!((L.take k).any (partB x dw)) && decide (min t (dw + x 11) - f < x 7)) by rw [HD.out,decide_eq_true g8,decide_eq_true g13,Bool.true_and,Bool.true_and]);clear g8 g13 HD;go_wp2;clear f8 f13 e8 e13;go_loopw [9] (fun i wr=>∃ j:Nat,j <= k /\ i = .int .i64 (j:Nat) /\ Hid ((L.take j).any (partB x dw) = false) /\ Hid (Below w3.heap.size w3 wr)) (fun i _=>k - (intOf i).toNat)
 case atStart=>exact ⟨0,Nat.zero_le _,rfl,Zh rfl,Zh (Below.refl _ _)⟩
 case round =>
  obtain ⟨j,hj,rfl,HA,HB⟩:=hrel;obtain ⟨w4,rfl⟩:∃ w4:World,w4 = wr:=⟨_,rfl⟩;have hsz:=HB.out.size;have RB4:=RB3.below HB.out;by_cases hlt:j < k
  case neg =>
   obtain rfl:j = k:=by omega
   have HD3:=Zh (show docRed x L j = decide (min t (dw + x 11) - f < x 7) by rw [HD2.out,HA.out]; rfl);rw [<- HB.out.cell (p:=⟨b,_,none⟩) hbw3] at hc0 hc1;have f11:w4.cell? ⟨w.heap.size,11,none⟩ = some (.int .i64 (x 11)):=RB4.2 11 Zo;have f7:∀ p:BelowOf w4,p.world.cell? ⟨w.heap.size,7,none⟩ = some (.int .i64 (x 7)):=fun p=>p.cell (RB4.2 7 Zo)
   have q0:∀ p:BelowOf w4,p.world.cell? ⟨b,off + j * 2,none⟩ = some (.int .i64 f):=fun p=>p.cell hc0
   have hw11:IntKind.i64.wrap (dw + x 11) = dw + x 11:=wrap14 (dw + x 11) Zo Zo;have hw12:IntKind.i64.wrap (dw + x 11 - f) = dw + x 11 - f:=wrap14 (dw + x 11 - f) Zo Zo;clear HD2 HA RB4 RB3;by_cases gm:dw + x 11 < t
   ·have em:decide (dw + x 11 < t) = true:=decide_eq_true gm
    have HV:=Zh (show docRed x L j = decide (dw + x 11 - f < x 7) by rw [HD3.out,Int.min_eq_right Zo]);clear gm HD3;go_wp2;refine wp_region_bel Zk Zk ?_
    repeat (go_big_quiet_step (first | (fail)))
    refine wpQuiet_nil ?_;refine bel_all fun w5 hb5=>?_
    clear q0 f7;go_wp2;go_ret;exact ⟨by rw [HV.out]; rfl,(HB3.out.trans (HB.out.mono HB3.out.size)).trans (hb5.mono (Nat.le_trans HB3.out.size hsz))⟩
   ·have em:decide (dw + x 11 < t) = false:=decide_eq_false gm
    have HV:=Zh (show docRed x L j = decide (t - f < x 7) by rw [HD3.out,Int.min_eq_left Zo]);clear gm HD3;go_wp2;refine wp_region_bel Zk Zk ?_
    repeat (go_big_quiet_step (first | (fail)))
    refine wpQuiet_nil ?_;refine bel_all fun w5 hb5=>?_
    clear q0 f7;go_wp2;go_ret;exact ⟨by rw [HV.out]; rfl,(HB3.out.trans (HB.out.mono HB3.out.size)).trans (hb5.mono (Nat.le_trans HB3.out.size hsz))⟩
  have hltj:j < L.length:=by omega
  obtain ⟨b',off',f',t',hA',hbb',hj0,hj1,hs'⟩:=HR3.out.at_ hltj;obtain ⟨rfl,rfl⟩:b = b' /\ off = off':=by simpa using hA'
  clear hA';rw [<- HB.out.cell (p:=⟨b,_,none⟩) hbb'] at hj0 hj1;have hxy:=HT.out (f',t') (by rw [<- hs'.out]; exact getDs_mem hltj);obtain ⟨hy0,hy1,hy2⟩:=hxy;dsimp only at hy0 hy1 hy2;have HM:=Zh (any_more (p:=partB x dw) hltj);have HH:=Zh (fun h=>any_hit (p:=partB x dw) hlt (Nat.le_of_lt hlt') h);rw [hs'.out] at HM HH;have hwj:IntKind.i64.wrap (t' - f') = t' - f':=wrap14 (t' - f') Zo Zo;have q0:∀ p:BelowOf w4,p.world.cell? ⟨b,off + j * 2,none⟩ = some (.int .i64 f'):=fun p=>p.cell hj0
  have q1:∀ p:BelowOf w4,p.world.cell? ⟨b,off + j * 2 + 1,none⟩ = some (.int .i64 t'):=fun p=>p.cell hj1
  have j0:(0:Int) <= (j:Int):=by omega
  have j1:(j:Int) < (n:Int):=by omega
  clear hs' hbb';go_wp2;refine wp_region_bel Zk Zk ?_
  repeat (go_big_quiet_step (first | (fail)))
  refine wpQuiet_nil ?_;refine bel_all fun w5 hb5=>?_
  have HB5:=Zh (HB.out.trans (hb5.mono hsz));have RB5:=RB4.below hb5;rw [<- hb5.cell (p:=⟨b,_,none⟩) (show b < w4.heap.size by omega)] at hj0;have f10:w5.cell? ⟨w.heap.size,10,none⟩ = some (.int .i64 (x 10)):=RB5.2 10 Zo;have f8:w5.cell? ⟨w.heap.size,8,none⟩ = some (.int .i64 (x 8)):=RB5.2 8 Zo;have hbw5:b < w5.heap.size:=by have:=hb5.size; omega
  clear q0 q1 hb5 RB4 RB5 hj1;by_cases g1:dw <= f'
  case neg =>
   have e1:decide (dw <= f') = false:=decide_eq_false g1;have HF:=Zh (show (L.take (j + 1)).any (partB x dw) = false by rw [HM.out,HA.out]; unfold partB; rw [decide_eq_false g1]; rfl);clear g1 HM HH HA;go_wp2;go_roundw
   case rel=>exact ⟨j + 1,by omega,by go_num,HF,HB5⟩
   case measure=>simp [intOf]; omega
  have e1:decide (dw <= f') = true:=decide_eq_true g1;by_cases g2:x 10 <= t' - f'
  case neg =>
   have e2:decide (x 10 <= t' - f') = false:=decide_eq_false g2;have HF:=Zh (show (L.take (j + 1)).any (partB x dw) = false by rw [HM.out,HA.out]; unfold partB; rw [decide_eq_false g2,Bool.false_and,Bool.and_false]; rfl);clear g1 g2 HM HH HA;go_wp2;go_roundw
   case rel=>exact ⟨j + 1,by omega,by go_num,HF,HB5⟩
   case measure=>simp [intOf]; omega
  have e2:decide (x 10 <= t' - f') = true:=decide_eq_true g2;by_cases g3:t' - f' < x 8
  case neg =>
   have e3:decide (t' - f' < x 8) = false:=decide_eq_false g3;have HF:=Zh (show (L.take (j + 1)).any (partB x dw) = false by rw [HM.out,HA.out]; unfold partB; rw [decide_eq_false g3,Bool.and_false,Bool.and_false]; rfl);clear g1 g2 g3 HM HH HA;go_wp2;go_roundw
   case rel=>exact ⟨j + 1,by omega,by go_num,HF,HB5⟩
   case measure=>simp [intOf]; omega
  have e3:decide (t' - f' < x 8) = true:=decide_eq_true g3
  have HV:=Zh (show docRed x L k = false by
   rw [HD2.out,HH.out (by unfold partB; rw [decide_eq_true g1,decide_eq_true g2,decide_eq_true g3]; rfl)]; rfl)
  clear g1 g2 g3 HM HH HA HD2;go_wp2;go_ret;exact ⟨by rw [HV.out]; rfl,HB3.out.trans (HB5.out.mono HB3.out.size)⟩
def longN (x:Nat -> Int) (ks:List Int) (L:List (Int × Int)) (fr:Int) (m:Nat):Int:=(docLongF x ks L fr).2 + if x 4 < cntK ks 3 3 (docLongF x ks L fr).1 (m + 1) then 1 else 0
set_option maxRecDepth 20000 in
set_option maxHeartbeats 4000000 in
theorem longers16_any (x:Nat -> Int) (A B:Option Addr) (c n cB nB m:Nat) (ks:List Int) (L:List Sp) (fr:Int) (w:World) (hk:ks.length = n) (hrk:RdN w A ks) (hn:L.length = nB) (hr:RdS w B L) (hT:InT L) (hI:∀ q ∈ L,q.2 <= n) (h4:n <= 40320) (h5:nB <= 100000) (hm:m < n) (h0:0 <= fr) (h1:fr <= 40320) :
  Calls Tryz.prog 103 #[.agg (bk x),.slice A n c,.slice B nB cB,.int .i64 fr,.int .i64 (m:Nat)] w fun e w'=>e = .returned (.int .i64 (longN x ks L fr m)) /\ Below w.heap.size w w':=by
 have CC:=fun W h lo hi a1 a2 a3 a4=>(count16_any A c n ks 3 3 lo hi W hk h a1 a2 a3 a4 Zo).mono fun e w' (q:e = _ /\ W = w')=>(⟨q.1,q.2 ▸ Below.refl _ _⟩:e = .returned (.int .i64 (cntK ks 3 3 lo (hi + 1).toNat)) /\ Below W.heap.size W w')
 have LB:=fun k=>long_bd (x:=x) (ks:=ks) h0 h1 (hT.take k)
 have HN:=Zh hn;have HT:=Zh hT;have HI:=Zh hI;have RB:RdI (w.alloc (.cells (bk x) 23)) w.heap.size 0 x:=RdI.new x 23 rfl;have hB0:Below w.heap.size w (w.alloc (.cells (bk x) 23)):=b_al (Below.refl _ _) Zl _;have HR:=Zh (hr.below hB0);have HK:=Zh (hrk.below hB0);clear hn hT hr hk hrk hI;go_enter Tryz.func103,Tryz.ntmps103;go_wp2;obtain ⟨w1,hw1⟩:∃ w1,w.alloc (.cells (bk x) 23) = w1:=⟨_,rfl⟩;rw [hw1] at RB hB0 HR HK ⊢;clear hw1;go_loopw [11,12,13] (fun v d i wr=>∃ (k:Nat) (dy q:Int),k <= nB + 1 /\ i = .int .i64 (k:Nat) /\ v = .int .i64 q /\ d = .int .i64 dy /\ Hid (k <= nB -> docLongF x ks (L.take k) fr = (dy,q)) /\ Hid (k = nB + 1 -> longN x ks L fr m = q) /\ Hid (Below w1.heap.size w1 wr)) (fun _ _ i _=>nB + 1 - (intOf i).toNat)
 case atStart=>exact ⟨0,fr,0,by omega,rfl,rfl,rfl,Zh fun _=>rfl,Zh Zo,Zh (Below.refl _ _)⟩
 case round =>
  obtain ⟨k,dy,q,hk,rfl,rfl,rfl,HQ,HE,HB⟩:=hrel;obtain ⟨w2,rfl⟩:∃ w2:World,w2 = wr:=⟨_,rfl⟩;have hsz:=HB.out.size;by_cases hlt:k <= nB
  case neg =>
   have HE2:=Zh (HE.out Zo);have dd:(k:Int) = (nB:Int) + 1:=by omega
   clear HQ HE;go_wp2;go_ret;exact ⟨by rw [HE2.out]; rfl,b_cl hB0 Zl HB.out⟩
  have hq:=HQ.out hlt;have LBk:=LB k;rw [hq] at LBk;dsimp only at LBk;have hlen:(L.take k).length <= nB:=by rw [List.length_take]; omega
  have HQ2:=Zh hq;have RB2:=RB.below HB.out;have k0:(0:Int) <= (k:Int):=by omega
  clear HQ HE hq LB;by_cases hend:k = nB
  case pos =>
   have e0:decide ((k:Int) < (nB:Int)) = false:=decide_eq_false Zo;have e00:decide (k < nB) = false:=decide_eq_false Zo;have hwm:IntKind.i64.wrap ((m:Int) + 1) = (m:Int) + 1:=wrap14 _ Zo Zo;have hwm2:IntKind.i64.wrap ((m:Int) + 1 - 1) = (m:Int):=by rw [show (m:Int) + 1 - 1 = (m:Int) by omega]; exact wrap14 _ Zo Zo
   have CN:=fun p:BelowOf w2=>CC p.world ((HK.out.below HB.out).below p.ok) dy (m:Int) Zo Zo Zo Zo
   have HV:=Zh (show longN x ks L fr m = q + if x 4 < cntK ks 3 3 dy ((m:Int) + 1).toNat then 1 else 0 by
    have h6:=HQ2.out;rw [List.take_of_length_le (by rw [HN.out]; omega)] at h6;unfold longN
    rw [h6,show ((m:Int) + 1).toNat = m + 1 by omega])
   obtain ⟨cv,hcv⟩:∃ cv,cntK ks 3 3 dy ((m:Int) + 1).toNat = cv:=⟨_,rfl⟩;rw [hcv] at CN HV;have q4:∀ p:BelowOf w2,p.world.cell? ⟨w.heap.size,4,none⟩ = some (.int .i64 (x 4)):=fun p=>p.cell (RB2.2 4 Zo)
   clear hcv HQ2 CC;by_cases g:x 4 < cv
   ·have e4:decide (x 4 < cv) = true:=decide_eq_true g
    have HF:=Zh (show longN x ks L fr m = q + 1 by rw [HV.out,if_pos g]);clear g HV;go_wp2;refine wp_region_bel Zk Zk ?_
    repeat (go_big_quiet_step (first | (go_at_call 101; (with_reducible exact Calls.bel_of (CN _)))))
    refine wpQuiet_nil ?_;refine bel_all fun w3 hb3=>?_
    have HB3:=Zh (HB.out.trans (hb3.mono hsz));clear q4 CN hb3 RB2;go_wp2;go_roundw
    case rel=>exact ⟨k + 1,(m:Int) + 1,q + 1,by omega,by go_num,by go_num,rfl,Zh Zo,Zh (fun _=>HF.out),HB3⟩
    case measure=>simp [intOf]; omega
   ·have e4:decide (x 4 < cv) = false:=decide_eq_false g
    have HF:=Zh (show longN x ks L fr m = q by rw [HV.out,if_neg g,Int.add_zero]);clear g HV;go_wp2;refine wp_region_bel Zk Zk ?_
    repeat (go_big_quiet_step (first | (go_at_call 101; (with_reducible exact Calls.bel_of (CN _)))))
    refine wpQuiet_nil ?_;refine bel_all fun w3 hb3=>?_
    have HB3:=Zh (HB.out.trans (hb3.mono hsz));clear q4 CN hb3 RB2;go_wp2;go_roundw
    case rel=>exact ⟨k + 1,(m:Int) + 1,q,by omega,by go_num,rfl,rfl,Zh Zo,Zh (fun _=>HF.out),HB3⟩
    case measure=>simp [intOf]; omega
  have hlt':k < L.length:=by rw [HN.out]; omega
  have e0:decide ((k:Int) < (nB:Int)) = true:=decide_eq_true Zo;have e00:decide (k < nB) = true:=decide_eq_true Zo;have k1:(k:Int) < (nB:Int):=by omega
  obtain ⟨b,off,f,t,rfl,hbb,hc0,hc1,hs⟩:=HR.out.at_ hlt';rw [<- HB.out.cell (p:=⟨b,_,none⟩) hbb] at hc0 hc1;have hmem:(f,t) ∈ L:=by rw [<- hs.out]; exact getDs_mem hlt'
  have hxy:=HT.out (f,t) hmem;have htn:=HI.out (f,t) hmem;obtain ⟨hx0,hx1,hx2⟩:=hxy;dsimp only at hx0 hx1 hx2 htn;have HM:=Zh (long_more (x:=x) (ks:=ks) (fr:=fr) hlt' hs.out);rw [HQ2.out] at HM;dsimp only at HM;have hwr:IntKind.i64.wrap (t - f) = t - f:=wrap14 (t - f) Zo Zo;have q0:∀ p:BelowOf w2,p.world.cell? ⟨b,off + k * 2,none⟩ = some (.int .i64 f):=fun p=>p.cell hc0
  have q1:∀ p:BelowOf w2,p.world.cell? ⟨b,off + k * 2 + 1,none⟩ = some (.int .i64 t):=fun p=>p.cell hc1
  have q8:∀ p:BelowOf w2,p.world.cell? ⟨w.heap.size,8,none⟩ = some (.int .i64 (x 8)):=fun p=>p.cell (RB2.2 8 Zo)
  clear hs hmem HQ2;by_cases g1:t <= fr
  case pos =>
   have e1:decide (t <= fr) = true:=decide_eq_true g1;have HF:=Zh (show docLongF x ks (L.take (k + 1)) fr = (dy,q) by rw [HM.out,if_pos (.inl g1)]);clear g1 HM CC;go_wp2;refine wp_region_bel Zk Zk ?_
   repeat (go_big_quiet_step (first | (fail)))
   refine wpQuiet_nil ?_;refine bel_all fun w3 hb3=>?_
   have HB3:=Zh (HB.out.trans (hb3.mono hsz));clear q0 q1 q8 hb3;go_wp2;go_roundw
   case rel=>exact ⟨k + 1,dy,q,by omega,by go_num,rfl,rfl,Zh (fun _=>HF.out),Zh Zo,HB3⟩
   case measure=>simp [intOf]; omega
  have e1:decide (t <= fr) = false:=decide_eq_false g1;by_cases g2:t - f < x 8
  case pos =>
   have e2:decide (t - f < x 8) = true:=decide_eq_true g2;have HF:=Zh (show docLongF x ks (L.take (k + 1)) fr = (dy,q) by rw [HM.out,if_pos (.inr g2)]);clear g1 g2 HM CC;go_wp2;refine wp_region_bel Zk Zk ?_
   repeat (go_big_quiet_step (first | (fail)))
   refine wpQuiet_nil ?_;refine bel_all fun w3 hb3=>?_
   have HB3:=Zh (HB.out.trans (hb3.mono hsz));clear q0 q1 q8 hb3;go_wp2;go_roundw
   case rel=>exact ⟨k + 1,dy,q,by omega,by go_num,rfl,rfl,Zh (fun _=>HF.out),Zh Zo,HB3⟩
   case measure=>simp [intOf]; omega
  have e2:decide (t - f < x 8) = false:=decide_eq_false g2;have HM2:=Zh (show docLongF x ks (L.take (k + 1)) fr = (t,q + if x 4 < cntK ks 3 3 dy t.toNat then 1 else 0) by rw [HM.out,if_neg (fun h=>h.elim g1 g2)]);clear g1 g2 HM;go_wp2;refine wp_region_bel Zk Zk ?_
  repeat (go_big_quiet_step (first | (fail)))
  refine wpQuiet_nil ?_;refine bel_all fun w3 hb3=>?_
  have HB3:=Zh (HB.out.trans (hb3.mono hsz));have hsz3:=HB3.out.size;have RB3:=RB2.below hb3;rw [<- hb3.cell (p:=⟨b,_,none⟩) (show b < w2.heap.size by omega)] at hc1;have hbw3:b < w3.heap.size:=by have:=hb3.size; omega
  clear q0 q1 q8 hb3 e1 e2 hc0 RB2 hwr;have CN:=fun p:BelowOf w3=>CC p.world ((HK.out.below HB3.out).below p.ok) dy (t - 1) Zo Zo Zo Zo
  rw [show (t - 1 + 1).toNat = t.toNat by omega] at CN;obtain ⟨cv,hcv⟩:∃ cv,cntK ks 3 3 dy t.toNat = cv:=⟨_,rfl⟩;rw [hcv] at CN HM2;have hw1:IntKind.i64.wrap (t - 1) = t - 1:=wrap14 _ Zo Zo;have q4:∀ p:BelowOf w3,p.world.cell? ⟨w.heap.size,4,none⟩ = some (.int .i64 (x 4)):=fun p=>p.cell (RB3.2 4 Zo)
  clear hcv CC;by_cases g:x 4 < cv
  ·have e4:decide (x 4 < cv) = true:=decide_eq_true g
   have HF:=Zh (show docLongF x ks (L.take (k + 1)) fr = (t,q + 1) by rw [HM2.out,if_pos g]);clear g HM2;go_wp2;refine wp_region_bel Zk Zk ?_
   repeat (go_big_quiet_step (first | (go_at_call 101; (with_reducible exact Calls.bel_of (CN _)))))
   refine wpQuiet_nil ?_;refine bel_all fun w4 hb4=>?_
   have HB4:=Zh (HB3.out.trans (hb4.mono hsz3));clear q4 CN hb4 RB3;go_wp2;go_roundw
   case rel=>exact ⟨k + 1,t,q + 1,by omega,by go_num,by go_num,rfl,Zh (fun _=>HF.out),Zh Zo,HB4⟩
   case measure=>simp [intOf]; omega
  ·have e4:decide (x 4 < cv) = false:=decide_eq_false g
   have HF:=Zh (show docLongF x ks (L.take (k + 1)) fr = (t,q) by rw [HM2.out,if_neg g,Int.add_zero]);clear g HM2;go_wp2;refine wp_region_bel Zk Zk ?_
   repeat (go_big_quiet_step (first | (go_at_call 101; (with_reducible exact Calls.bel_of (CN _)))))
   refine wpQuiet_nil ?_;refine bel_all fun w4 hb4=>?_
   have HB4:=Zh (HB3.out.trans (hb4.mono hsz3));clear q4 CN hb4 RB3;go_wp2;go_roundw
   case rel=>exact ⟨k + 1,t,q,by omega,by go_num,rfl,rfl,Zh (fun _=>HF.out),Zh Zo,HB4⟩
   case measure=>simp [intOf]; omega
theorem rests_next (ks:List Int) (i:Nat):(¬ kAt ks i = 0 -> restsL ks (i + 1) = restsL ks i) /\
  (kAt ks i = 0 -> 0 < i -> kAt ks (i - 1) = 0 -> ∃ E f,restsL ks i = E ++ [(f,(i:Int))] /\ restsL ks (i + 1) = E ++ [(f,(i:Int) + 1)]) /\
  (kAt ks i = 0 -> (i = 0 ∨ ¬ kAt ks (i - 1) = 0) -> restsL ks (i + 1) = restsL ks i ++ [((i:Int),(i:Int) + 1)]):=by
 unfold restsL;refine ⟨fun h=>?_,fun h h0 h1=>?_,fun h h1=>?_⟩
 ·rw [eR_awake h]
  show fullR _ 0 _ = _
  unfold fullR;rw [if_neg Zo]
 ·rw [eR_rest h]
  obtain ⟨j,rfl⟩:∃ j,i = j + 1:=⟨i - 1,by omega⟩;rw [Nat.add_sub_cancel] at h1;rw [eR_rest h1];dsimp only;refine ⟨(eR ks j).1,((j + 1:Nat):Int) - ((eR ks j).2 + 1:Nat),?_,?_⟩
  ·unfold fullR; rw [if_pos Zo]
  ·unfold fullR
   rw [if_pos Zo];congr 3
   ·omega
 ·rw [eR_rest h]
  have hr:(eR ks i).2 = 0:=by
   rcases h1 with rfl | h1
   ·rfl
   ·obtain ⟨j,rfl⟩:∃ j,i = j + 1:=by
     refine ⟨i - 1,?_⟩
     rcases Nat.eq_zero_or_pos i with hz | hz
     ·subst hz; exact absurd h h1
     ·omega
    rw [Nat.add_sub_cancel] at h1
    rw [eR_awake h1]
  dsimp only;rw [hr];unfold fullR;rw [if_pos Zo,if_neg Zo];congr 3;omega
theorem rests_len (ks:List Int):∀ i,(restsL ks i).length <= i
 | 0=>Nat.le_refl _
 | i + 1=>by
  have ih:=rests_len ks i;obtain ⟨r1,r2,r3⟩:=rests_next ks i;by_cases h:kAt ks i = 0
  ·by_cases h1:0 < i /\ kAt ks (i - 1) = 0
   ·obtain ⟨E,f,e1,e2⟩:=r2 h h1.1 h1.2
    rw [e1] at ih;rw [e2];simp only [List.length_append,List.length_singleton] at ih ⊢;omega
   ·rw [r3 h (by
     rcases Nat.eq_zero_or_pos i with hz | hz
     ·exact .inl hz
     ·exact .inr fun hh=>h1 ⟨hz,hh⟩)]
    simp only [List.length_append,List.length_singleton]
    omega
  ·rw [r1 h]; omega
set_option maxRecDepth 20000 in
set_option maxHeartbeats 2000000 in
theorem rests16_any (A:Option Addr) (c n m:Nat) (ks:List Int) (w:World) (hn:ks.length = n) (hr:RdN w A ks) (hm:m <= n) (h4:n <= 100000) :
  Calls Tryz.prog 99 #[.slice A n c,.int .i64 (m:Nat)] w fun e w'=>∃ v,e = .returned v /\ Own w.heap.size w' v (restsL ks m) /\ Below w.heap.size w w':=by
 obtain ⟨i0,hi,hz0,hz1,hz2⟩:=info_parts info_span;have HN:=Zh hn;have HR:=Zh hr;clear hn hr;go_enter Tryz.func99,Tryz.ntmps99;go_wp2;go_loopw [5,6] (fun v i wr=>∃ (k q:Nat) (A':Option Addr) (c':Nat),k <= m /\ i = .int .i64 (k:Nat) /\ v = .slice A' q c' /\ Hid ((restsL ks k).length = q) /\ q <= k /\ Hid (Own w.heap.size wr (.slice A' q c') (restsL ks k)) /\ Below w.heap.size w wr) (fun _ i _=>m - (intOf i).toNat)
 case atStart=>exact ⟨0,0,none,0,Nat.zero_le _,rfl,rfl,Zh rfl,Nat.le_refl _,Zh (Own.nil _ _),Below.refl _ _⟩
 case round =>
  obtain ⟨k,q,A',c',hk,rfl,rfl,HQ,hqk,hown,hb⟩:=hrel;obtain ⟨w3,rfl⟩:∃ w3:World,w3 = wr:=⟨_,rfl⟩;have hsz:=hb.size;by_cases hlt:k < m
  case neg =>
   obtain rfl:k = m:=by omega
   clear HQ;go_wp2;go_ret;exact ⟨_,rfl,hown.out,hb⟩
  have hil:k < ks.length:=by rw [HN.out]; omega
  have hkn:k < n:=by omega
  obtain ⟨bb,off,rfl,hbb,hcell⟩:=HR.out (nonnil hil);have hc0:=hcell k hil;rw [<- hb.cell (p:=⟨bb,_,none⟩) hbb] at hc0;rw [show ks.getD k 0 = kAt ks k from rfl] at hc0;have hbr:bb < w3.heap.size:=by omega
  obtain ⟨r1,r2,r3⟩:=rests_next ks k;have k0:(0:Int) <= (k:Int):=by omega
  have k1:(k:Int) < (n:Int):=by omega
  by_cases hz:kAt ks k = 0
  case neg =>
   have HE:=Zh (r1 hz);obtain ⟨kv,hkv⟩:∃ kv,kAt ks k = kv:=⟨_,rfl⟩;rw [hkv] at hc0 hz;have e1:(kv != 0) = true:=by simpa using hz
   clear r1 r2 r3 hcell hkv hz;go_wp2;go_roundw
   case rel=>exact ⟨k + 1,q,A',c',by omega,by go_num,rfl,Zh (by rw [HE.out]; exact HQ.out),by omega,Zh (by rw [HE.out]; exact hown.out),hb⟩
   case measure=>simp [intOf]; omega
  rw [hz] at hc0;have r2:=r2 hz;have r3:=r3 hz;clear r1;have hlr:∀ g,(Value.slice A' q c').ownBlock = some g -> w.heap.size <= g /\ g < w3.heap.size:=fun g hg=>World.ownsRow.lt hown.out g hg
  by_cases hk0:0 < k
  case neg =>
   have hkz:k = 0:=by omega
   have HE:=Zh (r3 (.inl hkz));have d0:decide ((0:Int) < (k:Int)) = false:=decide_eq_false Zo;have d1:decide (0 < k) = false:=decide_eq_false hk0;have HL5:=Zh (show (restsL ks k ++ [((k:Int),(k:Int) + 1)]).length = q + 1 by rw [List.length_append,HQ.out]; rfl);have HOW:=Zh (Own.alloc hown.out (.cells #[.int .i64 (k:Nat),.int .i64 ((k:Int) + 1)] 121));have HBW:=Zh (b_al hb Zl (.cells #[.int .i64 (k:Nat),.int .i64 ((k:Int) + 1)] 121));obtain ⟨lv,hlv⟩:∃ lv,restsL ks k = lv:=⟨_,rfl⟩;have hnb:=HQ.out;rw [hlv] at HOW HL5 HE hnb;clear hcell r2 r3 hkz hown HQ hlv hz hk0;go_wp2_with (at_builtin; refine wpList_append_own _ rfl _ _ 75 rfl w.heap.size 121 i0 (.agg #[.int .i64 0,.int .i64 0]) 2 16 Tryz.underlying75 hi hz0 hz1 hz2 rfl Zd _ _ _ rfl HOW.out ⟨w3.heap.size,0,none⟩ 1 1 [.int .i64 (k:Nat),.int .i64 ((k:Int) + 1)] rfl rfl one_news one_cell2 (by unfold maxLen; omega) Zo (by simp; omega) ?_; intro v5 w5 hown5 hgrow5 _; have HS:=Zh (Own.snoc hown5); have HB5:=Zh (HBW.out.grown hgrow5 (by simp; omega) (fun g hg=>(hlr g hg).1)); clear hown5 hgrow5);obtain ⟨A5,c5,rfl,_⟩:=HS.out.form;go_wp2;go_roundw
   case rel=>exact ⟨k + 1,q + 1,A5,c5,by omega,by go_num,by rw [HL5.out],Zh (by rw [HE.out]; exact HL5.out),by omega,Zh (by rw [HE.out]; have:=HS.out; rw [HL5.out] at this; exact this),HB5.out⟩
   case measure=>simp [intOf]; omega
  obtain ⟨j,hj⟩:∃ j,k - 1 = j:=⟨_,rfl⟩;have hkj:k = j + 1:=by omega
  have hcj:=hcell j Zo;rw [<- hb.cell (p:=⟨bb,_,none⟩) hbb,show ks.getD j 0 = kAt ks j from rfl] at hcj;rw [hj] at r2 r3;have d0:decide ((0:Int) < (k:Int)) = true:=decide_eq_true Zo;have d1:decide (0 < k) = true:=decide_eq_true hk0;have dj:(k:Int) - 1 = (j:Int):=by omega
  have j0:(0:Int) <= (j:Int):=by omega
  have j1:(j:Int) < (n:Int):=by omega
  by_cases hzj:kAt ks j = 0
  case pos =>
   rw [hzj] at hcj;obtain ⟨E,f,e1,e2⟩:=r2 hk0 hzj;have HE2:=Zh e2;have hl5:(E ++ [(f,(k:Int))]).length = q:=by rw [<- e1]; exact HQ.out
   have hEq:E.length + 1 = q:=by rw [List.length_append,List.length_singleton] at hl5; exact hl5
   have ho:=hown.out;rw [e1] at ho;obtain ⟨A5,c5,hv5,hrd5,_,_⟩:=ho.form;rw [hl5] at hv5;simp only [Value.slice.injEq,true_and] at hv5;obtain ⟨rfl,rfl⟩:=hv5;obtain ⟨g,goff,rfl,hgb,hcells⟩:=hrd5 (by simp);obtain ⟨rfl,hgb2,hfz⟩:=own_some ho;have hjn:=own_joined (z:=(k:Int) + 1) (j:=E.length) (l':=E ++ [(f,(k:Int) + 1)]) ho hl5 (by simp) (flat_set E f _ _).symm;have HJ:=Zh hjn;have hce:=(hcells E.length (by simp)).2;rw [Nat.zero_add] at hce;have hfz2:=hfz (E.length * 2 + 1);obtain ⟨el,hel⟩:∃ el,E.length = el:=⟨_,rfl⟩;rw [hel] at hEq HJ hce hfz2;have dq:(q:Int) - 1 = (el:Int):=by omega
   have q0:(0:Int) <= (el:Int):=by omega
   have q1:(el:Int) < (q:Int):=by omega
   have HL5:=Zh (show (E ++ [(f,(k:Int) + 1)]).length = q by rw [List.length_append,List.length_singleton]; omega);have HB5:=Zh (show Below w.heap.size w (w3.setCell ⟨g,el * 2 + 1,none⟩ (.int .i64 ((k:Int) + 1))) from b_st hb (by simp; omega));have HEQ:=Zh hEq;clear e1 e2 r2 r3 hown HQ ho hrd5 hl5 hcell hzj hz hjn hcells hfz hel hk0 hj hkj hEq;go_wp2;go_roundw
   case rel=>exact ⟨k + 1,q,some ⟨g,0,none⟩,c',by omega,by go_num,rfl,Zh (by rw [HE2.out]; exact HL5.out),by omega,Zh (by rw [HE2.out]; exact HJ.out),HB5.out⟩
   case measure=>simp [intOf]; omega
  case neg =>
   have HE:=Zh (r3 (.inr hzj));obtain ⟨kv,hkv⟩:∃ kv,kAt ks j = kv:=⟨_,rfl⟩;rw [hkv] at hcj hzj;have e1:(kv == 0) = false:=by simpa using hzj
   have HL5:=Zh (show (restsL ks k ++ [((k:Int),(k:Int) + 1)]).length = q + 1 by rw [List.length_append,HQ.out]; rfl);have HOW:=Zh (Own.alloc hown.out (.cells #[.int .i64 (k:Nat),.int .i64 ((k:Int) + 1)] 121));have HBW:=Zh (b_al hb Zl (.cells #[.int .i64 (k:Nat),.int .i64 ((k:Int) + 1)] 121));obtain ⟨lv,hlv⟩:∃ lv,restsL ks k = lv:=⟨_,rfl⟩;have hnb:=HQ.out;rw [hlv] at HOW HL5 HE hnb;clear hcell r2 r3 hown HQ hlv hz hk0 hj hkj hzj hkv;go_wp2_with (at_builtin; refine wpList_append_own _ rfl _ _ 75 rfl w.heap.size 121 i0 (.agg #[.int .i64 0,.int .i64 0]) 2 16 Tryz.underlying75 hi hz0 hz1 hz2 rfl Zd _ _ _ rfl HOW.out ⟨w3.heap.size,0,none⟩ 1 1 [.int .i64 (k:Nat),.int .i64 ((k:Int) + 1)] rfl rfl one_news one_cell2 (by unfold maxLen; omega) Zo (by simp; omega) ?_; intro v5 w5 hown5 hgrow5 _; have HS:=Zh (Own.snoc hown5); have HB5:=Zh (HBW.out.grown hgrow5 (by simp; omega) (fun g hg=>(hlr g hg).1)); clear hown5 hgrow5);obtain ⟨A5,c5,rfl,_⟩:=HS.out.form;go_wp2;go_roundw
   case rel=>exact ⟨k + 1,q + 1,A5,c5,by omega,by go_num,by rw [HL5.out],Zh (by rw [HE.out]; exact HL5.out),by omega,Zh (by rw [HE.out]; have:=HS.out; rw [HL5.out] at this; exact this),HB5.out⟩
   case measure=>simp [intOf]; omega
theorem wpQuiet_load_bk {P:Program} {ops:Array Oper} {C:World -> Prop} {Q:Act -> Prop} {rest:List Oper} {o:Oper} {a:Act} (hgd:Region.wanted o (yielded ops a.tmps) = true) (ty:TypeId) (y:Operand) (ho:o.op = .load ty y)
  (b off:Nat) (hx:a.eval y = .pointer (some ⟨b,off,none⟩)) (x:Nat -> Int) (d:TypeDesc) (hr:∀ w,C w -> RdI w b off x)
  (hu:P.underlying ty = some d) (hd:d.isRow = true) (hi:(P.info? ty).map (·.size) = some 19)
  (h:wpQuiet P ops C Q rest (a.put o.dst (.agg (bk x)))):wpQuiet P ops C Q (o :: rest) a :=
 wpQuiet_step fun K hK=>by
  rw [if_pos hgd];refine ⟨.agg (bk x),fun w hw=>?_,hK _ h⟩;unfold Oper.quietAt execOp;have hi':(P.info? ty).map (·.size) = some (bk x).toList.length:=by simpa [bk_size] using hi
  simp only [ho,hx,Instr.loadAt,Instr.sureAddr,Sem.run_bind,Sem.run_pure,Result.andThen_ok,run_loadVar_mid w b off ty (bk x).toList d (hr w hw).range hu hd hi'];exact ⟨rfl,by simp⟩
set_option maxRecDepth 20000 in
set_option maxHeartbeats 8000000 in
theorem breaks16_0 (x:Nat -> Int) (A:Option Addr) (c n m:Nat) (ks:List Int) (w:World) (hk:ks.length = n) (hr:RdN w A ks) (h4:n <= 40320) (hm:m < n) (hx:May x) :
  Calls Tryz.prog 62 #[.agg (bk x),.slice A n c,.int .i64 (m:Nat),.int .i64 0] w fun e w'=>e = .returned (.bool (docBreaks x ks m 0)) /\ Below w.heap.size w w':=by
 have RC:=fun W h=>rests16_any A c n m ks W hk h Zo Zo
 have HK:=Zh hk;have hfull:=full_ok ks m;have hlen:=rests_len ks m;change Lk (restsL ks m) _ at hfull;obtain ⟨L,hL⟩:∃ L,restsL ks m = L:=⟨_,rfl⟩;rw [hL] at hfull hlen;have HT:Hid (InT L):=Zh fun q hq=>by have:=hfull.each q hq; omega
 have HI:Hid (∀ q ∈ L,q.2 <= n):=Zh fun q hq=>by have:=hfull.each q hq; omega
 have HX:=Zh hx;have HLL:=Zh hL;rw [hL] at RC
 have hx18:1 <= x 18 /\ x 18 <= 40320:=by
  have:=hx.1 18 Zo;unfold lim at this;split at this <;> omega
 obtain ⟨hx18a,hx18b⟩:=hx18;have RB:RdI (w.alloc (.cells (bk x) 23)) w.heap.size 0 x:=RdI.new x 23 rfl;have hB0:Below w.heap.size w (w.alloc (.cells (bk x) 23)):=b_al (Below.refl _ _) Zl _;have h0:=hr.below hB0;clear hL hfull hr hx hk;go_enter Tryz.func62,Tryz.ntmps62;go_wp2_with (go_at_call 99; (with_reducible refine (RC _ h0).mono ?_); rintro e w1 ⟨v,rfl,hown,hb1⟩; obtain ⟨A5,c5,rfl,hrd,hcap,_⟩:=hown.form; clear hown);have RB1:=RB.below hb1;have HK1:=Zh (h0.below hb1);have HB1:=Zh (b_cl hB0 Zl hb1);have HRD:=Zh hrd;have L8:=last_bd (long:=x 8) (cut:=(m:Int)) HT.out;have L13:=last_bd (long:=x 13) (cut:=(m:Int)) HT.out;have HLN:Hid (L.length = L.length):=Zh rfl;obtain ⟨q,hq⟩:∃ q,L.length = q:=⟨_,rfl⟩;rw [hq] at hlen hcap ⊢;have HQ:=Zh hq;have CL1:=fun p:BelowOf w1=>last16_any A5 c5 q L (x 8) (m:Int) p.world HQ.out (HRD.out.below p.ok) HT.out Zo
 have CL2:=fun p:BelowOf w1=>last16_any A5 c5 q L (x 13) (m:Int) p.world HQ.out (HRD.out.below p.ok) HT.out Zo
 obtain ⟨dw,hdw⟩:∃ dw,docLast L (x 8) (m:Int) = dw:=⟨_,rfl⟩;obtain ⟨sb,hsb⟩:∃ sb,docLast L (x 13) (m:Int) = sb:=⟨_,rfl⟩;have HDW:=Zh hdw;have HSB:=Zh hsb;rw [hdw] at CL1 L8;rw [hsb] at CL2 L13;have q8:∀ p:BelowOf w1,p.world.cell? ⟨w.heap.size,8,none⟩ = some (.int .i64 (x 8)):=fun p=>p.cell (RB1.2 8 Zo)
 have q13:∀ p:BelowOf w1,p.world.cell? ⟨w.heap.size,13,none⟩ = some (.int .i64 (x 13)):=fun p=>p.cell (RB1.2 13 Zo)
 clear hdw hsb hq RB h0 hB0 hb1 hrd RC HLN;refine wp_region_bel Zk Zk ?_
 repeat (go_big_quiet_step (first | (go_at_call 100; (with_reducible exact Calls.bel_of (CL1 _))) | (go_at_call 100; (with_reducible exact Calls.bel_of (CL2 _)))))
 refine wpQuiet_nil ?_;refine bel_all fun w2 hb2=>?_
 have RB2:=RB1.below hb2;have HK2:=Zh (HK1.out.below hb2);have HRD2:=Zh (HRD.out.below hb2);have HB2:=Zh (HB1.out.trans (hb2.mono HB1.out.size));clear q8 q13 CL1 CL2 RB1 HK1 HRD HB1 hb2;have hil:m < ks.length:=by rw [HK.out]; exact hm
 obtain ⟨ba,ka,rfl,hba,hkc⟩:=HK2.out (nonnil hil);have hkm:=hkc m hil;rw [show ks.getD m 0 = kAt ks m from rfl] at hkm;obtain ⟨kv,hkv⟩:∃ kv,kAt ks m = kv:=⟨_,rfl⟩;rw [hkv] at hkm;have HKV:=Zh hkv;have f18:w2.cell? ⟨w.heap.size,18,none⟩ = some (.int .i64 (x 18)):=RB2.2 18 Zo;have m0:(0:Int) <= (m:Int):=by omega
 have m1:(m:Int) < (n:Int):=by omega
 have ne18:(x 18 == 0) = false:=by simp; omega
 have ne18b:¬ x 18 = 0:=by omega
 have hr0:=Int.emod_nonneg (m:Int) (show x 18 ≠ 0 by omega);have hr1:=mod_le (show (0:Int) <= (m:Int) by omega) hx18a;have etm:(m:Int).tmod (x 18) = (m:Int) % x 18:=Int.tmod_eq_emod_of_nonneg Zo;obtain ⟨rm,hrm⟩:∃ rm,(m:Int) % x 18 = rm:=⟨_,rfl⟩;rw [hrm] at hr0 hr1 etm;have HRM:=Zh hrm;have hwrm:=wrap14 rm Zo Zo;have hww:IntKind.i64.wrap ((m:Int) - rm) = (m:Int) - rm:=wrap14 _ Zo Zo;clear hkv hrm hkc;go_upto_region 5 with fail
 clear f18 etm hwrm hww ne18 ne18b;(try go_frame);go_cut [14] (fun u14 wx=>u14 = .bool (endsB L m) /\ Below w2.heap.size w2 wx)
 case first =>
  rcases Nat.eq_zero_or_pos q with hq0 | hq0
  case inl =>
   subst hq0;have he:endsB L m = false:=by unfold endsB; rw [HQ.out]; rfl
   have HE:=Zh he;have d0:decide ((0:Int) < 0) = false:=by decide
   clear he;go_wp2;go_meet;exact ⟨by rw [HE.out],Below.refl _ _⟩
  case inr =>
   obtain ⟨j,rfl⟩:∃ j,q = j + 1:=⟨q - 1,by omega⟩;have hjl:j < L.length:=by rw [HQ.out]; omega
   obtain ⟨b,off,f,t,rfl,hbb,hc0,hc1,hs⟩:=HRD2.out.at_ hjl
   have he:endsB L m = (t == (m:Int)):=by
    unfold endsB; rw [HQ.out,Nat.add_sub_cancel,hs.out]; simp
   have HE:=Zh he;have d0:decide ((0:Int) < (j:Int) + 1) = true:=decide_eq_true Zo;have d1:(j:Int) + 1 - 1 = (j:Int):=by omega
   have j0:(0:Int) <= (j:Int):=by omega
   have j1:(j:Int) < (j:Int) + 1:=by omega
   clear he hs;go_wp2;go_meet;exact ⟨by rw [HE.out],Below.refl _ _⟩
 case rest =>
 obtain ⟨rfl,hb3⟩:=hcut;rename World=>w4
 have RB4:=RB2.below hb3;have HK4:=Zh (HK2.out.below hb3);have HR4:=Zh (HRD2.out.below hb3);have HB4:=Zh (HB2.out.trans (hb3.mono HB2.out.size));rw [<- hb3.cell (p:=⟨ba,_,none⟩) hba] at hkm;have hbw:ba < w4.heap.size:=by have:=hb3.size; omega
 have RQ:∀ w',(∃ p:BelowOf w4,w' = p.world) -> RdI w' w.heap.size 0 x:=fun _ ⟨p,e⟩=>e ▸ RB4.below p.ok
 have CC:=fun (a b lo hi:Int) (p:BelowOf w4) a1 a2 a3 a4=>(count16_any _ c n ks a b lo hi p.world HK.out (HK4.out.below p.ok) a1 a2 a3 a4 Zo).mono fun e w' (q:e = _ /\ p.world = w')=>(⟨q.1,q.2 ▸ Below.refl _ _⟩:e = .returned (.int .i64 (cntK ks a b lo (hi + 1).toNat)) /\ Below p.world.heap.size p.world w')
 have CB:=fun p:BelowOf w4=>brkend16_any x A5 c5 q L p.world HQ.out (HR4.out.below p.ok) HT.out Zo
 have em:((m:Int) + 1).toNat = m + 1:=by omega
 clear hb3 HK2 HRD2 HB2 RB2 hba
 have HD:=Zh (show docBreaks x ks m 0 = (decide (kv = 3) && decide (x 0 < cntK ks 3 3 (docBrk x L).1 (m + 1))) by
  have hdoc:docBreaks x ks m 0 = (decide (kAt ks m = 3) && decide (x 0 < cntK ks 3 3 (docBrk x (restsL ks m)).1 (m + 1))):=rfl
  rw [hdoc,HKV.out,HLL.out])
 have bb:=brk_bd (x:=x) HT.out;obtain ⟨bv,hbv⟩:∃ bv,(docBrk x L).1 = bv:=⟨_,rfl⟩;rw [hbv] at bb CB HD;clear hbv;by_cases hk3:kv = 3
 case neg =>
  have e3:(kv == 3) = false:=by simpa using hk3
  have HV:=Zh (show docBreaks x ks m 0 = false by rw [HD.out,decide_eq_false hk3]; rfl);clear hk3 HD CC CB;rw [e3];go_wp2;refine wp_region_bel Zk Zk ?_
  repeat (go_big_quiet_step (first | (fail)))
  refine wpQuiet_nil ?_;refine bel_all fun w5 hb5=>?_
  go_wp2;go_ret;exact ⟨by rw [HV.out]; try rfl,HB4.out.trans (hb5.mono HB4.out.size)⟩
 have e3:(kv == 3) = true:=by simpa using hk3
 rw [e3];have HD:=Zh (show _ = _ from HD.out);rw [decide_eq_true hk3,Bool.true_and] at HD;clear hk3;have CN:=fun p:BelowOf w4=>CC 3 3 bv (m:Int) p Zo Zo Zo Zo
 rw [em] at CN;obtain ⟨cv,hcv⟩:∃ cv,cntK ks 3 3 bv (m + 1) = cv:=⟨_,rfl⟩;rw [hcv] at CN HD;have HV:=Zh (show docBreaks x ks m 0 = decide (x 0 < cv) from HD.out);have q0:∀ p:BelowOf w4,p.world.cell? ⟨w.heap.size,0,none⟩ = some (.int .i64 (x 0)):=fun p=>p.cell (RB4.2 0 Zo)
 clear HD hcv CC;go_wp2;refine wp_region_bel Zk Zk ?_
 repeat (go_big_quiet_step (first | (go_at_call 101; (with_reducible exact Calls.bel_of (CN _))) | (go_at_call 102; (with_reducible exact Calls.bel_of (CB _)))))
 refine wpQuiet_load_bk Zv 23 _ rfl _ _ rfl x _ RQ Tryz.underlying23 rfl Zk ?_;go_frame
 repeat (go_big_quiet_step (first | (go_at_call 101; (with_reducible exact Calls.bel_of (CN _))) | (go_at_call 102; (with_reducible exact Calls.bel_of (CB _)))))
 refine wpQuiet_nil ?_;refine bel_all fun w5 hb5=>?_
 go_wp2;go_ret;exact ⟨by rw [HV.out]; try rfl,HB4.out.trans (hb5.mono HB4.out.size)⟩
set_option maxRecDepth 20000 in
set_option maxHeartbeats 8000000 in
theorem breaks16_1 (x:Nat -> Int) (A:Option Addr) (c n m:Nat) (ks:List Int) (w:World) (hk:ks.length = n) (hr:RdN w A ks) (h4:n <= 40320) (hm:m < n) (hx:May x) :
  Calls Tryz.prog 62 #[.agg (bk x),.slice A n c,.int .i64 (m:Nat),.int .i64 1] w fun e w'=>e = .returned (.bool (docBreaks x ks m 1)) /\ Below w.heap.size w w':=by
 have RC:=fun W h=>rests16_any A c n m ks W hk h Zo Zo
 have HK:=Zh hk;have hfull:=full_ok ks m;have hlen:=rests_len ks m;change Lk (restsL ks m) _ at hfull;obtain ⟨L,hL⟩:∃ L,restsL ks m = L:=⟨_,rfl⟩;rw [hL] at hfull hlen;have HT:Hid (InT L):=Zh fun q hq=>by have:=hfull.each q hq; omega
 have HI:Hid (∀ q ∈ L,q.2 <= n):=Zh fun q hq=>by have:=hfull.each q hq; omega
 have HX:=Zh hx;have HLL:=Zh hL;rw [hL] at RC
 have hx18:1 <= x 18 /\ x 18 <= 40320:=by
  have:=hx.1 18 Zo;unfold lim at this;split at this <;> omega
 obtain ⟨hx18a,hx18b⟩:=hx18;have RB:RdI (w.alloc (.cells (bk x) 23)) w.heap.size 0 x:=RdI.new x 23 rfl;have hB0:Below w.heap.size w (w.alloc (.cells (bk x) 23)):=b_al (Below.refl _ _) Zl _;have h0:=hr.below hB0;clear hL hfull hr hx hk;go_enter Tryz.func62,Tryz.ntmps62;go_wp2_with (go_at_call 99; (with_reducible refine (RC _ h0).mono ?_); rintro e w1 ⟨v,rfl,hown,hb1⟩; obtain ⟨A5,c5,rfl,hrd,hcap,_⟩:=hown.form; clear hown);have RB1:=RB.below hb1;have HK1:=Zh (h0.below hb1);have HB1:=Zh (b_cl hB0 Zl hb1);have HRD:=Zh hrd;have L8:=last_bd (long:=x 8) (cut:=(m:Int)) HT.out;have L13:=last_bd (long:=x 13) (cut:=(m:Int)) HT.out;have HLN:Hid (L.length = L.length):=Zh rfl;obtain ⟨q,hq⟩:∃ q,L.length = q:=⟨_,rfl⟩;rw [hq] at hlen hcap ⊢;have HQ:=Zh hq;have CL1:=fun p:BelowOf w1=>last16_any A5 c5 q L (x 8) (m:Int) p.world HQ.out (HRD.out.below p.ok) HT.out Zo
 have CL2:=fun p:BelowOf w1=>last16_any A5 c5 q L (x 13) (m:Int) p.world HQ.out (HRD.out.below p.ok) HT.out Zo
 obtain ⟨dw,hdw⟩:∃ dw,docLast L (x 8) (m:Int) = dw:=⟨_,rfl⟩;obtain ⟨sb,hsb⟩:∃ sb,docLast L (x 13) (m:Int) = sb:=⟨_,rfl⟩;have HDW:=Zh hdw;have HSB:=Zh hsb;rw [hdw] at CL1 L8;rw [hsb] at CL2 L13;have q8:∀ p:BelowOf w1,p.world.cell? ⟨w.heap.size,8,none⟩ = some (.int .i64 (x 8)):=fun p=>p.cell (RB1.2 8 Zo)
 have q13:∀ p:BelowOf w1,p.world.cell? ⟨w.heap.size,13,none⟩ = some (.int .i64 (x 13)):=fun p=>p.cell (RB1.2 13 Zo)
 clear hdw hsb hq RB h0 hB0 hb1 hrd RC HLN;refine wp_region_bel Zk Zk ?_
 repeat (go_big_quiet_step (first | (go_at_call 100; (with_reducible exact Calls.bel_of (CL1 _))) | (go_at_call 100; (with_reducible exact Calls.bel_of (CL2 _)))))
 refine wpQuiet_nil ?_;refine bel_all fun w2 hb2=>?_
 have RB2:=RB1.below hb2;have HK2:=Zh (HK1.out.below hb2);have HRD2:=Zh (HRD.out.below hb2);have HB2:=Zh (HB1.out.trans (hb2.mono HB1.out.size));clear q8 q13 CL1 CL2 RB1 HK1 HRD HB1 hb2;have hil:m < ks.length:=by rw [HK.out]; exact hm
 obtain ⟨ba,ka,rfl,hba,hkc⟩:=HK2.out (nonnil hil);have hkm:=hkc m hil;rw [show ks.getD m 0 = kAt ks m from rfl] at hkm;obtain ⟨kv,hkv⟩:∃ kv,kAt ks m = kv:=⟨_,rfl⟩;rw [hkv] at hkm;have HKV:=Zh hkv;have f18:w2.cell? ⟨w.heap.size,18,none⟩ = some (.int .i64 (x 18)):=RB2.2 18 Zo;have m0:(0:Int) <= (m:Int):=by omega
 have m1:(m:Int) < (n:Int):=by omega
 have ne18:(x 18 == 0) = false:=by simp; omega
 have ne18b:¬ x 18 = 0:=by omega
 have hr0:=Int.emod_nonneg (m:Int) (show x 18 ≠ 0 by omega);have hr1:=mod_le (show (0:Int) <= (m:Int) by omega) hx18a;have etm:(m:Int).tmod (x 18) = (m:Int) % x 18:=Int.tmod_eq_emod_of_nonneg Zo;obtain ⟨rm,hrm⟩:∃ rm,(m:Int) % x 18 = rm:=⟨_,rfl⟩;rw [hrm] at hr0 hr1 etm;have HRM:=Zh hrm;have hwrm:=wrap14 rm Zo Zo;have hww:IntKind.i64.wrap ((m:Int) - rm) = (m:Int) - rm:=wrap14 _ Zo Zo;clear hkv hrm hkc;go_upto_region 5 with fail
 clear f18 etm hwrm hww ne18 ne18b;(try go_frame);go_cut [14] (fun u14 wx=>u14 = .bool (endsB L m) /\ Below w2.heap.size w2 wx)
 case first =>
  rcases Nat.eq_zero_or_pos q with hq0 | hq0
  case inl =>
   subst hq0;have he:endsB L m = false:=by unfold endsB; rw [HQ.out]; rfl
   have HE:=Zh he;have d0:decide ((0:Int) < 0) = false:=by decide
   clear he;go_wp2;go_meet;exact ⟨by rw [HE.out],Below.refl _ _⟩
  case inr =>
   obtain ⟨j,rfl⟩:∃ j,q = j + 1:=⟨q - 1,by omega⟩;have hjl:j < L.length:=by rw [HQ.out]; omega
   obtain ⟨b,off,f,t,rfl,hbb,hc0,hc1,hs⟩:=HRD2.out.at_ hjl
   have he:endsB L m = (t == (m:Int)):=by
    unfold endsB; rw [HQ.out,Nat.add_sub_cancel,hs.out]; simp
   have HE:=Zh he;have d0:decide ((0:Int) < (j:Int) + 1) = true:=decide_eq_true Zo;have d1:(j:Int) + 1 - 1 = (j:Int):=by omega
   have j0:(0:Int) <= (j:Int):=by omega
   have j1:(j:Int) < (j:Int) + 1:=by omega
   clear he hs;go_wp2;go_meet;exact ⟨by rw [HE.out],Below.refl _ _⟩
 case rest =>
 obtain ⟨rfl,hb3⟩:=hcut;rename World=>w4
 have RB4:=RB2.below hb3;have HK4:=Zh (HK2.out.below hb3);have HR4:=Zh (HRD2.out.below hb3);have HB4:=Zh (HB2.out.trans (hb3.mono HB2.out.size));rw [<- hb3.cell (p:=⟨ba,_,none⟩) hba] at hkm;have hbw:ba < w4.heap.size:=by have:=hb3.size; omega
 have RQ:∀ w',(∃ p:BelowOf w4,w' = p.world) -> RdI w' w.heap.size 0 x:=fun _ ⟨p,e⟩=>e ▸ RB4.below p.ok
 have CC:=fun (a b lo hi:Int) (p:BelowOf w4) a1 a2 a3 a4=>(count16_any _ c n ks a b lo hi p.world HK.out (HK4.out.below p.ok) a1 a2 a3 a4 Zo).mono fun e w' (q:e = _ /\ p.world = w')=>(⟨q.1,q.2 ▸ Below.refl _ _⟩:e = .returned (.int .i64 (cntK ks a b lo (hi + 1).toNat)) /\ Below p.world.heap.size p.world w')
 have CB:=fun p:BelowOf w4=>brkend16_any x A5 c5 q L p.world HQ.out (HR4.out.below p.ok) HT.out Zo
 have em:((m:Int) + 1).toNat = m + 1:=by omega
 clear hb3 HK2 HRD2 HB2 RB2 hba
 have HD:=Zh (show docBreaks x ks m 1 = (decide (kv = 3) && decide (x 5 < cntK ks 3 3 dw (m + 1))) by
  have hdoc:docBreaks x ks m 1 = (decide (kAt ks m = 3) && decide (x 5 < cntK ks 3 3 (docLast (restsL ks m) (x 8) m) (m + 1))):=rfl
  rw [hdoc,HKV.out,HLL.out,HDW.out])
 by_cases hk3:kv = 3
 case neg =>
  have e3:(kv == 3) = false:=by simpa using hk3
  have HV:=Zh (show docBreaks x ks m 1 = false by rw [HD.out,decide_eq_false hk3]; rfl);clear hk3 HD CC CB;rw [e3];go_wp2;refine wp_region_bel Zk Zk ?_
  repeat (go_big_quiet_step (first | (fail)))
  refine wpQuiet_nil ?_;refine bel_all fun w5 hb5=>?_
  go_wp2;go_ret;exact ⟨by rw [HV.out]; try rfl,HB4.out.trans (hb5.mono HB4.out.size)⟩
 have e3:(kv == 3) = true:=by simpa using hk3
 rw [e3];have HD:=Zh (show _ = _ from HD.out);rw [decide_eq_true hk3,Bool.true_and] at HD;clear hk3;have CN:=fun p:BelowOf w4=>CC 3 3 dw (m:Int) p Zo Zo Zo Zo
 rw [em] at CN;obtain ⟨cv,hcv⟩:∃ cv,cntK ks 3 3 dw (m + 1) = cv:=⟨_,rfl⟩;rw [hcv] at CN HD;have HV:=Zh (show docBreaks x ks m 1 = decide (x 5 < cv) from HD.out);have q5:∀ p:BelowOf w4,p.world.cell? ⟨w.heap.size,5,none⟩ = some (.int .i64 (x 5)):=fun p=>p.cell (RB4.2 5 Zo)
 clear HD hcv CC CB;go_wp2;refine wp_region_bel Zk Zk ?_
 repeat (go_big_quiet_step (first | (go_at_call 101; (with_reducible exact Calls.bel_of (CN _)))))
 refine wpQuiet_nil ?_;refine bel_all fun w5 hb5=>?_
 go_wp2;go_ret;exact ⟨by rw [HV.out]; try rfl,HB4.out.trans (hb5.mono HB4.out.size)⟩
end Go.Proofs.YtiamnbddbmgffaaGreatDoor
