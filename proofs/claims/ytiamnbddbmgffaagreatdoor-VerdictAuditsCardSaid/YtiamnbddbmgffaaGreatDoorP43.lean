/- Texts of the proofs of VerdictAudits, VerdictAll, VerdictRising, pressed: DutyBrk2, DutyBrk3, DutyBrk4, DutyBrk5, DutyBrk6. Conditions: as each theorem says. -/
import Derived.Test.YtiamnbddbmgffaaGreatDoorRows
import Derived.Test.YtiamnbddbmgffaaGreatDoorP42
namespace Go.Proofs.YtiamnbddbmgffaaGreatDoor
open Go.RowKit
set_option linter.unusedVariables false
set_option maxRecDepth 20000 in
set_option maxHeartbeats 8000000 in
theorem breaks16_2 (x:Nat -> Int) (A:Option Addr) (c n m:Nat) (ks:List Int) (w:World) (hk:ks.length = n) (hr:RdN w A ks) (h4:n <= 40320) (hm:m < n) (hx:May x) :
  Calls Tryz.prog 62 #[.agg (bk x),.slice A n c,.int .i64 (m:Nat),.int .i64 2] w fun e w'=>e = .returned (.bool (docBreaks x ks m 2)) /\ Below w.heap.size w w':=by
 have RC:=fun W h=>rests16_any A c n m ks W hk h Zo Zo
 have HK:=Zh hk;have hfull:=full_ok ks m;have hlen:=rests_len ks m;change Lk (restsL ks m) _ at hfull;obtain ⟨L,hL⟩:∃ L,restsL ks m = L:=⟨_,rfl⟩;rw [hL] at hfull hlen;have HT:Hid (InT L):=Zh fun q hq=>by have:=hfull.each q hq; omega
 have HI:Hid (∀ q ∈ L,q.2 <= n):=Zh fun q hq=>by have:=hfull.each q hq; omega
 have HX:=Zh hx;have HLL:=Zh hL;rw [hL] at RC
 have hx18:1 <= x 18 /\ x 18 <= 40320:=by
  have:=hx.1 18 Zo;unfold lim at this;split at this <;> omega
 obtain ⟨hx18a,hx18b⟩:=hx18;have RB:RdI (w.alloc (.cells (bk x) 23)) w.heap.size 0 x:=RdI.new x 23 rfl;have hB0:Below w.heap.size w (w.alloc (.cells (bk x) 23)):=b_al (Below.refl _ _) Zl _;have h0:=hr.below hB0;clear hL hfull hr hx hk;go_enter Tryz.func62,Tryz.ntmps62;go_wp2_with (go_at_call 99; (with_reducible refine (RC _ h0).mono ?_); rintro e w1 ⟨v,rfl,hown,hb1⟩; obtain ⟨A5,c5,rfl,hrd,hcap,_⟩:=hown.form; clear hown);have RB1:=RB.below hb1;have HK1:=Zh (h0.below hb1);have HB1:=Zh (b_cl hB0 Zl hb1);have HRD:=Zh hrd;have L8:=last_bd (long:=x 8) (cut:=(m:Int)) HT.out;have L13:=last_bd (long:=x 13) (cut:=(m:Int)) HT.out;have HLN:Hid (L.length = L.length):=Zh rfl;obtain ⟨q,hq⟩:∃ q,L.length = q:=⟨_,rfl⟩;rw [hq] at hlen hcap ⊢;have HQ:=Zh hq;have CL1:=fun p:BelowOf w1=>last16_any A5 c5 q L (x 8) (m:Int) p.world HQ.out (HRD.out.below p.ok) HT.out Zo
 have CL2:=fun p:BelowOf w1=>last16_any A5 c5 q L (x 13) (m:Int) p.world HQ.out (HRD.out.below p.ok) HT.out Zo
 obtain ⟨dw,hdw⟩:∃ dw,docLast L (x 8) (m:Int) = dw:=⟨_,rfl⟩;obtain ⟨sb,hsb⟩:∃ sb,docLast L (x 13) (m:Int) = sb:=⟨_,rfl⟩;have HDW:=Zh hdw;have HSB:=Zh hsb;rw [hdw] at CL1 L8;rw [hsb] at CL2 L13;have q8:∀ p:BelowOf w1,p.world.cell? ⟨w.heap.size,8,none⟩ = some (.int .i64 (x 8)):=fun p=>p.cell (RB1.2 8 Zo)
 have q13:∀ p:BelowOf w1,p.world.cell? ⟨w.heap.size,13,none⟩ = some (.int .i64 (x 13)):=fun p=>p.cell (RB1.2 13 Zo)
 clear hdw hsb hq RB h0 hB0 hb1 hrd RC HLN;refine wp_region_bel Zk Zk ?_
 repeat (go_big_quiet_step (first | (go_at_call 100; (with_reducible exact Calls.bel_of (CL1 _))) | (go_at_call 100; (with_reducible exact Calls.bel_of (CL2 _)))))
 refine wpQuiet_nil ?_;refine bel_all fun w2 hb2=>?_
 have RB2:=RB1.below hb2;have HK2:=Zh (HK1.out.below hb2);have HRD2:=Zh (HRD.out.below hb2);have HB2:=Zh (HB1.out.trans (hb2.mono HB1.out.size));clear q8 q13 CL1 CL2 RB1 HK1 HRD HB1 hb2;have hil:m < ks.length:=by rw [HK.out]; exact hm
 obtain ⟨ba,ka,rfl,hba,hkc⟩:=HK2.out (nonnil hil);have hkm:=hkc m hil;rw [show ks.getD m 0 = kAt ks m from rfl] at hkm;obtain ⟨kv,hkv⟩:∃ kv,kAt ks m = kv:=⟨_,rfl⟩;rw [hkv] at hkm;have HKV:=Zh hkv;have f18:w2.cell? ⟨w.heap.size,18,none⟩ = some (.int .i64 (x 18)):=RB2.2 18 Zo;have m0:(0:Int) <= (m:Int):=by omega
 have m1:(m:Int) < (n:Int):=by omega
 have ne18:(x 18 == 0) = false:=by simp; omega
 have ne18b:¬ x 18 = 0:=by omega
 have hr0:=Int.emod_nonneg (m:Int) (show x 18 ≠ 0 by omega);have hr1:=mod_le (show (0:Int) <= (m:Int) by omega) hx18a;have etm:(m:Int).tmod (x 18) = (m:Int) % x 18:=Int.tmod_eq_emod_of_nonneg Zo;obtain ⟨rm,hrm⟩:∃ rm,(m:Int) % x 18 = rm:=⟨_,rfl⟩;rw [hrm] at hr0 hr1 etm;have HRM:=Zh hrm;have hwrm:=wrap14 rm Zo Zo;have hww:IntKind.i64.wrap ((m:Int) - rm) = (m:Int) - rm:=wrap14 _ Zo Zo;clear hkv hrm hkc;go_upto_region 5 with fail
 clear f18 etm hwrm hww ne18 ne18b;(try go_frame);go_cut [14] (fun u14 wx=>u14 = .bool (endsB L m) /\ Below w2.heap.size w2 wx)
 case first =>
  rcases Nat.eq_zero_or_pos q with hq0 | hq0
  case inl =>
   subst hq0;have he:endsB L m = false:=by unfold endsB; rw [HQ.out]; rfl
   have HE:=Zh he;have d0:decide ((0:Int) < 0) = false:=by decide
   clear he;go_wp2;go_meet;exact ⟨by rw [HE.out],Below.refl _ _⟩
  case inr =>
   obtain ⟨j,rfl⟩:∃ j,q = j + 1:=⟨q - 1,by omega⟩;have hjl:j < L.length:=by rw [HQ.out]; omega
   obtain ⟨b,off,f,t,rfl,hbb,hc0,hc1,hs⟩:=HRD2.out.at_ hjl
   have he:endsB L m = (t == (m:Int)):=by
    unfold endsB; rw [HQ.out,Nat.add_sub_cancel,hs.out]; simp
   have HE:=Zh he;have d0:decide ((0:Int) < (j:Int) + 1) = true:=decide_eq_true Zo;have d1:(j:Int) + 1 - 1 = (j:Int):=by omega
   have j0:(0:Int) <= (j:Int):=by omega
   have j1:(j:Int) < (j:Int) + 1:=by omega
   clear he hs;go_wp2;go_meet;exact ⟨by rw [HE.out],Below.refl _ _⟩
 case rest =>
 obtain ⟨rfl,hb3⟩:=hcut;rename World=>w4
 have RB4:=RB2.below hb3;have HK4:=Zh (HK2.out.below hb3);have HR4:=Zh (HRD2.out.below hb3);have HB4:=Zh (HB2.out.trans (hb3.mono HB2.out.size));rw [<- hb3.cell (p:=⟨ba,_,none⟩) hba] at hkm;have hbw:ba < w4.heap.size:=by have:=hb3.size; omega
 have RQ:∀ w',(∃ p:BelowOf w4,w' = p.world) -> RdI w' w.heap.size 0 x:=fun _ ⟨p,e⟩=>e ▸ RB4.below p.ok
 have CC:=fun (a b lo hi:Int) (p:BelowOf w4) a1 a2 a3 a4=>(count16_any _ c n ks a b lo hi p.world HK.out (HK4.out.below p.ok) a1 a2 a3 a4 Zo).mono fun e w' (q:e = _ /\ p.world = w')=>(⟨q.1,q.2 ▸ Below.refl _ _⟩:e = .returned (.int .i64 (cntK ks a b lo (hi + 1).toNat)) /\ Below p.world.heap.size p.world w')
 have CB:=fun p:BelowOf w4=>brkend16_any x A5 c5 q L p.world HQ.out (HR4.out.below p.ok) HT.out Zo
 have em:((m:Int) + 1).toNat = m + 1:=by omega
 clear hb3 HK2 HRD2 HB2 RB2 hba
 have HD:=Zh (show docBreaks x ks m 2 = (decide (kv = 3) && (decide (cntK ks 3 3 dw (m + 1) = x 4 + 1) && decide (x 6 < longN x ks L sb m))) by
  have hdoc:docBreaks x ks m 2 = (decide (kAt ks m = 3) && (decide (cntK ks 3 3 (docLast (restsL ks m) (x 8) m) (m + 1) = x 4 + 1) && decide (x 6 < longN x ks (restsL ks m) (docLast (restsL ks m) (x 13) m) m))):=rfl
  rw [hdoc,HLL.out,HKV.out,HDW.out,HSB.out])
 by_cases hk3:kv = 3
 case neg =>
  have e3:(kv == 3) = false:=by simpa using hk3
  have HV:=Zh (show docBreaks x ks m 2 = false by rw [HD.out,decide_eq_false hk3]; rfl);clear hk3 HD CC CB;rw [e3];go_wp2;refine wp_region_bel Zk Zk ?_
  repeat (go_big_quiet_step (first | (fail)))
  refine wpQuiet_nil ?_;refine bel_all fun w5 hb5=>?_
  go_wp2;go_ret;exact ⟨by rw [HV.out]; try rfl,HB4.out.trans (hb5.mono HB4.out.size)⟩
 have e3:(kv == 3) = true:=by simpa using hk3
 rw [e3];have HD:=Zh (show _ = _ from HD.out);rw [decide_eq_true hk3,Bool.true_and] at HD;clear hk3;have t4:=may_time HX.out 4 Zo;have hw1:=wrap14 (x 4 + 1) Zo Zo;have CN:=fun p:BelowOf w4=>CC 3 3 dw (m:Int) p Zo Zo Zo Zo
 rw [em] at CN;have CG:=fun p:BelowOf w4=>longers16_any x _ A5 c n c5 q m ks L sb p.world HK.out (HK4.out.below p.ok) HQ.out (HR4.out.below p.ok) HT.out HI.out h4 Zo hm L13.1 L13.2
 obtain ⟨cv,hcv⟩:∃ cv,cntK ks 3 3 dw (m + 1) = cv:=⟨_,rfl⟩;obtain ⟨lv,hlv⟩:∃ lv,longN x ks L sb m = lv:=⟨_,rfl⟩;rw [hcv] at CN HD;rw [hlv] at CG HD;have q4:∀ p:BelowOf w4,p.world.cell? ⟨w.heap.size,4,none⟩ = some (.int .i64 (x 4)):=fun p=>p.cell (RB4.2 4 Zo)
 have q6:∀ p:BelowOf w4,p.world.cell? ⟨w.heap.size,6,none⟩ = some (.int .i64 (x 6)):=fun p=>p.cell (RB4.2 6 Zo)
 clear hcv hlv CC CB;by_cases g1:cv = x 4 + 1
 case neg =>
  have e1:(cv == x 4 + 1) = false:=by simpa using g1
  have HV:=Zh (show docBreaks x ks m 2 = false by rw [HD.out,decide_eq_false g1]; rfl);clear HD g1;go_wp2;refine wp_region_bel Zk Zk ?_
  repeat (go_big_quiet_step (first | (go_at_call 101; (with_reducible exact Calls.bel_of (CN _))) | (go_at_call 103; (with_reducible exact Calls.bel_of (CG _)))))
  refine wpQuiet_nil ?_;refine bel_all fun w5 hb5=>?_
  go_wp2;go_ret;exact ⟨by rw [HV.out]; try rfl,HB4.out.trans (hb5.mono HB4.out.size)⟩
 have e1:(cv == x 4 + 1) = true:=by simpa using g1
 have HV:=Zh (show docBreaks x ks m 2 = decide (x 6 < lv) by rw [HD.out,decide_eq_true g1]; rfl);clear HD g1;go_wp2;refine wp_region_bel Zk Zk ?_
 repeat (go_big_quiet_step (first | (go_at_call 101; (with_reducible exact Calls.bel_of (CN _))) | (go_at_call 103; (with_reducible exact Calls.bel_of (CG _)))))
 refine wpQuiet_load_bk Zv 23 _ rfl _ _ rfl x _ RQ Tryz.underlying23 rfl Zk ?_;go_frame
 repeat (go_big_quiet_step (first | (go_at_call 101; (with_reducible exact Calls.bel_of (CN _))) | (go_at_call 103; (with_reducible exact Calls.bel_of (CG _)))))
 refine wpQuiet_nil ?_;refine bel_all fun w5 hb5=>?_
 go_wp2;go_ret;exact ⟨by rw [HV.out]; try rfl,HB4.out.trans (hb5.mono HB4.out.size)⟩
set_option maxRecDepth 20000 in
set_option maxHeartbeats 8000000 in
theorem breaks16_3 (x:Nat -> Int) (A:Option Addr) (c n m:Nat) (ks:List Int) (w:World) (hk:ks.length = n) (hr:RdN w A ks) (h4:n <= 40320) (hm:m < n) (hx:May x) :
  Calls Tryz.prog 62 #[.agg (bk x),.slice A n c,.int .i64 (m:Nat),.int .i64 3] w fun e w'=>e = .returned (.bool (docBreaks x ks m 3)) /\ Below w.heap.size w w':=by
 have RC:=fun W h=>rests16_any A c n m ks W hk h Zo Zo
 have HK:=Zh hk;have hfull:=full_ok ks m;have hlen:=rests_len ks m;change Lk (restsL ks m) _ at hfull;obtain ⟨L,hL⟩:∃ L,restsL ks m = L:=⟨_,rfl⟩;rw [hL] at hfull hlen;have HT:Hid (InT L):=Zh fun q hq=>by have:=hfull.each q hq; omega
 have HI:Hid (∀ q ∈ L,q.2 <= n):=Zh fun q hq=>by have:=hfull.each q hq; omega
 have HX:=Zh hx;have HLL:=Zh hL;rw [hL] at RC
 have hx18:1 <= x 18 /\ x 18 <= 40320:=by
  have:=hx.1 18 Zo;unfold lim at this;split at this <;> omega
 obtain ⟨hx18a,hx18b⟩:=hx18;have RB:RdI (w.alloc (.cells (bk x) 23)) w.heap.size 0 x:=RdI.new x 23 rfl;have hB0:Below w.heap.size w (w.alloc (.cells (bk x) 23)):=b_al (Below.refl _ _) Zl _;have h0:=hr.below hB0;clear hL hfull hr hx hk;go_enter Tryz.func62,Tryz.ntmps62;go_wp2_with (go_at_call 99; (with_reducible refine (RC _ h0).mono ?_); rintro e w1 ⟨v,rfl,hown,hb1⟩; obtain ⟨A5,c5,rfl,hrd,hcap,_⟩:=hown.form; clear hown);have RB1:=RB.below hb1;have HK1:=Zh (h0.below hb1);have HB1:=Zh (b_cl hB0 Zl hb1);have HRD:=Zh hrd;have L8:=last_bd (long:=x 8) (cut:=(m:Int)) HT.out;have L13:=last_bd (long:=x 13) (cut:=(m:Int)) HT.out;have HLN:Hid (L.length = L.length):=Zh rfl;obtain ⟨q,hq⟩:∃ q,L.length = q:=⟨_,rfl⟩;rw [hq] at hlen hcap ⊢;have HQ:=Zh hq;have CL1:=fun p:BelowOf w1=>last16_any A5 c5 q L (x 8) (m:Int) p.world HQ.out (HRD.out.below p.ok) HT.out Zo
 have CL2:=fun p:BelowOf w1=>last16_any A5 c5 q L (x 13) (m:Int) p.world HQ.out (HRD.out.below p.ok) HT.out Zo
 obtain ⟨dw,hdw⟩:∃ dw,docLast L (x 8) (m:Int) = dw:=⟨_,rfl⟩;obtain ⟨sb,hsb⟩:∃ sb,docLast L (x 13) (m:Int) = sb:=⟨_,rfl⟩;have HDW:=Zh hdw;have HSB:=Zh hsb;rw [hdw] at CL1 L8;rw [hsb] at CL2 L13;have q8:∀ p:BelowOf w1,p.world.cell? ⟨w.heap.size,8,none⟩ = some (.int .i64 (x 8)):=fun p=>p.cell (RB1.2 8 Zo)
 have q13:∀ p:BelowOf w1,p.world.cell? ⟨w.heap.size,13,none⟩ = some (.int .i64 (x 13)):=fun p=>p.cell (RB1.2 13 Zo)
 clear hdw hsb hq RB h0 hB0 hb1 hrd RC HLN;refine wp_region_bel Zk Zk ?_
 repeat (go_big_quiet_step (first | (go_at_call 100; (with_reducible exact Calls.bel_of (CL1 _))) | (go_at_call 100; (with_reducible exact Calls.bel_of (CL2 _)))))
 refine wpQuiet_nil ?_;refine bel_all fun w2 hb2=>?_
 have RB2:=RB1.below hb2;have HK2:=Zh (HK1.out.below hb2);have HRD2:=Zh (HRD.out.below hb2);have HB2:=Zh (HB1.out.trans (hb2.mono HB1.out.size));clear q8 q13 CL1 CL2 RB1 HK1 HRD HB1 hb2;have hil:m < ks.length:=by rw [HK.out]; exact hm
 obtain ⟨ba,ka,rfl,hba,hkc⟩:=HK2.out (nonnil hil);have hkm:=hkc m hil;rw [show ks.getD m 0 = kAt ks m from rfl] at hkm;obtain ⟨kv,hkv⟩:∃ kv,kAt ks m = kv:=⟨_,rfl⟩;rw [hkv] at hkm;have HKV:=Zh hkv;have f18:w2.cell? ⟨w.heap.size,18,none⟩ = some (.int .i64 (x 18)):=RB2.2 18 Zo;have m0:(0:Int) <= (m:Int):=by omega
 have m1:(m:Int) < (n:Int):=by omega
 have ne18:(x 18 == 0) = false:=by simp; omega
 have ne18b:¬ x 18 = 0:=by omega
 have hr0:=Int.emod_nonneg (m:Int) (show x 18 ≠ 0 by omega);have hr1:=mod_le (show (0:Int) <= (m:Int) by omega) hx18a;have etm:(m:Int).tmod (x 18) = (m:Int) % x 18:=Int.tmod_eq_emod_of_nonneg Zo;obtain ⟨rm,hrm⟩:∃ rm,(m:Int) % x 18 = rm:=⟨_,rfl⟩;rw [hrm] at hr0 hr1 etm;have HRM:=Zh hrm;have hwrm:=wrap14 rm Zo Zo;have hww:IntKind.i64.wrap ((m:Int) - rm) = (m:Int) - rm:=wrap14 _ Zo Zo;clear hkv hrm hkc;go_upto_region 5 with fail
 clear f18 etm hwrm hww ne18 ne18b;(try go_frame);go_cut [14] (fun u14 wx=>u14 = .bool (endsB L m) /\ Below w2.heap.size w2 wx)
 case first =>
  rcases Nat.eq_zero_or_pos q with hq0 | hq0
  case inl =>
   subst hq0;have he:endsB L m = false:=by unfold endsB; rw [HQ.out]; rfl
   have HE:=Zh he;have d0:decide ((0:Int) < 0) = false:=by decide
   clear he;go_wp2;go_meet;exact ⟨by rw [HE.out],Below.refl _ _⟩
  case inr =>
   obtain ⟨j,rfl⟩:∃ j,q = j + 1:=⟨q - 1,by omega⟩;have hjl:j < L.length:=by rw [HQ.out]; omega
   obtain ⟨b,off,f,t,rfl,hbb,hc0,hc1,hs⟩:=HRD2.out.at_ hjl
   have he:endsB L m = (t == (m:Int)):=by
    unfold endsB; rw [HQ.out,Nat.add_sub_cancel,hs.out]; simp
   have HE:=Zh he;have d0:decide ((0:Int) < (j:Int) + 1) = true:=decide_eq_true Zo;have d1:(j:Int) + 1 - 1 = (j:Int):=by omega
   have j0:(0:Int) <= (j:Int):=by omega
   have j1:(j:Int) < (j:Int) + 1:=by omega
   clear he hs;go_wp2;go_meet;exact ⟨by rw [HE.out],Below.refl _ _⟩
 case rest =>
 obtain ⟨rfl,hb3⟩:=hcut;rename World=>w4
 have RB4:=RB2.below hb3;have HK4:=Zh (HK2.out.below hb3);have HR4:=Zh (HRD2.out.below hb3);have HB4:=Zh (HB2.out.trans (hb3.mono HB2.out.size));rw [<- hb3.cell (p:=⟨ba,_,none⟩) hba] at hkm;have hbw:ba < w4.heap.size:=by have:=hb3.size; omega
 have RQ:∀ w',(∃ p:BelowOf w4,w' = p.world) -> RdI w' w.heap.size 0 x:=fun _ ⟨p,e⟩=>e ▸ RB4.below p.ok
 have CC:=fun (a b lo hi:Int) (p:BelowOf w4) a1 a2 a3 a4=>(count16_any _ c n ks a b lo hi p.world HK.out (HK4.out.below p.ok) a1 a2 a3 a4 Zo).mono fun e w' (q:e = _ /\ p.world = w')=>(⟨q.1,q.2 ▸ Below.refl _ _⟩:e = .returned (.int .i64 (cntK ks a b lo (hi + 1).toNat)) /\ Below p.world.heap.size p.world w')
 have CB:=fun p:BelowOf w4=>brkend16_any x A5 c5 q L p.world HQ.out (HR4.out.below p.ok) HT.out Zo
 have em:((m:Int) + 1).toNat = m + 1:=by omega
 clear hb3 HK2 HRD2 HB2 RB2 hba
 have HD:=Zh (show docBreaks x ks m 3 = (decide (kv = 3) && decide (x 15 < cntK ks 3 3 ((m:Int) - rm) (m + 1))) by
  have hdoc:docBreaks x ks m 3 = (decide (kAt ks m = 3) && decide (x 15 < cntK ks 3 3 ((m:Int) - (m:Int) % x 18) (m + 1))):=rfl
  rw [hdoc,HKV.out,HRM.out])
 by_cases hk3:kv = 3
 case neg =>
  have e3:(kv == 3) = false:=by simpa using hk3
  have HV:=Zh (show docBreaks x ks m 3 = false by rw [HD.out,decide_eq_false hk3]; rfl);clear hk3 HD CC CB;rw [e3];go_wp2;refine wp_region_bel Zk Zk ?_
  repeat (go_big_quiet_step (first | (fail)))
  refine wpQuiet_nil ?_;refine bel_all fun w5 hb5=>?_
  go_wp2;go_ret;exact ⟨by rw [HV.out]; try rfl,HB4.out.trans (hb5.mono HB4.out.size)⟩
 have e3:(kv == 3) = true:=by simpa using hk3
 rw [e3];have HD:=Zh (show _ = _ from HD.out);rw [decide_eq_true hk3,Bool.true_and] at HD;clear hk3;have CN:=fun p:BelowOf w4=>CC 3 3 ((m:Int) - rm) (m:Int) p Zo Zo Zo Zo
 rw [em] at CN;obtain ⟨cv,hcv⟩:∃ cv,cntK ks 3 3 ((m:Int) - rm) (m + 1) = cv:=⟨_,rfl⟩;rw [hcv] at CN HD;have HV:=Zh (show docBreaks x ks m 3 = decide (x 15 < cv) from HD.out);have q15:∀ p:BelowOf w4,p.world.cell? ⟨w.heap.size,15,none⟩ = some (.int .i64 (x 15)):=fun p=>p.cell (RB4.2 15 Zo)
 clear HD hcv CC CB;go_wp2;refine wp_region_bel Zk Zk ?_
 repeat (go_big_quiet_step (first | (go_at_call 101; (with_reducible exact Calls.bel_of (CN _)))))
 refine wpQuiet_nil ?_;refine bel_all fun w5 hb5=>?_
 go_wp2;go_ret;exact ⟨by rw [HV.out]; try rfl,HB4.out.trans (hb5.mono HB4.out.size)⟩
set_option maxRecDepth 20000 in
set_option maxHeartbeats 8000000 in
theorem breaks16_4 (x:Nat -> Int) (A:Option Addr) (c n m:Nat) (ks:List Int) (w:World) (hk:ks.length = n) (hr:RdN w A ks) (h4:n <= 40320) (hm:m < n) (hx:May x) :
  Calls Tryz.prog 62 #[.agg (bk x),.slice A n c,.int .i64 (m:Nat),.int .i64 4] w fun e w'=>e = .returned (.bool (docBreaks x ks m 4)) /\ Below w.heap.size w w':=by
 have RC:=fun W h=>rests16_any A c n m ks W hk h Zo Zo
 have HK:=Zh hk;have hfull:=full_ok ks m;have hlen:=rests_len ks m;change Lk (restsL ks m) _ at hfull;obtain ⟨L,hL⟩:∃ L,restsL ks m = L:=⟨_,rfl⟩;rw [hL] at hfull hlen;have HT:Hid (InT L):=Zh fun q hq=>by have:=hfull.each q hq; omega
 have HI:Hid (∀ q ∈ L,q.2 <= n):=Zh fun q hq=>by have:=hfull.each q hq; omega
 have HX:=Zh hx;have HLL:=Zh hL;rw [hL] at RC
 have hx18:1 <= x 18 /\ x 18 <= 40320:=by
  have:=hx.1 18 Zo;unfold lim at this;split at this <;> omega
 obtain ⟨hx18a,hx18b⟩:=hx18;have RB:RdI (w.alloc (.cells (bk x) 23)) w.heap.size 0 x:=RdI.new x 23 rfl;have hB0:Below w.heap.size w (w.alloc (.cells (bk x) 23)):=b_al (Below.refl _ _) Zl _;have h0:=hr.below hB0;clear hL hfull hr hx hk;go_enter Tryz.func62,Tryz.ntmps62;go_wp2_with (go_at_call 99; (with_reducible refine (RC _ h0).mono ?_); rintro e w1 ⟨v,rfl,hown,hb1⟩; obtain ⟨A5,c5,rfl,hrd,hcap,_⟩:=hown.form; clear hown);have RB1:=RB.below hb1;have HK1:=Zh (h0.below hb1);have HB1:=Zh (b_cl hB0 Zl hb1);have HRD:=Zh hrd;have L8:=last_bd (long:=x 8) (cut:=(m:Int)) HT.out;have L13:=last_bd (long:=x 13) (cut:=(m:Int)) HT.out;have HLN:Hid (L.length = L.length):=Zh rfl;obtain ⟨q,hq⟩:∃ q,L.length = q:=⟨_,rfl⟩;rw [hq] at hlen hcap ⊢;have HQ:=Zh hq;have CL1:=fun p:BelowOf w1=>last16_any A5 c5 q L (x 8) (m:Int) p.world HQ.out (HRD.out.below p.ok) HT.out Zo
 have CL2:=fun p:BelowOf w1=>last16_any A5 c5 q L (x 13) (m:Int) p.world HQ.out (HRD.out.below p.ok) HT.out Zo
 obtain ⟨dw,hdw⟩:∃ dw,docLast L (x 8) (m:Int) = dw:=⟨_,rfl⟩;obtain ⟨sb,hsb⟩:∃ sb,docLast L (x 13) (m:Int) = sb:=⟨_,rfl⟩;have HDW:=Zh hdw;have HSB:=Zh hsb;rw [hdw] at CL1 L8;rw [hsb] at CL2 L13;have q8:∀ p:BelowOf w1,p.world.cell? ⟨w.heap.size,8,none⟩ = some (.int .i64 (x 8)):=fun p=>p.cell (RB1.2 8 Zo)
 have q13:∀ p:BelowOf w1,p.world.cell? ⟨w.heap.size,13,none⟩ = some (.int .i64 (x 13)):=fun p=>p.cell (RB1.2 13 Zo)
 clear hdw hsb hq RB h0 hB0 hb1 hrd RC HLN;refine wp_region_bel Zk Zk ?_
 repeat (go_big_quiet_step (first | (go_at_call 100; (with_reducible exact Calls.bel_of (CL1 _))) | (go_at_call 100; (with_reducible exact Calls.bel_of (CL2 _)))))
 refine wpQuiet_nil ?_;refine bel_all fun w2 hb2=>?_
 have RB2:=RB1.below hb2;have HK2:=Zh (HK1.out.below hb2);have HRD2:=Zh (HRD.out.below hb2);have HB2:=Zh (HB1.out.trans (hb2.mono HB1.out.size));clear q8 q13 CL1 CL2 RB1 HK1 HRD HB1 hb2;have hil:m < ks.length:=by rw [HK.out]; exact hm
 obtain ⟨ba,ka,rfl,hba,hkc⟩:=HK2.out (nonnil hil);have hkm:=hkc m hil;rw [show ks.getD m 0 = kAt ks m from rfl] at hkm;obtain ⟨kv,hkv⟩:∃ kv,kAt ks m = kv:=⟨_,rfl⟩;rw [hkv] at hkm;have HKV:=Zh hkv;have f18:w2.cell? ⟨w.heap.size,18,none⟩ = some (.int .i64 (x 18)):=RB2.2 18 Zo;have m0:(0:Int) <= (m:Int):=by omega
 have m1:(m:Int) < (n:Int):=by omega
 have ne18:(x 18 == 0) = false:=by simp; omega
 have ne18b:¬ x 18 = 0:=by omega
 have hr0:=Int.emod_nonneg (m:Int) (show x 18 ≠ 0 by omega);have hr1:=mod_le (show (0:Int) <= (m:Int) by omega) hx18a;have etm:(m:Int).tmod (x 18) = (m:Int) % x 18:=Int.tmod_eq_emod_of_nonneg Zo;obtain ⟨rm,hrm⟩:∃ rm,(m:Int) % x 18 = rm:=⟨_,rfl⟩;rw [hrm] at hr0 hr1 etm;have HRM:=Zh hrm;have hwrm:=wrap14 rm Zo Zo;have hww:IntKind.i64.wrap ((m:Int) - rm) = (m:Int) - rm:=wrap14 _ Zo Zo;clear hkv hrm hkc;go_upto_region 5 with fail
 clear f18 etm hwrm hww ne18 ne18b;(try go_frame);go_cut [14] (fun u14 wx=>u14 = .bool (endsB L m) /\ Below w2.heap.size w2 wx)
 case first =>
  rcases Nat.eq_zero_or_pos q with hq0 | hq0
  case inl =>
   subst hq0;have he:endsB L m = false:=by unfold endsB; rw [HQ.out]; rfl
   have HE:=Zh he;have d0:decide ((0:Int) < 0) = false:=by decide
   clear he;go_wp2;go_meet;exact ⟨by rw [HE.out],Below.refl _ _⟩
  case inr =>
   obtain ⟨j,rfl⟩:∃ j,q = j + 1:=⟨q - 1,by omega⟩;have hjl:j < L.length:=by rw [HQ.out]; omega
   obtain ⟨b,off,f,t,rfl,hbb,hc0,hc1,hs⟩:=HRD2.out.at_ hjl
   have he:endsB L m = (t == (m:Int)):=by
    unfold endsB; rw [HQ.out,Nat.add_sub_cancel,hs.out]; simp
   have HE:=Zh he;have d0:decide ((0:Int) < (j:Int) + 1) = true:=decide_eq_true Zo;have d1:(j:Int) + 1 - 1 = (j:Int):=by omega
   have j0:(0:Int) <= (j:Int):=by omega
   have j1:(j:Int) < (j:Int) + 1:=by omega
   clear he hs;go_wp2;go_meet;exact ⟨by rw [HE.out],Below.refl _ _⟩
 case rest =>
 obtain ⟨rfl,hb3⟩:=hcut;rename World=>w4
 have RB4:=RB2.below hb3;have HK4:=Zh (HK2.out.below hb3);have HR4:=Zh (HRD2.out.below hb3);have HB4:=Zh (HB2.out.trans (hb3.mono HB2.out.size));rw [<- hb3.cell (p:=⟨ba,_,none⟩) hba] at hkm;have hbw:ba < w4.heap.size:=by have:=hb3.size; omega
 have RQ:∀ w',(∃ p:BelowOf w4,w' = p.world) -> RdI w' w.heap.size 0 x:=fun _ ⟨p,e⟩=>e ▸ RB4.below p.ok
 have CC:=fun (a b lo hi:Int) (p:BelowOf w4) a1 a2 a3 a4=>(count16_any _ c n ks a b lo hi p.world HK.out (HK4.out.below p.ok) a1 a2 a3 a4 Zo).mono fun e w' (q:e = _ /\ p.world = w')=>(⟨q.1,q.2 ▸ Below.refl _ _⟩:e = .returned (.int .i64 (cntK ks a b lo (hi + 1).toNat)) /\ Below p.world.heap.size p.world w')
 have CB:=fun p:BelowOf w4=>brkend16_any x A5 c5 q L p.world HQ.out (HR4.out.below p.ok) HT.out Zo
 have em:((m:Int) + 1).toNat = m + 1:=by omega
 clear hb3 HK2 HRD2 HB2 RB2 hba
 have HD:=Zh (show docBreaks x ks m 4 = (decide (kv = 3) && decide (x 16 < cntK ks 3 3 ((m:Int) - rm - x 18) (m + 1))) by
  have hdoc:docBreaks x ks m 4 = (decide (kAt ks m = 3) && decide (x 16 < cntK ks 3 3 ((m:Int) - (m:Int) % x 18 - x 18) (m + 1))):=rfl
  rw [hdoc,HKV.out,HRM.out])
 have q18:∀ p:BelowOf w4,p.world.cell? ⟨w.heap.size,18,none⟩ = some (.int .i64 (x 18)):=fun p=>p.cell (RB4.2 18 Zo)
 have hw4:=wrap14 ((m:Int) - rm - x 18) Zo Zo;by_cases hk3:kv = 3
 case neg =>
  have e3:(kv == 3) = false:=by simpa using hk3
  have HV:=Zh (show docBreaks x ks m 4 = false by rw [HD.out,decide_eq_false hk3]; rfl);clear hk3 HD CC CB;rw [e3];go_wp2;refine wp_region_bel Zk Zk ?_
  repeat (go_big_quiet_step (first | (fail)))
  refine wpQuiet_nil ?_;refine bel_all fun w5 hb5=>?_
  go_wp2;go_ret;exact ⟨by rw [HV.out]; try rfl,HB4.out.trans (hb5.mono HB4.out.size)⟩
 have e3:(kv == 3) = true:=by simpa using hk3
 rw [e3];have HD:=Zh (show _ = _ from HD.out);rw [decide_eq_true hk3,Bool.true_and] at HD;clear hk3;have CN:=fun p:BelowOf w4=>CC 3 3 ((m:Int) - rm - x 18) (m:Int) p Zo Zo Zo Zo
 rw [em] at CN;obtain ⟨cv,hcv⟩:∃ cv,cntK ks 3 3 ((m:Int) - rm - x 18) (m + 1) = cv:=⟨_,rfl⟩;rw [hcv] at CN HD;have HV:=Zh (show docBreaks x ks m 4 = decide (x 16 < cv) from HD.out);have q16:∀ p:BelowOf w4,p.world.cell? ⟨w.heap.size,16,none⟩ = some (.int .i64 (x 16)):=fun p=>p.cell (RB4.2 16 Zo)
 clear HD hcv CC CB;go_wp2;refine wp_region_bel Zk Zk ?_
 repeat (go_big_quiet_step (first | (go_at_call 101; (with_reducible exact Calls.bel_of (CN _)))))
 refine wpQuiet_nil ?_;refine bel_all fun w5 hb5=>?_
 go_wp2;go_ret;exact ⟨by rw [HV.out]; try rfl,HB4.out.trans (hb5.mono HB4.out.size)⟩
set_option maxRecDepth 20000 in
set_option maxHeartbeats 8000000 in
theorem breaks16_5 (x:Nat -> Int) (A:Option Addr) (c n m:Nat) (ks:List Int) (w:World) (hk:ks.length = n) (hr:RdN w A ks) (h4:n <= 40320) (hm:m < n) (hx:May x) :
  Calls Tryz.prog 62 #[.agg (bk x),.slice A n c,.int .i64 (m:Nat),.int .i64 5] w fun e w'=>e = .returned (.bool (docBreaks x ks m 5)) /\ Below w.heap.size w w':=by
 have RC:=fun W h=>rests16_any A c n m ks W hk h Zo Zo
 have HK:=Zh hk;have hfull:=full_ok ks m;have hlen:=rests_len ks m;change Lk (restsL ks m) _ at hfull;obtain ⟨L,hL⟩:∃ L,restsL ks m = L:=⟨_,rfl⟩;rw [hL] at hfull hlen;have HT:Hid (InT L):=Zh fun q hq=>by have:=hfull.each q hq; omega
 have HI:Hid (∀ q ∈ L,q.2 <= n):=Zh fun q hq=>by have:=hfull.each q hq; omega
 have HX:=Zh hx;have HLL:=Zh hL;rw [hL] at RC
 have hx18:1 <= x 18 /\ x 18 <= 40320:=by
  have:=hx.1 18 Zo;unfold lim at this;split at this <;> omega
 obtain ⟨hx18a,hx18b⟩:=hx18;have RB:RdI (w.alloc (.cells (bk x) 23)) w.heap.size 0 x:=RdI.new x 23 rfl;have hB0:Below w.heap.size w (w.alloc (.cells (bk x) 23)):=b_al (Below.refl _ _) Zl _;have h0:=hr.below hB0;clear hL hfull hr hx hk;go_enter Tryz.func62,Tryz.ntmps62;go_wp2_with (go_at_call 99; (with_reducible refine (RC _ h0).mono ?_); rintro e w1 ⟨v,rfl,hown,hb1⟩; obtain ⟨A5,c5,rfl,hrd,hcap,_⟩:=hown.form; clear hown);have RB1:=RB.below hb1;have HK1:=Zh (h0.below hb1);have HB1:=Zh (b_cl hB0 Zl hb1);have HRD:=Zh hrd;have L8:=last_bd (long:=x 8) (cut:=(m:Int)) HT.out;have L13:=last_bd (long:=x 13) (cut:=(m:Int)) HT.out;have HLN:Hid (L.length = L.length):=Zh rfl;obtain ⟨q,hq⟩:∃ q,L.length = q:=⟨_,rfl⟩;rw [hq] at hlen hcap ⊢;have HQ:=Zh hq;have CL1:=fun p:BelowOf w1=>last16_any A5 c5 q L (x 8) (m:Int) p.world HQ.out (HRD.out.below p.ok) HT.out Zo
 have CL2:=fun p:BelowOf w1=>last16_any A5 c5 q L (x 13) (m:Int) p.world HQ.out (HRD.out.below p.ok) HT.out Zo
 obtain ⟨dw,hdw⟩:∃ dw,docLast L (x 8) (m:Int) = dw:=⟨_,rfl⟩;obtain ⟨sb,hsb⟩:∃ sb,docLast L (x 13) (m:Int) = sb:=⟨_,rfl⟩;have HDW:=Zh hdw;have HSB:=Zh hsb;rw [hdw] at CL1 L8;rw [hsb] at CL2 L13;have q8:∀ p:BelowOf w1,p.world.cell? ⟨w.heap.size,8,none⟩ = some (.int .i64 (x 8)):=fun p=>p.cell (RB1.2 8 Zo)
 have q13:∀ p:BelowOf w1,p.world.cell? ⟨w.heap.size,13,none⟩ = some (.int .i64 (x 13)):=fun p=>p.cell (RB1.2 13 Zo)
 clear hdw hsb hq RB h0 hB0 hb1 hrd RC HLN;refine wp_region_bel Zk Zk ?_
 repeat (go_big_quiet_step (first | (go_at_call 100; (with_reducible exact Calls.bel_of (CL1 _))) | (go_at_call 100; (with_reducible exact Calls.bel_of (CL2 _)))))
 refine wpQuiet_nil ?_;refine bel_all fun w2 hb2=>?_
 have RB2:=RB1.below hb2;have HK2:=Zh (HK1.out.below hb2);have HRD2:=Zh (HRD.out.below hb2);have HB2:=Zh (HB1.out.trans (hb2.mono HB1.out.size));clear q8 q13 CL1 CL2 RB1 HK1 HRD HB1 hb2;have hil:m < ks.length:=by rw [HK.out]; exact hm
 obtain ⟨ba,ka,rfl,hba,hkc⟩:=HK2.out (nonnil hil);have hkm:=hkc m hil;rw [show ks.getD m 0 = kAt ks m from rfl] at hkm;obtain ⟨kv,hkv⟩:∃ kv,kAt ks m = kv:=⟨_,rfl⟩;rw [hkv] at hkm;have HKV:=Zh hkv;have f18:w2.cell? ⟨w.heap.size,18,none⟩ = some (.int .i64 (x 18)):=RB2.2 18 Zo;have m0:(0:Int) <= (m:Int):=by omega
 have m1:(m:Int) < (n:Int):=by omega
 have ne18:(x 18 == 0) = false:=by simp; omega
 have ne18b:¬ x 18 = 0:=by omega
 have hr0:=Int.emod_nonneg (m:Int) (show x 18 ≠ 0 by omega);have hr1:=mod_le (show (0:Int) <= (m:Int) by omega) hx18a;have etm:(m:Int).tmod (x 18) = (m:Int) % x 18:=Int.tmod_eq_emod_of_nonneg Zo;obtain ⟨rm,hrm⟩:∃ rm,(m:Int) % x 18 = rm:=⟨_,rfl⟩;rw [hrm] at hr0 hr1 etm;have HRM:=Zh hrm;have hwrm:=wrap14 rm Zo Zo;have hww:IntKind.i64.wrap ((m:Int) - rm) = (m:Int) - rm:=wrap14 _ Zo Zo;clear hkv hrm hkc;go_upto_region 5 with fail
 clear f18 etm hwrm hww ne18 ne18b;(try go_frame);go_cut [14] (fun u14 wx=>u14 = .bool (endsB L m) /\ Below w2.heap.size w2 wx)
 case first =>
  rcases Nat.eq_zero_or_pos q with hq0 | hq0
  case inl =>
   subst hq0;have he:endsB L m = false:=by unfold endsB; rw [HQ.out]; rfl
   have HE:=Zh he;have d0:decide ((0:Int) < 0) = false:=by decide
   clear he;go_wp2;go_meet;exact ⟨by rw [HE.out],Below.refl _ _⟩
  case inr =>
   obtain ⟨j,rfl⟩:∃ j,q = j + 1:=⟨q - 1,by omega⟩;have hjl:j < L.length:=by rw [HQ.out]; omega
   obtain ⟨b,off,f,t,rfl,hbb,hc0,hc1,hs⟩:=HRD2.out.at_ hjl
   have he:endsB L m = (t == (m:Int)):=by
    unfold endsB; rw [HQ.out,Nat.add_sub_cancel,hs.out]; simp
   have HE:=Zh he;have d0:decide ((0:Int) < (j:Int) + 1) = true:=decide_eq_true Zo;have d1:(j:Int) + 1 - 1 = (j:Int):=by omega
   have j0:(0:Int) <= (j:Int):=by omega
   have j1:(j:Int) < (j:Int) + 1:=by omega
   clear he hs;go_wp2;go_meet;exact ⟨by rw [HE.out],Below.refl _ _⟩
 case rest =>
 obtain ⟨rfl,hb3⟩:=hcut;rename World=>w4
 have RB4:=RB2.below hb3;have HK4:=Zh (HK2.out.below hb3);have HR4:=Zh (HRD2.out.below hb3);have HB4:=Zh (HB2.out.trans (hb3.mono HB2.out.size));rw [<- hb3.cell (p:=⟨ba,_,none⟩) hba] at hkm;have hbw:ba < w4.heap.size:=by have:=hb3.size; omega
 have RQ:∀ w',(∃ p:BelowOf w4,w' = p.world) -> RdI w' w.heap.size 0 x:=fun _ ⟨p,e⟩=>e ▸ RB4.below p.ok
 have CC:=fun (a b lo hi:Int) (p:BelowOf w4) a1 a2 a3 a4=>(count16_any _ c n ks a b lo hi p.world HK.out (HK4.out.below p.ok) a1 a2 a3 a4 Zo).mono fun e w' (q:e = _ /\ p.world = w')=>(⟨q.1,q.2 ▸ Below.refl _ _⟩:e = .returned (.int .i64 (cntK ks a b lo (hi + 1).toNat)) /\ Below p.world.heap.size p.world w')
 have CB:=fun p:BelowOf w4=>brkend16_any x A5 c5 q L p.world HQ.out (HR4.out.below p.ok) HT.out Zo
 have em:((m:Int) + 1).toNat = m + 1:=by omega
 clear hb3 HK2 HRD2 HB2 RB2 hba
 have HV:=Zh (show docBreaks x ks m 5 = decide (x 11 - x 8 <= (m:Int) - dw) by
  have hdoc:docBreaks x ks m 5 = decide (x 11 - x 8 <= (m:Int) - docLast (restsL ks m) (x 8) m):=rfl
  rw [hdoc,HLL.out,HDW.out])
 have f11:w4.cell? ⟨w.heap.size,11,none⟩ = some (.int .i64 (x 11)):=RB4.2 11 Zo;have f8:w4.cell? ⟨w.heap.size,8,none⟩ = some (.int .i64 (x 8)):=RB4.2 8 Zo;have t8:=may_time HX.out 8 Zo;have t11:=may_time HX.out 11 Zo;have hw1:=wrap14 ((m:Int) - dw) Zo Zo;have hw2:=wrap14 (x 11 - x 8) Zo Zo;clear CC CB RQ;go_wp2;go_ret;exact ⟨by rw [HV.out]; try rfl,HB4.out⟩
set_option maxRecDepth 20000 in
set_option maxHeartbeats 8000000 in
theorem breaks16_6 (x:Nat -> Int) (A:Option Addr) (c n m:Nat) (ks:List Int) (w:World) (hk:ks.length = n) (hr:RdN w A ks) (h4:n <= 40320) (hm:m < n) (hx:May x) :
  Calls Tryz.prog 62 #[.agg (bk x),.slice A n c,.int .i64 (m:Nat),.int .i64 6] w fun e w'=>e = .returned (.bool (docBreaks x ks m 6)) /\ Below w.heap.size w w':=by
 have RC:=fun W h=>rests16_any A c n m ks W hk h Zo Zo
 have HK:=Zh hk;have hfull:=full_ok ks m;have hlen:=rests_len ks m;change Lk (restsL ks m) _ at hfull;obtain ⟨L,hL⟩:∃ L,restsL ks m = L:=⟨_,rfl⟩;rw [hL] at hfull hlen;have HT:Hid (InT L):=Zh fun q hq=>by have:=hfull.each q hq; omega
 have HI:Hid (∀ q ∈ L,q.2 <= n):=Zh fun q hq=>by have:=hfull.each q hq; omega
 have HX:=Zh hx;have HLL:=Zh hL;rw [hL] at RC
 have hx18:1 <= x 18 /\ x 18 <= 40320:=by
  have:=hx.1 18 Zo;unfold lim at this;split at this <;> omega
 obtain ⟨hx18a,hx18b⟩:=hx18;have RB:RdI (w.alloc (.cells (bk x) 23)) w.heap.size 0 x:=RdI.new x 23 rfl;have hB0:Below w.heap.size w (w.alloc (.cells (bk x) 23)):=b_al (Below.refl _ _) Zl _;have h0:=hr.below hB0;clear hL hfull hr hx hk;go_enter Tryz.func62,Tryz.ntmps62;go_wp2_with (go_at_call 99; (with_reducible refine (RC _ h0).mono ?_); rintro e w1 ⟨v,rfl,hown,hb1⟩; obtain ⟨A5,c5,rfl,hrd,hcap,_⟩:=hown.form; clear hown);have RB1:=RB.below hb1;have HK1:=Zh (h0.below hb1);have HB1:=Zh (b_cl hB0 Zl hb1);have HRD:=Zh hrd;have L8:=last_bd (long:=x 8) (cut:=(m:Int)) HT.out;have L13:=last_bd (long:=x 13) (cut:=(m:Int)) HT.out;have HLN:Hid (L.length = L.length):=Zh rfl;obtain ⟨q,hq⟩:∃ q,L.length = q:=⟨_,rfl⟩;rw [hq] at hlen hcap ⊢;have HQ:=Zh hq;have CL1:=fun p:BelowOf w1=>last16_any A5 c5 q L (x 8) (m:Int) p.world HQ.out (HRD.out.below p.ok) HT.out Zo
 have CL2:=fun p:BelowOf w1=>last16_any A5 c5 q L (x 13) (m:Int) p.world HQ.out (HRD.out.below p.ok) HT.out Zo
 obtain ⟨dw,hdw⟩:∃ dw,docLast L (x 8) (m:Int) = dw:=⟨_,rfl⟩;obtain ⟨sb,hsb⟩:∃ sb,docLast L (x 13) (m:Int) = sb:=⟨_,rfl⟩;have HDW:=Zh hdw;have HSB:=Zh hsb;rw [hdw] at CL1 L8;rw [hsb] at CL2 L13;have q8:∀ p:BelowOf w1,p.world.cell? ⟨w.heap.size,8,none⟩ = some (.int .i64 (x 8)):=fun p=>p.cell (RB1.2 8 Zo)
 have q13:∀ p:BelowOf w1,p.world.cell? ⟨w.heap.size,13,none⟩ = some (.int .i64 (x 13)):=fun p=>p.cell (RB1.2 13 Zo)
 clear hdw hsb hq RB h0 hB0 hb1 hrd RC HLN;refine wp_region_bel Zk Zk ?_
 repeat (go_big_quiet_step (first | (go_at_call 100; (with_reducible exact Calls.bel_of (CL1 _))) | (go_at_call 100; (with_reducible exact Calls.bel_of (CL2 _)))))
 refine wpQuiet_nil ?_;refine bel_all fun w2 hb2=>?_
 have RB2:=RB1.below hb2;have HK2:=Zh (HK1.out.below hb2);have HRD2:=Zh (HRD.out.below hb2);have HB2:=Zh (HB1.out.trans (hb2.mono HB1.out.size));clear q8 q13 CL1 CL2 RB1 HK1 HRD HB1 hb2;have hil:m < ks.length:=by rw [HK.out]; exact hm
 obtain ⟨ba,ka,rfl,hba,hkc⟩:=HK2.out (nonnil hil);have hkm:=hkc m hil;rw [show ks.getD m 0 = kAt ks m from rfl] at hkm;obtain ⟨kv,hkv⟩:∃ kv,kAt ks m = kv:=⟨_,rfl⟩;rw [hkv] at hkm;have HKV:=Zh hkv;have f18:w2.cell? ⟨w.heap.size,18,none⟩ = some (.int .i64 (x 18)):=RB2.2 18 Zo;have m0:(0:Int) <= (m:Int):=by omega
 have m1:(m:Int) < (n:Int):=by omega
 have ne18:(x 18 == 0) = false:=by simp; omega
 have ne18b:¬ x 18 = 0:=by omega
 have hr0:=Int.emod_nonneg (m:Int) (show x 18 ≠ 0 by omega);have hr1:=mod_le (show (0:Int) <= (m:Int) by omega) hx18a;have etm:(m:Int).tmod (x 18) = (m:Int) % x 18:=Int.tmod_eq_emod_of_nonneg Zo;obtain ⟨rm,hrm⟩:∃ rm,(m:Int) % x 18 = rm:=⟨_,rfl⟩;rw [hrm] at hr0 hr1 etm;have HRM:=Zh hrm;have hwrm:=wrap14 rm Zo Zo;have hww:IntKind.i64.wrap ((m:Int) - rm) = (m:Int) - rm:=wrap14 _ Zo Zo;clear hkv hrm hkc;go_upto_region 5 with fail
 clear f18 etm hwrm hww ne18 ne18b;(try go_frame);go_cut [14] (fun u14 wx=>u14 = .bool (endsB L m) /\ Below w2.heap.size w2 wx)
 case first =>
  rcases Nat.eq_zero_or_pos q with hq0 | hq0
  case inl =>
   subst hq0;have he:endsB L m = false:=by unfold endsB; rw [HQ.out]; rfl
   have HE:=Zh he;have d0:decide ((0:Int) < 0) = false:=by decide
   clear he;go_wp2;go_meet;exact ⟨by rw [HE.out],Below.refl _ _⟩
  case inr =>
   obtain ⟨j,rfl⟩:∃ j,q = j + 1:=⟨q - 1,by omega⟩;have hjl:j < L.length:=by rw [HQ.out]; omega
   obtain ⟨b,off,f,t,rfl,hbb,hc0,hc1,hs⟩:=HRD2.out.at_ hjl
   have he:endsB L m = (t == (m:Int)):=by
    unfold endsB; rw [HQ.out,Nat.add_sub_cancel,hs.out]; simp
   have HE:=Zh he;have d0:decide ((0:Int) < (j:Int) + 1) = true:=decide_eq_true Zo;have d1:(j:Int) + 1 - 1 = (j:Int):=by omega
   have j0:(0:Int) <= (j:Int):=by omega
   have j1:(j:Int) < (j:Int) + 1:=by omega
   clear he hs;go_wp2;go_meet;exact ⟨by rw [HE.out],Below.refl _ _⟩
 case rest =>
 obtain ⟨rfl,hb3⟩:=hcut;rename World=>w4
 have RB4:=RB2.below hb3;have HK4:=Zh (HK2.out.below hb3);have HR4:=Zh (HRD2.out.below hb3);have HB4:=Zh (HB2.out.trans (hb3.mono HB2.out.size));rw [<- hb3.cell (p:=⟨ba,_,none⟩) hba] at hkm;have hbw:ba < w4.heap.size:=by have:=hb3.size; omega
 have RQ:∀ w',(∃ p:BelowOf w4,w' = p.world) -> RdI w' w.heap.size 0 x:=fun _ ⟨p,e⟩=>e ▸ RB4.below p.ok
 have CC:=fun (a b lo hi:Int) (p:BelowOf w4) a1 a2 a3 a4=>(count16_any _ c n ks a b lo hi p.world HK.out (HK4.out.below p.ok) a1 a2 a3 a4 Zo).mono fun e w' (q:e = _ /\ p.world = w')=>(⟨q.1,q.2 ▸ Below.refl _ _⟩:e = .returned (.int .i64 (cntK ks a b lo (hi + 1).toNat)) /\ Below p.world.heap.size p.world w')
 have CB:=fun p:BelowOf w4=>brkend16_any x A5 c5 q L p.world HQ.out (HR4.out.below p.ok) HT.out Zo
 have em:((m:Int) + 1).toNat = m + 1:=by omega
 clear hb3 HK2 HRD2 HB2 RB2 hba
 have HD:=Zh (show docBreaks x ks m 6 = (endsB L m && (docRed x L (q - 1) && decide (x 9 < docRedN x L sb q))) by
  have hdoc:docBreaks x ks m 6 = (endsB (restsL ks m) m && (docRed x (restsL ks m) ((restsL ks m).length - 1) && decide (x 9 < docRedN x (restsL ks m) (docLast (restsL ks m) (x 13) m) (restsL ks m).length))):=rfl
  rw [hdoc,HLL.out,HSB.out,HQ.out])
 have he0:q = 0 -> endsB L m = false:=fun h=>by unfold endsB; rw [HQ.out,h]; rfl
 obtain ⟨eb,heb⟩:∃ eb,endsB L m = eb:=⟨_,rfl⟩;rw [heb] at HD he0 ⊢;clear CC CB RQ heb;have HE0:=Zh he0;clear he0;go_wp2_with fail;go_loopw [15,16] (fun v i wr=>∃ (k:Nat) (r:Int),k <= q /\ i = .int .i64 (k:Nat) /\ v = .int .i64 r /\ Hid (docRedN x L sb k = r) /\ 0 <= r /\ r <= k /\ Hid (Below w4.heap.size w4 wr)) (fun _ i _=>q - (intOf i).toNat)
 case atStart=>exact ⟨0,0,Nat.zero_le _,rfl,rfl,Zh rfl,Int.le_refl _,Int.le_refl _,Zh (Below.refl _ _)⟩
 case round =>
  obtain ⟨k,r,hkq,rfl,rfl,HN,hr0',hr1',HB⟩:=hrel;obtain ⟨w5,rfl⟩:∃ w5:World,w5 = wr:=⟨_,rfl⟩;have hsz:=HB.out.size;have RB5:=RB4.below HB.out;have HR5:=Zh (HR4.out.below HB.out);have RD:=fun (k:Nat) W (h:RdS W A5 L) (hk:k < q)=>reduced16_any x A5 c5 q k L W HQ.out h HT.out Zo hk HX.out
  by_cases hlt:k < q
  case neg =>
   obtain rfl:k = q:=by omega
   have HN2:=HN.out;have HD2:=HD.out;rw [HN2] at HD2;have HD3:=Zh HD2;have f9:w5.cell? ⟨w.heap.size,9,none⟩ = some (.int .i64 (x 9)):=RB5.2 9 Zo;clear HN2 HD2 HD HN
   cases eb with
   | false =>
    have HV:=Zh (show docBreaks x ks m 6 = false by rw [HD3.out]; rfl);clear HD3 RD;go_wp2;go_ret;exact ⟨by rw [HV.out]; try rfl,HB4.out.trans (HB.out.mono HB4.out.size)⟩
   | true =>
    have hqp:0 < k:=by
     rcases Nat.eq_zero_or_pos k with h | h
     ·have:=HE0.out h; cases this
     ·exact h
    obtain ⟨j,rfl⟩:∃ j,k = j + 1:=⟨k - 1,by omega⟩;have RJ:=fun W h=>RD j W h Zo
    have HD4:=Zh (show docBreaks x ks m 6 = (docRed x L j && decide (x 9 < r)) by rw [HD3.out]; rfl);obtain ⟨rd,hrd⟩:∃ rd,docRed x L j = rd:=⟨_,rfl⟩;rw [hrd] at HD4 RJ;have d1:(j:Int) + 1 - 1 = (j:Int):=by omega
    clear HD3 RD hrd
    cases rd with
    | false =>
     have HV:=Zh (show docBreaks x ks m 6 = false by rw [HD4.out]; rfl);clear HD4;go_wp2_with (first | refine wpList_load_bk Zv 23 _ rfl _ _ rfl x _ (RB5) Tryz.underlying23 rfl Zk ?_ | (go_at_call 104; (with_reducible refine (RJ _ HR5.out).mono ?_); rintro e w6 ⟨rfl,hb6⟩; have f9':w6.cell? ⟨w.heap.size,9,none⟩ = some (.int .i64 (x 9)):=(RB5.below hb6).2 9 Zo));go_ret;exact ⟨by rw [HV.out]; try rfl,HB4.out.trans ((HB.out.trans (hb6.mono hsz)).mono HB4.out.size)⟩
    | true =>
     have HV:=Zh (show docBreaks x ks m 6 = decide (x 9 < r) by rw [HD4.out]; rfl);clear HD4;go_wp2_with (first | refine wpList_load_bk Zv 23 _ rfl _ _ rfl x _ (RB5) Tryz.underlying23 rfl Zk ?_ | (go_at_call 104; (with_reducible refine (RJ _ HR5.out).mono ?_); rintro e w6 ⟨rfl,hb6⟩; have f9':w6.cell? ⟨w.heap.size,9,none⟩ = some (.int .i64 (x 9)):=(RB5.below hb6).2 9 Zo));go_ret;exact ⟨by rw [HV.out]; try rfl,HB4.out.trans ((HB.out.trans (hb6.mono hsz)).mono HB4.out.size)⟩
  case pos =>
   have hlt':k < L.length:=by rw [HQ.out]; exact hlt
   obtain ⟨b,off,f,t,rfl,hbb,hc0,hc1,hs⟩:=HR5.out.at_ hlt'
   have hst:docRedN x L sb (k + 1) = r + if decide (sb < t) && docRed x L k then 1 else 0:=by
    show docRedN x L sb k + _ = _
    rw [HN.out];unfold redB;rw [hs.out]
   have HM:=Zh hst;have RK:=fun W h=>RD k W h hlt
   obtain ⟨rd,hrd⟩:∃ rd,docRed x L k = rd:=⟨_,rfl⟩;rw [hrd] at HM RK;have k0:(0:Int) <= (k:Int):=by omega
   have k1:(k:Int) < (q:Int):=by omega
   clear hs hst hrd HN RD;by_cases g:sb < t
   case neg =>
    have e1:decide (sb < t) = false:=decide_eq_false g;have HF:=Zh (show docRedN x L sb (k + 1) = r by rw [HM.out,e1]; simp);clear g HM;go_wp2;go_roundw
    case rel=>exact ⟨k + 1,r,by omega,by go_num,rfl,HF,by omega,by omega,HB⟩
    case measure=>simp [intOf]; omega
   have e1:decide (sb < t) = true:=decide_eq_true g
   cases rd with
   | false =>
    have HF:=Zh (show docRedN x L sb (k + 1) = r by rw [HM.out,Bool.and_false]; simp);clear g HM;go_wp2_with (first | refine wpList_load_bk Zv 23 _ rfl _ _ rfl x _ (RB5) Tryz.underlying23 rfl Zk ?_ | (go_at_call 104; (with_reducible refine (RK _ HR5.out).mono ?_); rintro e w6 ⟨rfl,hb6⟩));go_roundw
    case rel=>exact ⟨k + 1,r,by omega,by go_num,rfl,HF,by omega,by omega,Zh (HB.out.trans (hb6.mono hsz))⟩
    case measure=>simp [intOf]; omega
   | true =>
    have HF:=Zh (show docRedN x L sb (k + 1) = r + 1 by rw [HM.out,e1]; rfl);clear g HM;go_wp2_with (first | refine wpList_load_bk Zv 23 _ rfl _ _ rfl x _ (RB5) Tryz.underlying23 rfl Zk ?_ | (go_at_call 104; (with_reducible refine (RK _ HR5.out).mono ?_); rintro e w6 ⟨rfl,hb6⟩));go_roundw
    case rel=>exact ⟨k + 1,r + 1,by omega,by go_num,by go_num,HF,by omega,by omega,Zh (HB.out.trans (hb6.mono hsz))⟩
    case measure=>simp [intOf]; omega
end Go.Proofs.YtiamnbddbmgffaaGreatDoor
