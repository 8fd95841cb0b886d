/- Texts of the proofs of VerdictAudits, VerdictAll, VerdictRising, pressed: DutyBrk7, DutyBrk8, DutyBrk9, DutySince, DutyRefC. Conditions: as each theorem says. -/
import Derived.Test.YtiamnbddbmgffaaGreatDoorRows
import Derived.Test.YtiamnbddbmgffaaGreatDoorP42
import Derived.Test.YtiamnbddbmgffaaGreatDoorP36
namespace Go.Proofs.YtiamnbddbmgffaaGreatDoor
open Go.RowKit
set_option linter.unusedVariables false
set_option maxRecDepth 20000 in
set_option maxHeartbeats 8000000 in
theorem breaks16_7 (x:Nat -> Int) (A:Option Addr) (c n m:Nat) (ks:List Int) (w:World) (hk:ks.length = n) (hr:RdN w A ks) (h4:n <= 40320) (hm:m < n) (hx:May x) :
  Calls Tryz.prog 62 #[.agg (bk x),.slice A n c,.int .i64 (m:Nat),.int .i64 7] w fun e w'=>e = .returned (.bool (docBreaks x ks m 7)) /\ Below w.heap.size w w':=by
 have RC:=fun W h=>rests16_any A c n m ks W hk h Zo Zo
 have HK:=Zh hk;have hfull:=full_ok ks m;have hlen:=rests_len ks m;change Lk (restsL ks m) _ at hfull;obtain ⟨L,hL⟩:∃ L,restsL ks m = L:=⟨_,rfl⟩;rw [hL] at hfull hlen;have HT:Hid (InT L):=Zh fun q hq=>by have:=hfull.each q hq; omega
 have HI:Hid (∀ q ∈ L,q.2 <= n):=Zh fun q hq=>by have:=hfull.each q hq; omega
 have HX:=Zh hx;have HLL:=Zh hL;rw [hL] at RC
 have hx18:1 <= x 18 /\ x 18 <= 40320:=by
  have:=hx.1 18 Zo;unfold lim at this;split at this <;> omega
 obtain ⟨hx18a,hx18b⟩:=hx18;have RB:RdI (w.alloc (.cells (bk x) 23)) w.heap.size 0 x:=RdI.new x 23 rfl;have hB0:Below w.heap.size w (w.alloc (.cells (bk x) 23)):=b_al (Below.refl _ _) Zl _;have h0:=hr.below hB0;clear hL hfull hr hx hk;go_enter Tryz.func62,Tryz.ntmps62;go_wp2_with (go_at_call 99; (with_reducible refine (RC _ h0).mono ?_); rintro e w1 ⟨v,rfl,hown,hb1⟩; obtain ⟨A5,c5,rfl,hrd,hcap,_⟩:=hown.form; clear hown);have RB1:=RB.below hb1;have HK1:=Zh (h0.below hb1);have HB1:=Zh (b_cl hB0 Zl hb1);have HRD:=Zh hrd;have L8:=last_bd (long:=x 8) (cut:=(m:Int)) HT.out;have L13:=last_bd (long:=x 13) (cut:=(m:Int)) HT.out;have HLN:Hid (L.length = L.length):=Zh rfl;obtain ⟨q,hq⟩:∃ q,L.length = q:=⟨_,rfl⟩;rw [hq] at hlen hcap ⊢;have HQ:=Zh hq;have CL1:=fun p:BelowOf w1=>last16_any A5 c5 q L (x 8) (m:Int) p.world HQ.out (HRD.out.below p.ok) HT.out Zo
 have CL2:=fun p:BelowOf w1=>last16_any A5 c5 q L (x 13) (m:Int) p.world HQ.out (HRD.out.below p.ok) HT.out Zo
 obtain ⟨dw,hdw⟩:∃ dw,docLast L (x 8) (m:Int) = dw:=⟨_,rfl⟩;obtain ⟨sb,hsb⟩:∃ sb,docLast L (x 13) (m:Int) = sb:=⟨_,rfl⟩;have HDW:=Zh hdw;have HSB:=Zh hsb;rw [hdw] at CL1 L8;rw [hsb] at CL2 L13;have q8:∀ p:BelowOf w1,p.world.cell? ⟨w.heap.size,8,none⟩ = some (.int .i64 (x 8)):=fun p=>p.cell (RB1.2 8 Zo)
 have q13:∀ p:BelowOf w1,p.world.cell? ⟨w.heap.size,13,none⟩ = some (.int .i64 (x 13)):=fun p=>p.cell (RB1.2 13 Zo)
 clear hdw hsb hq RB h0 hB0 hb1 hrd RC HLN;refine wp_region_bel Zk Zk ?_
 repeat (go_big_quiet_step (first | (go_at_call 100; (with_reducible exact Calls.bel_of (CL1 _))) | (go_at_call 100; (with_reducible exact Calls.bel_of (CL2 _)))))
 refine wpQuiet_nil ?_;refine bel_all fun w2 hb2=>?_
 have RB2:=RB1.below hb2;have HK2:=Zh (HK1.out.below hb2);have HRD2:=Zh (HRD.out.below hb2);have HB2:=Zh (HB1.out.trans (hb2.mono HB1.out.size));clear q8 q13 CL1 CL2 RB1 HK1 HRD HB1 hb2;have hil:m < ks.length:=by rw [HK.out]; exact hm
 obtain ⟨ba,ka,rfl,hba,hkc⟩:=HK2.out (nonnil hil);have hkm:=hkc m hil;rw [show ks.getD m 0 = kAt ks m from rfl] at hkm;obtain ⟨kv,hkv⟩:∃ kv,kAt ks m = kv:=⟨_,rfl⟩;rw [hkv] at hkm;have HKV:=Zh hkv;have f18:w2.cell? ⟨w.heap.size,18,none⟩ = some (.int .i64 (x 18)):=RB2.2 18 Zo;have m0:(0:Int) <= (m:Int):=by omega
 have m1:(m:Int) < (n:Int):=by omega
 have ne18:(x 18 == 0) = false:=by simp; omega
 have ne18b:¬ x 18 = 0:=by omega
 have hr0:=Int.emod_nonneg (m:Int) (show x 18 ≠ 0 by omega);have hr1:=mod_le (show (0:Int) <= (m:Int) by omega) hx18a;have etm:(m:Int).tmod (x 18) = (m:Int) % x 18:=Int.tmod_eq_emod_of_nonneg Zo;obtain ⟨rm,hrm⟩:∃ rm,(m:Int) % x 18 = rm:=⟨_,rfl⟩;rw [hrm] at hr0 hr1 etm;have HRM:=Zh hrm;have hwrm:=wrap14 rm Zo Zo;have hww:IntKind.i64.wrap ((m:Int) - rm) = (m:Int) - rm:=wrap14 _ Zo Zo;clear hkv hrm hkc;go_upto_region 5 with fail
 clear f18 etm hwrm hww ne18 ne18b;(try go_frame);go_cut [14] (fun u14 wx=>u14 = .bool (endsB L m) /\ Below w2.heap.size w2 wx)
 case first =>
  rcases Nat.eq_zero_or_pos q with hq0 | hq0
  case inl =>
   subst hq0;have he:endsB L m = false:=by unfold endsB; rw [HQ.out]; rfl
   have HE:=Zh he;have d0:decide ((0:Int) < 0) = false:=by decide
   clear he;go_wp2;go_meet;exact ⟨by rw [HE.out],Below.refl _ _⟩
  case inr =>
   obtain ⟨j,rfl⟩:∃ j,q = j + 1:=⟨q - 1,by omega⟩;have hjl:j < L.length:=by rw [HQ.out]; omega
   obtain ⟨b,off,f,t,rfl,hbb,hc0,hc1,hs⟩:=HRD2.out.at_ hjl
   have he:endsB L m = (t == (m:Int)):=by
    unfold endsB; rw [HQ.out,Nat.add_sub_cancel,hs.out]; simp
   have HE:=Zh he;have d0:decide ((0:Int) < (j:Int) + 1) = true:=decide_eq_true Zo;have d1:(j:Int) + 1 - 1 = (j:Int):=by omega
   have j0:(0:Int) <= (j:Int):=by omega
   have j1:(j:Int) < (j:Int) + 1:=by omega
   clear he hs;go_wp2;go_meet;exact ⟨by rw [HE.out],Below.refl _ _⟩
 case rest =>
 obtain ⟨rfl,hb3⟩:=hcut;rename World=>w4
 have RB4:=RB2.below hb3;have HK4:=Zh (HK2.out.below hb3);have HR4:=Zh (HRD2.out.below hb3);have HB4:=Zh (HB2.out.trans (hb3.mono HB2.out.size));rw [<- hb3.cell (p:=⟨ba,_,none⟩) hba] at hkm;have hbw:ba < w4.heap.size:=by have:=hb3.size; omega
 have RQ:∀ w',(∃ p:BelowOf w4,w' = p.world) -> RdI w' w.heap.size 0 x:=fun _ ⟨p,e⟩=>e ▸ RB4.below p.ok
 have CC:=fun (a b lo hi:Int) (p:BelowOf w4) a1 a2 a3 a4=>(count16_any _ c n ks a b lo hi p.world HK.out (HK4.out.below p.ok) a1 a2 a3 a4 Zo).mono fun e w' (q:e = _ /\ p.world = w')=>(⟨q.1,q.2 ▸ Below.refl _ _⟩:e = .returned (.int .i64 (cntK ks a b lo (hi + 1).toNat)) /\ Below p.world.heap.size p.world w')
 have CB:=fun p:BelowOf w4=>brkend16_any x A5 c5 q L p.world HQ.out (HR4.out.below p.ok) HT.out Zo
 have em:((m:Int) + 1).toNat = m + 1:=by omega
 clear hb3 HK2 HRD2 HB2 RB2 hba
 have HV:=Zh (show docBreaks x ks m 7 = decide (x 14 <= (m:Int) - sb) by
  have hdoc:docBreaks x ks m 7 = decide (x 14 <= (m:Int) - docLast (restsL ks m) (x 13) m):=rfl
  rw [hdoc,HLL.out,HSB.out])
 have f14:w4.cell? ⟨w.heap.size,14,none⟩ = some (.int .i64 (x 14)):=RB4.2 14 Zo;have hw1:=wrap14 ((m:Int) - sb) Zo Zo;clear CC CB RQ;go_wp2;go_ret;exact ⟨by rw [HV.out]; try rfl,HB4.out⟩
theorem RdS.take8 {w:World} {A:Option Addr} {L:List Sp} (h:RdS w A L) (j:Nat):RdS w A (L.take j):=fun hl=>by
 have hL:L ≠ []:=fun e=>hl (by rw [e]; simp)
 obtain ⟨b,off,e1,e2,e3⟩:=h hL;refine ⟨b,off,e1,e2,fun k hk=>?_⟩;rw [List.length_take] at hk;have e:(L.take j).getD k (0,0) = L.getD k (0,0):=by simp [List.getD,(by omega:k < j)]
 rw [e];exact e3 k Zo
set_option maxRecDepth 20000 in
set_option maxHeartbeats 8000000 in
theorem breaks16_8 (x:Nat -> Int) (A:Option Addr) (c n m:Nat) (ks:List Int) (w:World) (hk:ks.length = n) (hr:RdN w A ks) (h4:n <= 40320) (hm:m < n) (hx:May x) :
  Calls Tryz.prog 62 #[.agg (bk x),.slice A n c,.int .i64 (m:Nat),.int .i64 8] w fun e w'=>e = .returned (.bool (docBreaks x ks m 8)) /\ Below w.heap.size w w':=by
 have RC:=fun W h=>rests16_any A c n m ks W hk h Zo Zo
 have HK:=Zh hk;have hfull:=full_ok ks m;have hlen:=rests_len ks m;change Lk (restsL ks m) _ at hfull;obtain ⟨L,hL⟩:∃ L,restsL ks m = L:=⟨_,rfl⟩;rw [hL] at hfull hlen;have HT:Hid (InT L):=Zh fun q hq=>by have:=hfull.each q hq; omega
 have HI:Hid (∀ q ∈ L,q.2 <= n):=Zh fun q hq=>by have:=hfull.each q hq; omega
 have HX:=Zh hx;have HLL:=Zh hL;rw [hL] at RC
 have hx18:1 <= x 18 /\ x 18 <= 40320:=by
  have:=hx.1 18 Zo;unfold lim at this;split at this <;> omega
 obtain ⟨hx18a,hx18b⟩:=hx18;have RB:RdI (w.alloc (.cells (bk x) 23)) w.heap.size 0 x:=RdI.new x 23 rfl;have hB0:Below w.heap.size w (w.alloc (.cells (bk x) 23)):=b_al (Below.refl _ _) Zl _;have h0:=hr.below hB0;clear hL hfull hr hx hk;go_enter Tryz.func62,Tryz.ntmps62;go_wp2_with (go_at_call 99; (with_reducible refine (RC _ h0).mono ?_); rintro e w1 ⟨v,rfl,hown,hb1⟩; obtain ⟨A5,c5,rfl,hrd,hcap,_⟩:=hown.form; clear hown);have RB1:=RB.below hb1;have HK1:=Zh (h0.below hb1);have HB1:=Zh (b_cl hB0 Zl hb1);have HRD:=Zh hrd;have L8:=last_bd (long:=x 8) (cut:=(m:Int)) HT.out;have L13:=last_bd (long:=x 13) (cut:=(m:Int)) HT.out;have HLN:Hid (L.length = L.length):=Zh rfl;obtain ⟨q,hq⟩:∃ q,L.length = q:=⟨_,rfl⟩;rw [hq] at hlen hcap ⊢;have HQ:=Zh hq;have CL1:=fun p:BelowOf w1=>last16_any A5 c5 q L (x 8) (m:Int) p.world HQ.out (HRD.out.below p.ok) HT.out Zo
 have CL2:=fun p:BelowOf w1=>last16_any A5 c5 q L (x 13) (m:Int) p.world HQ.out (HRD.out.below p.ok) HT.out Zo
 obtain ⟨dw,hdw⟩:∃ dw,docLast L (x 8) (m:Int) = dw:=⟨_,rfl⟩;obtain ⟨sb,hsb⟩:∃ sb,docLast L (x 13) (m:Int) = sb:=⟨_,rfl⟩;have HDW:=Zh hdw;have HSB:=Zh hsb;rw [hdw] at CL1 L8;rw [hsb] at CL2 L13;have q8:∀ p:BelowOf w1,p.world.cell? ⟨w.heap.size,8,none⟩ = some (.int .i64 (x 8)):=fun p=>p.cell (RB1.2 8 Zo)
 have q13:∀ p:BelowOf w1,p.world.cell? ⟨w.heap.size,13,none⟩ = some (.int .i64 (x 13)):=fun p=>p.cell (RB1.2 13 Zo)
 clear hdw hsb hq RB h0 hB0 hb1 hrd RC HLN;refine wp_region_bel Zk Zk ?_
 repeat (go_big_quiet_step (first | (go_at_call 100; (with_reducible exact Calls.bel_of (CL1 _))) | (go_at_call 100; (with_reducible exact Calls.bel_of (CL2 _)))))
 refine wpQuiet_nil ?_;refine bel_all fun w2 hb2=>?_
 have RB2:=RB1.below hb2;have HK2:=Zh (HK1.out.below hb2);have HRD2:=Zh (HRD.out.below hb2);have HB2:=Zh (HB1.out.trans (hb2.mono HB1.out.size));clear q8 q13 CL1 CL2 RB1 HK1 HRD HB1 hb2;have hil:m < ks.length:=by rw [HK.out]; exact hm
 obtain ⟨ba,ka,rfl,hba,hkc⟩:=HK2.out (nonnil hil);have hkm:=hkc m hil;rw [show ks.getD m 0 = kAt ks m from rfl] at hkm;obtain ⟨kv,hkv⟩:∃ kv,kAt ks m = kv:=⟨_,rfl⟩;rw [hkv] at hkm;have HKV:=Zh hkv;have f18:w2.cell? ⟨w.heap.size,18,none⟩ = some (.int .i64 (x 18)):=RB2.2 18 Zo;have m0:(0:Int) <= (m:Int):=by omega
 have m1:(m:Int) < (n:Int):=by omega
 have ne18:(x 18 == 0) = false:=by simp; omega
 have ne18b:¬ x 18 = 0:=by omega
 have hr0:=Int.emod_nonneg (m:Int) (show x 18 ≠ 0 by omega);have hr1:=mod_le (show (0:Int) <= (m:Int) by omega) hx18a;have etm:(m:Int).tmod (x 18) = (m:Int) % x 18:=Int.tmod_eq_emod_of_nonneg Zo;obtain ⟨rm,hrm⟩:∃ rm,(m:Int) % x 18 = rm:=⟨_,rfl⟩;rw [hrm] at hr0 hr1 etm;have HRM:=Zh hrm;have hwrm:=wrap14 rm Zo Zo;have hww:IntKind.i64.wrap ((m:Int) - rm) = (m:Int) - rm:=wrap14 _ Zo Zo;clear hkv hrm hkc;go_upto_region 5 with fail
 clear f18 etm hwrm hww ne18 ne18b;(try go_frame);go_cut [14] (fun u14 wx=>u14 = .bool (endsB L m) /\ Below w2.heap.size w2 wx)
 case first =>
  rcases Nat.eq_zero_or_pos q with hq0 | hq0
  case inl =>
   subst hq0;have he:endsB L m = false:=by unfold endsB; rw [HQ.out]; rfl
   have HE:=Zh he;have d0:decide ((0:Int) < 0) = false:=by decide
   clear he;go_wp2;go_meet;exact ⟨by rw [HE.out],Below.refl _ _⟩
  case inr =>
   obtain ⟨j,rfl⟩:∃ j,q = j + 1:=⟨q - 1,by omega⟩;have hjl:j < L.length:=by rw [HQ.out]; omega
   obtain ⟨b,off,f,t,rfl,hbb,hc0,hc1,hs⟩:=HRD2.out.at_ hjl
   have he:endsB L m = (t == (m:Int)):=by
    unfold endsB; rw [HQ.out,Nat.add_sub_cancel,hs.out]; simp
   have HE:=Zh he;have d0:decide ((0:Int) < (j:Int) + 1) = true:=decide_eq_true Zo;have d1:(j:Int) + 1 - 1 = (j:Int):=by omega
   have j0:(0:Int) <= (j:Int):=by omega
   have j1:(j:Int) < (j:Int) + 1:=by omega
   clear he hs;go_wp2;go_meet;exact ⟨by rw [HE.out],Below.refl _ _⟩
 case rest =>
 obtain ⟨rfl,hb3⟩:=hcut;rename World=>w4
 have RB4:=RB2.below hb3;have HK4:=Zh (HK2.out.below hb3);have HR4:=Zh (HRD2.out.below hb3);have HB4:=Zh (HB2.out.trans (hb3.mono HB2.out.size));rw [<- hb3.cell (p:=⟨ba,_,none⟩) hba] at hkm;have hbw:ba < w4.heap.size:=by have:=hb3.size; omega
 have RQ:∀ w',(∃ p:BelowOf w4,w' = p.world) -> RdI w' w.heap.size 0 x:=fun _ ⟨p,e⟩=>e ▸ RB4.below p.ok
 have CC:=fun (a b lo hi:Int) (p:BelowOf w4) a1 a2 a3 a4=>(count16_any _ c n ks a b lo hi p.world HK.out (HK4.out.below p.ok) a1 a2 a3 a4 Zo).mono fun e w' (q:e = _ /\ p.world = w')=>(⟨q.1,q.2 ▸ Below.refl _ _⟩:e = .returned (.int .i64 (cntK ks a b lo (hi + 1).toNat)) /\ Below p.world.heap.size p.world w')
 have CB:=fun p:BelowOf w4=>brkend16_any x A5 c5 q L p.world HQ.out (HR4.out.below p.ok) HT.out Zo
 have em:((m:Int) + 1).toNat = m + 1:=by omega
 clear hb3 HK2 HRD2 HB2 RB2 hba
 have HD:=Zh (show docBreaks x ks m 8 = (endsB L m && (decide (x 13 <= (L.getD (q - 1) (0,0)).2 - (L.getD (q - 1) (0,0)).1) && (decide ((L.getD (q - 1) (0,0)).2 - (L.getD (q - 1) (0,0)).1 < x 12) && (L.take (q - 1)).any (briefB x (docLast (L.take (q - 1)) (x 13) m))))) by
  have hdoc:docBreaks x ks m 8 = (endsB (restsL ks m) m && (decide (x 13 <= ((restsL ks m).getD ((restsL ks m).length - 1) (0,0)).2 - ((restsL ks m).getD ((restsL ks m).length - 1) (0,0)).1) && (decide (((restsL ks m).getD ((restsL ks m).length - 1) (0,0)).2 - ((restsL ks m).getD ((restsL ks m).length - 1) (0,0)).1 < x 12) && ((restsL ks m).take ((restsL ks m).length - 1)).any (briefB x (docLast ((restsL ks m).take ((restsL ks m).length - 1)) (x 13) m))))):=rfl
  rw [hdoc,HLL.out,HQ.out])
 have he0:q = 0 -> endsB L m = false:=fun h=>by unfold endsB; rw [HQ.out,h]; rfl
 obtain ⟨eb,heb⟩:∃ eb,endsB L m = eb:=⟨_,rfl⟩;rw [heb] at HD he0 ⊢;clear CC CB RQ heb;have HE0:=Zh he0;clear he0
 cases eb with
 | false =>
  have HV:=Zh (show docBreaks x ks m 8 = false by rw [HD.out]; rfl);clear HD;go_wp2;go_ret;exact ⟨by rw [HV.out]; try rfl,HB4.out⟩
 | true =>
  have hqp:0 < q:=by
   rcases Nat.eq_zero_or_pos q with h | h
   ·have:=HE0.out h; cases this
   ·exact h
  obtain ⟨j,rfl⟩:∃ j,q = j + 1:=⟨q - 1,by omega⟩;rw [Nat.add_sub_cancel,Bool.true_and] at HD;have hjl:j < L.length:=by rw [HQ.out]; omega
  obtain ⟨b,off,f,t,rfl,hbb,hc0,hc1,hs⟩:=HR4.out.at_ hjl;rw [hs.out] at HD;dsimp only at HD;have hxy:=HT.out (f,t) (by rw [<- hs.out]; exact getDs_mem hjl);obtain ⟨hx0,hx1,hx2⟩:=hxy;dsimp only at hx0 hx1 hx2;have LB:=last_bd (long:=x 13) (cut:=(m:Int)) (HT.out.take j);have LL:=fun W h=>last16_any (some ⟨b,off,none⟩) c5 j (L.take j) (x 13) (m:Int) W (by rw [List.length_take]; omega) (RdS.take8 h j) (HT.out.take j) Zo
  obtain ⟨ah,hah⟩:∃ ah,docLast (L.take j) (x 13) (m:Int) = ah:=⟨_,rfl⟩;rw [hah] at LL HD LB;have hwr:IntKind.i64.wrap (t - f) = t - f:=wrap14 (t - f) Zo Zo;have d1:(j:Int) + 1 - 1 = (j:Int):=by omega
  have j0:(0:Int) <= (j:Int):=by omega
  have j1:(j:Int) < (j:Int) + 1:=by omega
  have j2:(j:Int) <= (c5:Int):=by omega
  have BW:Below w4.heap.size w4 (w4.alloc (.cells #[.int .i64 f,.int .i64 t] 121)):=b_al (Below.refl _ _) Zl _;have RB5:=RB4.below BW;have HR5:=Zh (HR4.out.below BW);have HB5:=Zh (HB4.out.trans (BW.mono HB4.out.size));have BX5:Bx (w4.alloc (.cells #[.int .i64 f,.int .i64 t] 121)) w4.heap.size 121 #[.int .i64 f,.int .i64 t]:=Bx.new _ _ rfl;have HS:=Zh hs.out;clear hs hah;go_upto_region 35 with fail
  (try go_frame);obtain ⟨w5,hw5⟩:∃ w5,w4.alloc (.cells #[.int .i64 f,.int .i64 t] 121) = w5:=⟨_,rfl⟩;rw [hw5] at BW RB5 HR5 BX5 HB5 ⊢;clear hw5 BW;have CL:=fun p:BelowOf w5=>LL p.world (HR5.out.below p.ok)
  have q13:∀ p:BelowOf w5,p.world.cell? ⟨w.heap.size,13,none⟩ = some (.int .i64 (x 13)):=fun p=>p.cell (RB5.2 13 Zo)
  refine wp_region_bel Zk Zk ?_
  repeat (go_big_quiet_step (first | (go_at_call 100; (with_reducible exact Calls.bel_of (CL _)))))
  refine wpQuiet_nil ?_;refine bel_all fun w6 hb6=>?_
  have RB6:=RB5.below hb6;have BX6:=BX5.below hb6;have HR6:=Zh (HR5.out.below hb6);have HB6:=Zh (HB5.out.trans (hb6.mono HB5.out.size));clear CL LL q13 RB5 BX5 HR5 HB5 hb6 hc0 hc1 hbb;go_wp2;go_loopw [19,20] (fun v i wr=>∃ (k:Nat) (r:Bool),k <= j /\ i = .int .i64 (k:Nat) /\ v = .bool r /\ Hid ((L.take k).any (briefB x ah) = r) /\ Hid (Below w6.heap.size w6 wr)) (fun _ i _=>j - (intOf i).toNat)
  case atStart=>exact ⟨0,false,Nat.zero_le _,rfl,rfl,Zh rfl,Zh (Below.refl _ _)⟩
  case round =>
   obtain ⟨k,r,hkq,rfl,rfl,HN,HB⟩:=hrel;obtain ⟨w7,rfl⟩:∃ w7:World,w7 = wr:=⟨_,rfl⟩;have hsz:=HB.out.size;have RB7:=RB6.below HB.out;by_cases hlt:k < j
   case neg =>
    obtain rfl:k = j:=by omega
    have HD2:=HD.out;rw [HN.out] at HD2;have HD3:=Zh HD2;have BX7:=BX6.below HB.out;have p0:=BX7.cell (k:=0) rfl;have p1:=BX7.cell (k:=1) rfl;have f13:w7.cell? ⟨w.heap.size,13,none⟩ = some (.int .i64 (x 13)):=RB7.2 13 Zo;have f12:w7.cell? ⟨w.heap.size,12,none⟩ = some (.int .i64 (x 12)):=RB7.2 12 Zo;clear HD2 HD HN;by_cases g1:x 13 <= t - f
    case neg =>
     have e1:decide (x 13 <= t - f) = false:=decide_eq_false g1;have HV:=Zh (show docBreaks x ks m 8 = false by rw [HD3.out,e1]; rfl);clear g1 HD3;go_wp2;go_ret;exact ⟨by rw [HV.out]; try rfl,HB6.out.trans (HB.out.mono HB6.out.size)⟩
    have e1:decide (x 13 <= t - f) = true:=decide_eq_true g1;by_cases g2:t - f < x 12
    case neg =>
     have e2:decide (t - f < x 12) = false:=decide_eq_false g2;have HV:=Zh (show docBreaks x ks m 8 = false by rw [HD3.out,e2,Bool.false_and,Bool.and_false]);clear g1 g2 HD3;go_wp2;go_ret;exact ⟨by rw [HV.out]; try rfl,HB6.out.trans (HB.out.mono HB6.out.size)⟩
    have e2:decide (t - f < x 12) = true:=decide_eq_true g2;have HV:=Zh (show docBreaks x ks m 8 = r by rw [HD3.out,e1,e2,Bool.true_and,Bool.true_and]);clear g1 g2 HD3;go_wp2;go_ret;exact ⟨by rw [HV.out]; try rfl,HB6.out.trans (HB.out.mono HB6.out.size)⟩
   case pos =>
    have hlt':k < L.length:=by omega
    obtain ⟨b',off',f',t',hA',hbb',hj0,hj1,hs'⟩:=HR6.out.at_ hlt';obtain ⟨rfl,rfl⟩:b = b' /\ off = off':=by simpa using hA'
    clear hA';rw [<- HB.out.cell (p:=⟨b,_,none⟩) hbb'] at hj0 hj1;have hxy:=HT.out (f',t') (by rw [<- hs'.out]; exact getDs_mem hlt');obtain ⟨hy0,hy1,hy2⟩:=hxy;dsimp only at hy0 hy1 hy2;have hst:=any_more (p:=briefB x ah) hlt';rw [HN.out,hs'.out] at hst;have HM:=Zh hst;have hwj:IntKind.i64.wrap (t' - f') = t' - f':=wrap14 (t' - f') Zo Zo;have q0:∀ p:BelowOf w7,p.world.cell? ⟨b,off + k * 2,none⟩ = some (.int .i64 f'):=fun p=>p.cell hj0
    have q1:∀ p:BelowOf w7,p.world.cell? ⟨b,off + k * 2 + 1,none⟩ = some (.int .i64 t'):=fun p=>p.cell hj1
    have q12:∀ p:BelowOf w7,p.world.cell? ⟨w.heap.size,12,none⟩ = some (.int .i64 (x 12)):=fun p=>p.cell (RB7.2 12 Zo)
    have k0:(0:Int) <= (k:Int):=by omega
    have k1:(k:Int) < (j:Int):=by omega
    have k2:(k:Int) < (j:Int) + 1:=by omega
    clear hs' hbb' hst HN
    cases r with
    | true =>
     have HF:=Zh (show (L.take (k + 1)).any (briefB x ah) = true by rw [HM.out]; rfl);clear HM;go_wp2;refine wp_region_bel Zk Zk ?_
     repeat (go_big_quiet_step (first | (fail)))
     refine wpQuiet_nil ?_;refine bel_all fun w8 hb8=>?_
     have HB8:=Zh (HB.out.trans (hb8.mono hsz));clear q0 q1 q12 hb8;go_wp2;go_roundw
     case rel=>exact ⟨k + 1,true,by omega,by go_num,rfl,HF,HB8⟩
     case measure=>simp [intOf]; omega
    | false =>
     by_cases g1:0 < ah
     case neg =>
      have e1:decide (0 < ah) = false:=decide_eq_false g1;have HF:=Zh (show (L.take (k + 1)).any (briefB x ah) = false by rw [HM.out]; unfold briefB; rw [e1]; rfl);clear HM g1;go_wp2;refine wp_region_bel Zk Zk ?_
      repeat (go_big_quiet_step (first | (fail)))
      refine wpQuiet_nil ?_;refine bel_all fun w8 hb8=>?_
      have HB8:=Zh (HB.out.trans (hb8.mono hsz));clear q0 q1 q12 hb8;go_wp2;go_roundw
      case rel=>exact ⟨k + 1,false,by omega,by go_num,rfl,HF,HB8⟩
      case measure=>simp [intOf]; omega
     have e1:decide (0 < ah) = true:=decide_eq_true g1;by_cases g2:t' = ah
     case neg =>
      have e2:(t' == ah) = false:=by simpa using g2
      have HF:=Zh (show (L.take (k + 1)).any (briefB x ah) = false by rw [HM.out]; unfold briefB; rw [e1,e2]; rfl);clear HM g1 g2;go_wp2;refine wp_region_bel Zk Zk ?_
      repeat (go_big_quiet_step (first | (fail)))
      refine wpQuiet_nil ?_;refine bel_all fun w8 hb8=>?_
      have HB8:=Zh (HB.out.trans (hb8.mono hsz));clear q0 q1 q12 hb8;go_wp2;go_roundw
      case rel=>exact ⟨k + 1,false,by omega,by go_num,rfl,HF,HB8⟩
      case measure=>simp [intOf]; omega
     have e2:(t' == ah) = true:=by simpa using g2
     obtain ⟨dc,hdc⟩:∃ dc,decide (t' - f' < x 12) = dc:=⟨_,rfl⟩;have HF:=Zh (show (L.take (k + 1)).any (briefB x ah) = dc by rw [HM.out]; unfold briefB; rw [e1,e2,hdc]; rfl);clear HM g1 g2;go_wp2;refine wp_region_bel Zk Zk ?_
     repeat (go_big_quiet_step (first | (fail)))
     refine wpQuiet_nil ?_;refine bel_all fun w8 hb8=>?_
     have HB8:=Zh (HB.out.trans (hb8.mono hsz));clear q0 q1 q12 hb8;go_wp2;go_roundw
     case rel=>exact ⟨k + 1,dc,by omega,by go_num,by first | rfl | rw [hdc],HF,HB8⟩
     case measure=>simp [intOf]; omega
set_option maxRecDepth 20000 in
set_option maxHeartbeats 8000000 in
theorem breaks16_9 (x:Nat -> Int) (A:Option Addr) (c n m:Nat) (ks:List Int) (w:World) (hk:ks.length = n) (hr:RdN w A ks) (h4:n <= 40320) (hm:m < n) (hx:May x) :
  Calls Tryz.prog 62 #[.agg (bk x),.slice A n c,.int .i64 (m:Nat),.int .i64 9] w fun e w'=>e = .returned (.bool (docBreaks x ks m 9)) /\ Below w.heap.size w w':=by
 have RC:=fun W h=>rests16_any A c n m ks W hk h Zo Zo
 have HK:=Zh hk;have hfull:=full_ok ks m;have hlen:=rests_len ks m;change Lk (restsL ks m) _ at hfull;obtain ⟨L,hL⟩:∃ L,restsL ks m = L:=⟨_,rfl⟩;rw [hL] at hfull hlen;have HT:Hid (InT L):=Zh fun q hq=>by have:=hfull.each q hq; omega
 have HI:Hid (∀ q ∈ L,q.2 <= n):=Zh fun q hq=>by have:=hfull.each q hq; omega
 have HX:=Zh hx;have HLL:=Zh hL;rw [hL] at RC
 have hx18:1 <= x 18 /\ x 18 <= 40320:=by
  have:=hx.1 18 Zo;unfold lim at this;split at this <;> omega
 obtain ⟨hx18a,hx18b⟩:=hx18;have RB:RdI (w.alloc (.cells (bk x) 23)) w.heap.size 0 x:=RdI.new x 23 rfl;have hB0:Below w.heap.size w (w.alloc (.cells (bk x) 23)):=b_al (Below.refl _ _) Zl _;have h0:=hr.below hB0;clear hL hfull hr hx hk;go_enter Tryz.func62,Tryz.ntmps62;go_wp2_with (go_at_call 99; (with_reducible refine (RC _ h0).mono ?_); rintro e w1 ⟨v,rfl,hown,hb1⟩; obtain ⟨A5,c5,rfl,hrd,hcap,_⟩:=hown.form; clear hown);have RB1:=RB.below hb1;have HK1:=Zh (h0.below hb1);have HB1:=Zh (b_cl hB0 Zl hb1);have HRD:=Zh hrd;have L8:=last_bd (long:=x 8) (cut:=(m:Int)) HT.out;have L13:=last_bd (long:=x 13) (cut:=(m:Int)) HT.out;have HLN:Hid (L.length = L.length):=Zh rfl;obtain ⟨q,hq⟩:∃ q,L.length = q:=⟨_,rfl⟩;rw [hq] at hlen hcap ⊢;have HQ:=Zh hq;have CL1:=fun p:BelowOf w1=>last16_any A5 c5 q L (x 8) (m:Int) p.world HQ.out (HRD.out.below p.ok) HT.out Zo
 have CL2:=fun p:BelowOf w1=>last16_any A5 c5 q L (x 13) (m:Int) p.world HQ.out (HRD.out.below p.ok) HT.out Zo
 obtain ⟨dw,hdw⟩:∃ dw,docLast L (x 8) (m:Int) = dw:=⟨_,rfl⟩;obtain ⟨sb,hsb⟩:∃ sb,docLast L (x 13) (m:Int) = sb:=⟨_,rfl⟩;have HDW:=Zh hdw;have HSB:=Zh hsb;rw [hdw] at CL1 L8;rw [hsb] at CL2 L13;have q8:∀ p:BelowOf w1,p.world.cell? ⟨w.heap.size,8,none⟩ = some (.int .i64 (x 8)):=fun p=>p.cell (RB1.2 8 Zo)
 have q13:∀ p:BelowOf w1,p.world.cell? ⟨w.heap.size,13,none⟩ = some (.int .i64 (x 13)):=fun p=>p.cell (RB1.2 13 Zo)
 clear hdw hsb hq RB h0 hB0 hb1 hrd RC HLN;refine wp_region_bel Zk Zk ?_
 repeat (go_big_quiet_step (first | (go_at_call 100; (with_reducible exact Calls.bel_of (CL1 _))) | (go_at_call 100; (with_reducible exact Calls.bel_of (CL2 _)))))
 refine wpQuiet_nil ?_;refine bel_all fun w2 hb2=>?_
 have RB2:=RB1.below hb2;have HK2:=Zh (HK1.out.below hb2);have HRD2:=Zh (HRD.out.below hb2);have HB2:=Zh (HB1.out.trans (hb2.mono HB1.out.size));clear q8 q13 CL1 CL2 RB1 HK1 HRD HB1 hb2;have hil:m < ks.length:=by rw [HK.out]; exact hm
 obtain ⟨ba,ka,rfl,hba,hkc⟩:=HK2.out (nonnil hil);have hkm:=hkc m hil;rw [show ks.getD m 0 = kAt ks m from rfl] at hkm;obtain ⟨kv,hkv⟩:∃ kv,kAt ks m = kv:=⟨_,rfl⟩;rw [hkv] at hkm;have HKV:=Zh hkv;have f18:w2.cell? ⟨w.heap.size,18,none⟩ = some (.int .i64 (x 18)):=RB2.2 18 Zo;have m0:(0:Int) <= (m:Int):=by omega
 have m1:(m:Int) < (n:Int):=by omega
 have ne18:(x 18 == 0) = false:=by simp; omega
 have ne18b:¬ x 18 = 0:=by omega
 have hr0:=Int.emod_nonneg (m:Int) (show x 18 ≠ 0 by omega);have hr1:=mod_le (show (0:Int) <= (m:Int) by omega) hx18a;have etm:(m:Int).tmod (x 18) = (m:Int) % x 18:=Int.tmod_eq_emod_of_nonneg Zo;obtain ⟨rm,hrm⟩:∃ rm,(m:Int) % x 18 = rm:=⟨_,rfl⟩;rw [hrm] at hr0 hr1 etm;have HRM:=Zh hrm;have hwrm:=wrap14 rm Zo Zo;have hww:IntKind.i64.wrap ((m:Int) - rm) = (m:Int) - rm:=wrap14 _ Zo Zo;clear hkv hrm hkc;go_upto_region 5 with fail
 clear f18 etm hwrm hww ne18 ne18b;(try go_frame);go_cut [14] (fun u14 wx=>u14 = .bool (endsB L m) /\ Below w2.heap.size w2 wx)
 case first =>
  rcases Nat.eq_zero_or_pos q with hq0 | hq0
  case inl =>
   subst hq0;have he:endsB L m = false:=by unfold endsB; rw [HQ.out]; rfl
   have HE:=Zh he;have d0:decide ((0:Int) < 0) = false:=by decide
   clear he;go_wp2;go_meet;exact ⟨by rw [HE.out],Below.refl _ _⟩
  case inr =>
   obtain ⟨j,rfl⟩:∃ j,q = j + 1:=⟨q - 1,by omega⟩;have hjl:j < L.length:=by rw [HQ.out]; omega
   obtain ⟨b,off,f,t,rfl,hbb,hc0,hc1,hs⟩:=HRD2.out.at_ hjl
   have he:endsB L m = (t == (m:Int)):=by
    unfold endsB; rw [HQ.out,Nat.add_sub_cancel,hs.out]; simp
   have HE:=Zh he;have d0:decide ((0:Int) < (j:Int) + 1) = true:=decide_eq_true Zo;have d1:(j:Int) + 1 - 1 = (j:Int):=by omega
   have j0:(0:Int) <= (j:Int):=by omega
   have j1:(j:Int) < (j:Int) + 1:=by omega
   clear he hs;go_wp2;go_meet;exact ⟨by rw [HE.out],Below.refl _ _⟩
 case rest =>
 obtain ⟨rfl,hb3⟩:=hcut;rename World=>w4
 have RB4:=RB2.below hb3;have HK4:=Zh (HK2.out.below hb3);have HR4:=Zh (HRD2.out.below hb3);have HB4:=Zh (HB2.out.trans (hb3.mono HB2.out.size));rw [<- hb3.cell (p:=⟨ba,_,none⟩) hba] at hkm;have hbw:ba < w4.heap.size:=by have:=hb3.size; omega
 have RQ:∀ w',(∃ p:BelowOf w4,w' = p.world) -> RdI w' w.heap.size 0 x:=fun _ ⟨p,e⟩=>e ▸ RB4.below p.ok
 have CC:=fun (a b lo hi:Int) (p:BelowOf w4) a1 a2 a3 a4=>(count16_any _ c n ks a b lo hi p.world HK.out (HK4.out.below p.ok) a1 a2 a3 a4 Zo).mono fun e w' (q:e = _ /\ p.world = w')=>(⟨q.1,q.2 ▸ Below.refl _ _⟩:e = .returned (.int .i64 (cntK ks a b lo (hi + 1).toNat)) /\ Below p.world.heap.size p.world w')
 have CB:=fun p:BelowOf w4=>brkend16_any x A5 c5 q L p.world HQ.out (HR4.out.below p.ok) HT.out Zo
 have em:((m:Int) + 1).toNat = m + 1:=by omega
 clear hb3 HK2 HRD2 HB2 RB2 hba
 have HD:=Zh (show docBreaks x ks m 9 = (decide (kv = 3 ∨ kv = 2) && decide (x 17 < cntK ks 3 2 ((m:Int) - rm) (m + 1))) by
  have hdoc:docBreaks x ks m 9 = (decide (kAt ks m = 3 ∨ kAt ks m = 2) && decide (x 17 < cntK ks 3 2 ((m:Int) - (m:Int) % x 18) (m + 1))):=rfl
  rw [hdoc,HKV.out,HRM.out])
 have qk:∀ p:BelowOf w4,p.world.cell? ⟨ba,ka + m,none⟩ = some (.int .i64 kv):=fun p=>p.cell hkm
 have CN:=fun p:BelowOf w4=>CC 3 2 ((m:Int) - rm) (m:Int) p Zo Zo Zo Zo
 rw [em] at CN;obtain ⟨cv,hcv⟩:∃ cv,cntK ks 3 2 ((m:Int) - rm) (m + 1) = cv:=⟨_,rfl⟩;rw [hcv] at CN HD;have q17:∀ p:BelowOf w4,p.world.cell? ⟨w.heap.size,17,none⟩ = some (.int .i64 (x 17)):=fun p=>p.cell (RB4.2 17 Zo)
 clear hcv CC CB;by_cases hk3:kv = 3
 case pos =>
  have e3:(kv == 3) = true:=by simpa using hk3
  have HV:=Zh (show docBreaks x ks m 9 = decide (x 17 < cv) by rw [HD.out,decide_eq_true (.inl hk3)]; rfl);clear HD hk3;rw [e3];go_wp2;refine wp_region_bel Zk Zk ?_
  repeat (go_big_quiet_step (first | (go_at_call 101; (with_reducible exact Calls.bel_of (CN _)))))
  refine wpQuiet_nil ?_;refine bel_all fun w5 hb5=>?_
  go_wp2;go_ret;exact ⟨by rw [HV.out]; try rfl,HB4.out.trans (hb5.mono HB4.out.size)⟩
 have e3:(kv == 3) = false:=by simpa using hk3
 by_cases hk2:kv = 2
 case pos =>
  have e2:(kv == 2) = true:=by simpa using hk2
  have HV:=Zh (show docBreaks x ks m 9 = decide (x 17 < cv) by rw [HD.out,decide_eq_true (.inr hk2)]; rfl);clear HD hk3 hk2;rw [e3];go_wp2;refine wp_region_bel Zk Zk ?_
  repeat (go_big_quiet_step (first | (go_at_call 101; (with_reducible exact Calls.bel_of (CN _)))))
  refine wpQuiet_nil ?_;refine bel_all fun w5 hb5=>?_
  go_wp2;go_ret;exact ⟨by rw [HV.out]; try rfl,HB4.out.trans (hb5.mono HB4.out.size)⟩
 have e2:(kv == 2) = false:=by simpa using hk2
 have HV:=Zh (show docBreaks x ks m 9 = false by rw [HD.out,decide_eq_false (fun h=>h.elim hk3 hk2)]; rfl);clear HD hk3 hk2;rw [e3];go_wp2;refine wp_region_bel Zk Zk ?_
 repeat (go_big_quiet_step (first | (go_at_call 101; (with_reducible exact Calls.bel_of (CN _)))))
 refine wpQuiet_nil ?_;refine bel_all fun w5 hb5=>?_
 go_wp2;go_ret;exact ⟨by rw [HV.out]; try rfl,HB4.out.trans (hb5.mono HB4.out.size)⟩
theorem RdS.take9 {w:World} {A:Option Addr} {L:List Sp} (h:RdS w A L) (j:Nat):RdS w A (L.take j):=fun hl=>by
 have hL:L ≠ []:=fun e=>hl (by rw [e]; simp)
 obtain ⟨b,off,e1,e2,e3⟩:=h hL;refine ⟨b,off,e1,e2,fun k hk=>?_⟩;rw [List.length_take] at hk;have e:(L.take j).getD k (0,0) = L.getD k (0,0):=by simp [List.getD,(by omega:k < j)]
 rw [e];exact e3 k Zo
set_option maxRecDepth 20000 in
set_option maxHeartbeats 8000000 in
theorem since16_any (x:Nat -> Int) (A:Option Addr) (c n m cl:Nat) (ks:List Int) (w:World) (hk:ks.length = n) (hr:RdN w A ks) (h4:n <= 40320) (hm:m < n) (hx:May x) (hcl:cl < 10) :
  Calls Tryz.prog 63 #[.agg (bk x),.slice A n c,.int .i64 (m:Nat),.int .i64 (cl:Nat)] w fun e w'=>e = .returned (.int .i64 (docSince x ks m cl)) /\ Below w.heap.size w w':=by
 have RC:=fun W h=>rests16_any A c n m ks W hk h Zo Zo
 have HK:=Zh hk;have hfull:=full_ok ks m;have hlen:=rests_len ks m;change Lk (restsL ks m) _ at hfull;obtain ⟨L,hL⟩:∃ L,restsL ks m = L:=⟨_,rfl⟩;rw [hL] at hfull hlen;have HT:Hid (InT L):=Zh fun q hq=>by have:=hfull.each q hq; omega
 have HI:Hid (∀ q ∈ L,q.2 <= n):=Zh fun q hq=>by have:=hfull.each q hq; omega
 have HX:=Zh hx;have HLL:=Zh hL;rw [hL] at RC
 have hx18:1 <= x 18 /\ x 18 <= 40320:=by
  have:=hx.1 18 Zo;unfold lim at this;split at this <;> omega
 obtain ⟨hx18a,hx18b⟩:=hx18;have RB:RdI (w.alloc (.cells (bk x) 23)) w.heap.size 0 x:=RdI.new x 23 rfl;have hB0:Below w.heap.size w (w.alloc (.cells (bk x) 23)):=b_al (Below.refl _ _) Zl _;have h0:=hr.below hB0;clear hL hfull hr hx hk;go_enter Tryz.func63,Tryz.ntmps63;go_upto_region 2 with (go_at_call 99; (with_reducible refine (RC _ h0).mono ?_); rintro e w1 ⟨v,rfl,hown,hb1⟩; obtain ⟨A5,c5,rfl,hrd,hcap,_⟩:=hown.form; clear hown)
 (try go_frame);have RB1:=RB.below hb1;have HB1:=Zh (b_cl hB0 Zl hb1);have HRD:=Zh hrd;obtain ⟨q,hq⟩:∃ q,L.length = q:=⟨_,rfl⟩;rw [hq] at hlen hcap ⊢;have HQ:=Zh hq;have m0:(0:Int) <= (m:Int):=by omega
 clear hq RB h0 hB0 hb1 hrd RC;go_cut [27] (fun u27 wx=>u27 = .bool (endsB L m) /\ Below w1.heap.size w1 wx)
 case first =>
  rcases Nat.eq_zero_or_pos q with hq0 | hq0
  case inl =>
   subst hq0;have he:endsB L m = false:=by unfold endsB; rw [HQ.out]; rfl
   have HE:=Zh he;have d0:decide ((0:Int) < 0) = false:=by decide
   clear he;go_wp2;go_meet;exact ⟨by rw [HE.out],Below.refl _ _⟩
  case inr =>
   obtain ⟨j,rfl⟩:∃ j,q = j + 1:=⟨q - 1,by omega⟩;have hjl:j < L.length:=by rw [HQ.out]; omega
   obtain ⟨b,off,f,t,rfl,hbb,hc0,hc1,hs⟩:=HRD.out.at_ hjl
   have he:endsB L m = (t == (m:Int)):=by
    unfold endsB; rw [HQ.out,Nat.add_sub_cancel,hs.out]; simp
   have HE:=Zh he;have d0:decide ((0:Int) < (j:Int) + 1) = true:=decide_eq_true Zo;have d1:(j:Int) + 1 - 1 = (j:Int):=by omega
   have j0:(0:Int) <= (j:Int):=by omega
   have j1:(j:Int) < (j:Int) + 1:=by omega
   clear he hs;go_wp2;go_meet;exact ⟨by rw [HE.out],Below.refl _ _⟩
 case rest =>
 obtain ⟨rfl,hb2⟩:=hcut;rename World=>w2
 have RB2:=RB1.below hb2;have HR2:=Zh (HRD.out.below hb2);have HB2:=Zh (HB1.out.trans (hb2.mono HB1.out.size));have he0:q = 0 -> endsB L m = false:=fun h=>by unfold endsB; rw [HQ.out,h]; rfl
 have HL6:Hid ((if endsB (restsL ks m) m then (restsL ks m).take ((restsL ks m).length - 1) else restsL ks m) = if endsB L m then L.take (q - 1) else L):=Zh (by rw [HLL.out,HQ.out]);have HT6:InT (if endsB L m then L.take (q - 1) else L):=by split; exact HT.out.take _; exact HT.out
 obtain ⟨L6,hL6⟩:∃ L6,(if endsB L m then L.take (q - 1) else L) = L6:=⟨_,rfl⟩;rw [hL6] at HL6 HT6;have HLX:=Zh hL6;have HTX:=Zh HT6;obtain ⟨eb,heb⟩:∃ eb,endsB L m = eb:=⟨_,rfl⟩;rw [heb] at HLX he0 ⊢;have HE0:=Zh he0;clear heb he0 HT6 hL6 hb2 RB1 HRD HB1;go_upto_if 27 with fail
 (try go_frame);go_cut [9] (fun u9 wx=>∃ (A6:Option Addr) (q6 c6:Nat),u9 = .slice A6 q6 c6 /\ q6 <= q /\ Hid (L6.length = q6) /\ Hid (RdS wx A6 L6) /\ Below w2.heap.size w2 wx)
 case first =>
  cases eb with
  | false =>
   go_wp2;go_meet;exact ⟨A5,q,c5,rfl,Nat.le_refl _,Zh (by rw [<- HLX.out]; exact HQ.out),Zh (by rw [<- HLX.out]; exact HR2.out),Below.refl _ _⟩
  | true =>
   have hqp:0 < q:=by
    rcases Nat.eq_zero_or_pos q with h | h
    ·have:=HE0.out h; cases this
    ·exact h
   obtain ⟨j,rfl⟩:∃ j,q = j + 1:=⟨q - 1,by omega⟩;have hjl:j < L.length:=by rw [HQ.out]; omega
   obtain ⟨b,off,f,t,rfl,hbb,hc0,hc1,hs⟩:=HR2.out.at_ hjl;have d1:(j:Int) + 1 - 1 = (j:Int):=by omega
   have j0:(0:Int) <= (j:Int):=by omega
   have j2:(j:Int) <= (c5:Int):=by omega
   clear hs hc0 hc1;go_wp2;go_meet;exact ⟨some ⟨b,off,none⟩,j,c5,rfl,Nat.le_succ _,Zh (by rw [<- HLX.out]; simp only [if_true]; rw [List.length_take,HQ.out]; omega),Zh (by rw [<- HLX.out]; simp only [if_true]; exact RdS.take9 HR2.out _),Below.refl _ _⟩
 case rest =>
 obtain ⟨A6,q6,c6,rfl,hq6,HQ6,HR6,hb3⟩:=hcut;rename World=>w3
 have RB3:=RB2.below hb3;have HB3:=Zh (HB2.out.trans (hb3.mono HB2.out.size));clear hb3 RB2 HR2 HB2 HE0 HLX;have f18:w3.cell? ⟨w.heap.size,18,none⟩ = some (.int .i64 (x 18)):=RB3.2 18 Zo;have f8:w3.cell? ⟨w.heap.size,8,none⟩ = some (.int .i64 (x 8)):=RB3.2 8 Zo;have f13:w3.cell? ⟨w.heap.size,13,none⟩ = some (.int .i64 (x 13)):=RB3.2 13 Zo;have ne18:(x 18 == 0) = false:=by simp; omega
 have ne18b:¬ x 18 = 0:=by omega
 have hr0:=Int.emod_nonneg (m:Int) (show x 18 ≠ 0 by omega);have hr1:=mod_le (show (0:Int) <= (m:Int) by omega) hx18a;have etm:(m:Int).tmod (x 18) = (m:Int) % x 18:=Int.tmod_eq_emod_of_nonneg Zo;have hdoc:∀ k:Nat,docSince x ks m k = if k = 0 then (docBrk x L6).1 else if k = 1 ∨ k = 5 then docLast L6 (x 8) m else if k = 3 ∨ k = 9 then (m:Int) - (m:Int) % x 18 else if k = 4 then (if (m:Int) - (m:Int) % x 18 < x 18 then 0 else (m:Int) - (m:Int) % x 18 - x 18) else docLast L6 (x 13) m:=fun k=>by rw [<- HL6.out]; rfl
 obtain ⟨rm,hrm⟩:∃ rm,(m:Int) % x 18 = rm:=⟨_,rfl⟩;rw [hrm] at hr0 hr1 etm hdoc;have HDOC:=Zh hdoc;have hwrm:=wrap14 rm Zo Zo;have hww:IntKind.i64.wrap ((m:Int) - rm) = (m:Int) - rm:=wrap14 _ Zo Zo;have hww2:IntKind.i64.wrap ((m:Int) - rm - x 18) = (m:Int) - rm - x 18:=wrap14 _ Zo Zo;have CB:=fun W h=>brkend16_any x A6 c6 q6 L6 W HQ6.out h HTX.out Zo
 have CL8:=fun W h=>last16_any A6 c6 q6 L6 (x 8) (m:Int) W HQ6.out h HTX.out Zo
 have CL13:=fun W h=>last16_any A6 c6 q6 L6 (x 13) (m:Int) W HQ6.out h HTX.out Zo
 clear hrm hdoc HL6 HLL;have this:cl = 0 ∨ cl = 1 ∨ cl = 2 ∨ cl = 3 ∨ cl = 4 ∨ cl = 5 ∨ cl = 6 ∨ cl = 7 ∨ cl = 8 ∨ cl = 9:=by omega
 clear hcl
 rcases this with rfl | rfl | rfl | rfl | rfl | rfl | rfl | rfl | rfl | rfl
 ·have HV:=Zh (show docSince x ks m 0 = (docBrk x L6).1 from HDOC.out 0)
  clear HDOC CL8 CL13;go_wp2_with (first | refine wpList_load_bk Zv 23 _ rfl _ _ rfl x _ (RB3) Tryz.underlying23 rfl Zk ?_ | (go_at_call 102; (with_reducible refine (CB _ HR6.out).mono ?_); rintro e w4 ⟨rfl,hb4⟩));go_ret;exact ⟨by rw [HV.out]; try rfl,HB3.out.trans (hb4.mono HB3.out.size)⟩
 ·have HV:=Zh (show docSince x ks m 1 = docLast L6 (x 8) m from HDOC.out 1)
  clear HDOC CL13 CB;go_wp2_with (go_at_call 100; (with_reducible refine (CL8 _ HR6.out).mono ?_); rintro e w4 ⟨rfl,hb4⟩);go_ret;exact ⟨by rw [HV.out]; try rfl,HB3.out.trans (hb4.mono HB3.out.size)⟩
 ·have HV:=Zh (show docSince x ks m 2 = docLast L6 (x 13) m from HDOC.out 2)
  clear HDOC CL8 CB;go_wp2_with (go_at_call 100; (with_reducible refine (CL13 _ HR6.out).mono ?_); rintro e w4 ⟨rfl,hb4⟩);go_ret;exact ⟨by rw [HV.out]; try rfl,HB3.out.trans (hb4.mono HB3.out.size)⟩
 ·have HV:=Zh (show docSince x ks m 3 = (m:Int) - rm from HDOC.out 3)
  clear HDOC CL8 CL13 CB;go_wp2;go_ret;exact ⟨by rw [HV.out]; try rfl,HB3.out⟩
 ·have HV0:=Zh (show docSince x ks m 4 = if (m:Int) - rm < x 18 then 0 else (m:Int) - rm - x 18 from HDOC.out 4)
  clear HDOC CL8 CL13 CB;by_cases g:(m:Int) - rm < x 18
  ·have e1:decide ((m:Int) - rm < x 18) = true:=decide_eq_true g
   have HV:=Zh (show docSince x ks m 4 = 0 by rw [HV0.out,if_pos g]);clear HV0;go_wp2;go_ret;exact ⟨by rw [HV.out]; try rfl,HB3.out⟩
  ·have e1:decide ((m:Int) - rm < x 18) = false:=decide_eq_false g
   have HV:=Zh (show docSince x ks m 4 = (m:Int) - rm - x 18 by rw [HV0.out,if_neg g]);clear HV0;go_wp2;go_ret;exact ⟨by rw [HV.out]; try rfl,HB3.out⟩
 ·have HV:=Zh (show docSince x ks m 5 = docLast L6 (x 8) m from HDOC.out 5)
  clear HDOC CL13 CB;go_wp2_with (go_at_call 100; (with_reducible refine (CL8 _ HR6.out).mono ?_); rintro e w4 ⟨rfl,hb4⟩);go_ret;exact ⟨by rw [HV.out]; try rfl,HB3.out.trans (hb4.mono HB3.out.size)⟩
 ·have HV:=Zh (show docSince x ks m 6 = docLast L6 (x 13) m from HDOC.out 6)
  clear HDOC CL8 CB;go_wp2_with (go_at_call 100; (with_reducible refine (CL13 _ HR6.out).mono ?_); rintro e w4 ⟨rfl,hb4⟩);go_ret;exact ⟨by rw [HV.out]; try rfl,HB3.out.trans (hb4.mono HB3.out.size)⟩
 ·have HV:=Zh (show docSince x ks m 7 = docLast L6 (x 13) m from HDOC.out 7)
  clear HDOC CL8 CB;go_wp2_with (go_at_call 100; (with_reducible refine (CL13 _ HR6.out).mono ?_); rintro e w4 ⟨rfl,hb4⟩);go_ret;exact ⟨by rw [HV.out]; try rfl,HB3.out.trans (hb4.mono HB3.out.size)⟩
 ·have HV:=Zh (show docSince x ks m 8 = docLast L6 (x 13) m from HDOC.out 8)
  clear HDOC CL8 CB;go_wp2_with (go_at_call 100; (with_reducible refine (CL13 _ HR6.out).mono ?_); rintro e w4 ⟨rfl,hb4⟩);go_ret;exact ⟨by rw [HV.out]; try rfl,HB3.out.trans (hb4.mono HB3.out.size)⟩
 ·have HV:=Zh (show docSince x ks m 9 = (m:Int) - rm from HDOC.out 9)
  clear HDOC CL8 CL13 CB;go_wp2;go_ret;exact ⟨by rw [HV.out]; try rfl,HB3.out⟩
set_option maxRecDepth 100000 in
set_option maxHeartbeats 2000000 in
theorem refdcheck16_any (x:Nat -> Int) (A:Option Addr) (c:Nat) (l:List Rc) (w:World) (h:RdR w A l) (hl:l.length <= 1000000) :
  Calls Tryz.prog 60 #[.agg (bk x),.slice A l.length c] w fun e w'=>e = .returned (.int .i64 (dcheckV x l)) /\ Below w.heap.size w w':=by
 have C1:=fun W=>refmay_any x W
 have RB:RdI (w.alloc (.cells (bk x) 23)) w.heap.size 0 x:=RdI.new x 23 rfl;have hB0:Below w.heap.size w (w.alloc (.cells (bk x) 23)):=b_al (Below.refl _ _) Zl _;unfold dcheckV;by_cases hx:May x
 case neg =>
  simp only [if_neg hx] at C1 ⊢;clear hx;go_enter Tryz.func60,Tryz.ntmps60;go_wp2_with (first | refine wpList_load_bk Zv 23 _ rfl _ _ rfl x _ Zm Tryz.underlying23 rfl Zk ?_ | (go_at_call 55; (with_reducible refine (C1 _).mono ?_); rintro e w1 ⟨rfl,hb1⟩));go_ret;exact ⟨rfl,b_cl hB0 Zl hb1⟩
 simp only [if_pos hx] at C1 ⊢;clear hx;have C2:=fun W h=>refrcheck_any A c l W h Zo
 have C3:=fun W h=>refbeg_any A c l.length l W (Zh rfl) h Zo
 generalize ((checkV l).1:Int) = pl at C2;by_cases he:(checkV l).2 = 0
 case neg =>
  rw [if_neg he];generalize (checkV l).2 = er at C2 he ⊢;have ne:(er != 0) = true:=by simpa using he
  have ne2:(er == 0) = false:=by simpa using he
  clear he C3;go_enter Tryz.func60,Tryz.ntmps60;go_wp2_with (first | refine wpList_load_bk Zv 23 _ rfl _ _ rfl x _ Zm Tryz.underlying23 rfl Zk ?_ | (go_at_call 55; (with_reducible refine (C1 _).mono ?_); rintro e w1 ⟨rfl,hb1⟩; have B1:=b_cl hB0 Zl hb1) | (go_at_call 58; (with_reducible refine (C2 _ (h.below B1)).mono ?_); rintro e w2 ⟨rfl,hb2⟩));go_ret;exact ⟨rfl,b_cl B1 Zl hb2⟩
 rw [if_pos he];rw [he] at C2;clear he;generalize beg l = bg at C3 ⊢;by_cases hb:bg = 0
 case pos =>
  subst hb;rw [if_pos rfl];go_enter Tryz.func60,Tryz.ntmps60;go_wp2_with (first | refine wpList_load_bk Zv 23 _ rfl _ _ rfl x _ Zm Tryz.underlying23 rfl Zk ?_ | (go_at_call 55; (with_reducible refine (C1 _).mono ?_); rintro e w1 ⟨rfl,hb1⟩; have B1:=b_cl hB0 Zl hb1) | (go_at_call 58; (with_reducible refine (C2 _ (h.below B1)).mono ?_); rintro e w2 ⟨rfl,hb2⟩; have B2:=b_cl B1 Zl hb2) | (go_at_call 31; (with_reducible refine (C3 _ (h.below B2)).mono ?_); rintro e w3 ⟨rfl,rfl⟩));go_ret;exact ⟨rfl,B2⟩
 case neg =>
  rw [if_neg hb];have ne:(bg != 0) = true:=by simpa using hb
  have ne2:(bg == 0) = false:=by simpa using hb
  clear hb;go_enter Tryz.func60,Tryz.ntmps60;go_wp2_with (first | refine wpList_load_bk Zv 23 _ rfl _ _ rfl x _ Zm Tryz.underlying23 rfl Zk ?_ | (go_at_call 55; (with_reducible refine (C1 _).mono ?_); rintro e w1 ⟨rfl,hb1⟩; have B1:=b_cl hB0 Zl hb1) | (go_at_call 58; (with_reducible refine (C2 _ (h.below B1)).mono ?_); rintro e w2 ⟨rfl,hb2⟩; have B2:=b_cl B1 Zl hb2) | (go_at_call 31; (with_reducible refine (C3 _ (h.below B2)).mono ?_); rintro e w3 ⟨rfl,rfl⟩));go_ret;exact ⟨rfl,B2⟩
end Go.Proofs.YtiamnbddbmgffaaGreatDoor
