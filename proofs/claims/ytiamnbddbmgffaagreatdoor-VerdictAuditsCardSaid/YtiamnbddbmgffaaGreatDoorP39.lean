/- Texts of the proofs of VerdictAudits, VerdictAll, VerdictRising, pressed: VerdLight, VerdPass. Conditions: as each theorem says. -/
import Derived.Test.YtiamnbddbmgffaaGreatDoorRows
import Derived.Test.YtiamnbddbmgffaaGreatDoorP38
import Derived.Test.YtiamnbddbmgffaaGreatDoorP35
import Derived.Test.YtiamnbddbmgffaaGreatDoorP37
namespace Go.Proofs.YtiamnbddbmgffaaGreatDoor
open Go.RowKit
set_option linter.unusedVariables false
open Classical in
noncomputable def Cse.light (C:Cse):Bool:=decide (LightK C.k) && lightB C.l && lightB C.l2 && decide (C.nl <= 100)
open Classical in
set_option maxRecDepth 100000 in
set_option maxHeartbeats 2000000 in
theorem light22_any (C:Cse) (w:World) (hR:C.Rd w) (hO:C.Sh) :
  Calls Tryz.prog 6 #[.agg C.cs] w fun e w'=>e = .returned (.bool C.light) /\ Below w.heap.size w w':=by
 have hB0:Below w.heap.size w (w.alloc (.cells C.cs 30)):=b_al (Below.refl _ _) Zl _;have hX0:Bx (w.alloc (.cells C.cs 30)) w.heap.size 30 C.cs:=Bx.new (W:=w) _ _ rfl;have X0:=Zh hX0;have B0:=Zh hB0;have HR:=Zh hR;have CK:=fun W (h:RdK W C.K C.k)=>light19_any C.K C.nk C.ck C.k hO.nk W h
 have C1:=fun W (h:RdR W C.A C.l)=>light16_any C.A C.c C.n C.l W hO.n h
 have C2:=fun W (h:RdR W C.A2 C.l2)=>light16_any C.A2 C.c2 C.n2 C.l2 W hO.n2 h
 have k21_0:=hX0.cell (k:=21) (v:=.slice C.K C.nk C.ck) rfl;have lt0:=hX0.lt;have HV:Hid (C.light = (decide (LightK C.k) && lightB C.l && lightB C.l2 && decide (C.nl <= 100))):=Zh rfl;generalize decide (LightK C.k) = t1 at *;generalize lightB C.l = t2 at *;generalize lightB C.l2 = t3 at *;have e4:decide ((C.nl:Int) <= 100) = decide (C.nl <= 100):=decide_eq_decide.2 Zo;generalize decide (C.nl <= 100) = t4 at *;clear hR hO hX0 hB0
 cases t1 with
 | false =>
  go_enter Tryz.func6,Tryz.ntmps6
  go_wp2_with (first
   | go_skip
   | (go_at_call 14; (with_reducible refine (CK _ (HR.out.below B0.out).task).mono ?_); rintro e w1 ⟨rfl,hb1⟩))
  go_ret;exact ⟨by rw [HV.out]; rfl,b_cl B0.out Zl hb1⟩
 | true =>
  cases t2 with
  | false =>
   go_enter Tryz.func6,Tryz.ntmps6
   go_wp2_with (first
    | go_skip
    | (go_at_call 14; (with_reducible refine (CK _ (HR.out.below B0.out).task).mono ?_); rintro e w1 ⟨rfl,hb1⟩; have X1:=Zh (X0.out.below hb1); have B1:=Zh (b_cl B0.out Zl hb1); have k19_1:=X1.out.cell (k:=19) (v:=.slice C.A C.n C.c) rfl; have lt1:=X1.out.lt; clear hb1)
    | (go_at_call 19; (with_reducible refine (C1 _ (HR.out.below B1.out).past).mono ?_); rintro e w2 ⟨rfl,hb2⟩))
   go_ret;exact ⟨by rw [HV.out]; rfl,b_cl B1.out Zl hb2⟩
  | true =>
   cases t3 with
   | false =>
    go_enter Tryz.func6,Tryz.ntmps6
    go_wp2_with (first
     | go_skip
     | (go_at_call 14; (with_reducible refine (CK _ (HR.out.below B0.out).task).mono ?_); rintro e w1 ⟨rfl,hb1⟩; have X1:=Zh (X0.out.below hb1); have B1:=Zh (b_cl B0.out Zl hb1); have k19_1:=X1.out.cell (k:=19) (v:=.slice C.A C.n C.c) rfl; have lt1:=X1.out.lt; clear hb1)
     | (have _t:=B1; go_at_call 19; (with_reducible refine (C1 _ (HR.out.below B1.out).past).mono ?_); rintro e w2 ⟨rfl,hb2⟩; have X2:=Zh (X1.out.below hb2); have B2:=Zh (b_cl B1.out Zl hb2); have k20_2:=X2.out.cell (k:=20) (v:=.slice C.A2 C.n2 C.c2) rfl; have lt2:=X2.out.lt; clear hb2)
     | (go_at_call 19; (with_reducible refine (C2 _ (HR.out.below B2.out).plan).mono ?_); rintro e w3 ⟨rfl,hb3⟩))
    go_ret;exact ⟨by rw [HV.out]; rfl,b_cl B2.out Zl hb3⟩
   | true =>
    go_enter Tryz.func6,Tryz.ntmps6
    go_wp2_with (first
     | go_skip
     | (go_at_call 14; (with_reducible refine (CK _ (HR.out.below B0.out).task).mono ?_); rintro e w1 ⟨rfl,hb1⟩; have X1:=Zh (X0.out.below hb1); have B1:=Zh (b_cl B0.out Zl hb1); have k19_1:=X1.out.cell (k:=19) (v:=.slice C.A C.n C.c) rfl; have lt1:=X1.out.lt; clear hb1)
     | (have _t:=B1; go_at_call 19; (with_reducible refine (C1 _ (HR.out.below B1.out).past).mono ?_); rintro e w2 ⟨rfl,hb2⟩; have X2:=Zh (X1.out.below hb2); have B2:=Zh (b_cl B1.out Zl hb2); have k20_2:=X2.out.cell (k:=20) (v:=.slice C.A2 C.n2 C.c2) rfl; have lt2:=X2.out.lt; clear hb2)
     | (go_at_call 19; (with_reducible refine (C2 _ (HR.out.below B2.out).plan).mono ?_); rintro e w3 ⟨rfl,hb3⟩; have X3:=Zh (X2.out.below hb3); have B3:=Zh (b_cl B2.out Zl hb3); have k25_3:=X3.out.cell (k:=25) (v:=.slice C.L C.nl C.cl) rfl; have lt3:=X3.out.lt; clear hb3))
    go_ret;exact ⟨by rw [HV.out]; try rfl,B3.out⟩
def exC:Cse:=⟨euV,none,0,0,[],none,0,0,[],none,0,0,[],0,0,0,none,0,0,[],0⟩
theorem exC_rd (w:World):exC.Rd w:=⟨RdR.nil _ _,RdR.nil _ _,RdK.nil _ _,fun h=>absurd rfl h⟩
theorem exC_ok:exC.Ok where
 n:=rfl
 z:=fun _=>rfl
 n2:=rfl
 z2:=fun _=>rfl
 nk:=rfl
 ck:=Nat.le_refl _
 zk:=fun _=>rfl
 a:=by decide
 b:=by decide
 nl:=rfl
 few:=fun t ht=>by cases ht
 hn:=Nat.zero_le _
 hn2:=Nat.zero_le _
theorem exC_err:exC.err = 0:=Cse.go_on (C:=exC) may_eu Zd Zd Zd rfl
theorem exC_found:exC.found = []:=by
 unfold Cse.found;rw [if_pos exC_err]
 have h1:exC.rules = []:=by
  unfold Cse.rules auditV;split
  ·exact listF_nil fun c _=>rfl
  ·rfl
 have h2:exC.tasks = []:=by decide +kernel
 have h3:exC.ldF = []:=by decide +kernel
 rw [h1,h2,h3];rfl
theorem exC_rep:exC.rep = ⟨#[99,108,101,97,114,10]⟩:=by
 unfold Cse.rep;rw [if_pos exC_err,if_pos exC_found]
set_option maxRecDepth 100000 in
set_option maxHeartbeats 2000000 in
theorem alive22_any (w:World) (hl:Laid15 w) :
  Calls Tryz.prog 7 #[] w fun e w'=>e = .returned (.bool true) /\ Below w.heap.size w w':=by
 have CR:=fun W (h:Laid15 W)=>report22_any exC W h (exC_rd W) exC_ok
 rw [exC_rep,exC_err] at CR;have HL:=Zh hl;clear hl;go_enter Tryz.func7,Tryz.ntmps7
 go_wp2_with (first
  | go_skip
  | (go_at_call 20; (with_reducible refine (refeurope_any _).mono ?_); rintro e w1 ⟨rfl,hb1⟩)
  | refine wpList_build_as rfl 37 _ rfl exC.cs Zk ?_
  | (go_at_call 10; (with_reducible refine (CR _ (HL.out.below hb1)).mono ?_); rintro e w2 ⟨rfl,hb2⟩))
 go_ret;exact ⟨rfl,b_tr hb1 hb2⟩
theorem audit_err (x:Nat -> Int) (l:List Rc):(auditV x l).2 = dcheckV x l:=by
 unfold auditV;split
 ·rename_i h; exact h.symm
 ·rfl
theorem aud_err (l:List Tk) (s:Pt) (r:List Rc):(audV l s r).2.2 = checkE l s r:=by
 unfold audV;split
 ·rename_i h; exact h.symm
 ·rfl
theorem ldF_nil {C:Cse}:C.ldF = [] ↔ fitsE C.room C.ns = true:=by
 unfold Cse.ldF
 cases fitsE C.room C.ns <;> simp
theorem Cse.pass_is (C:Cse) {p:Pt} {fl:List Rc} {er:Int} (hV:audV C.k (C.i,C.a,C.b) C.l2 = (p,fl,er)) :
  C.pass = (acceptsV C.x C.whole && decide (er = 0 /\ fl = []) && fitsE C.room C.ns):=by
 have hfl:C.tasks = fl:=by unfold Cse.tasks; rw [hV]
 have her:checkE C.k (C.i,C.a,C.b) C.l2 = er:=by rw [<- aud_err,hV]
 rw [Bool.eq_iff_iff];unfold Cse.pass acceptsV;rw [audit_err];simp only [Bool.and_eq_true,beq_iff_eq,decide_eq_true_eq,List.length_eq_zero_iff];constructor
 ·rintro ⟨he,hf⟩
  obtain ⟨h1,h2,h3,h4,h5⟩:=Cse.right he;have hs:=Cse.spotE he;unfold Cse.found at hf;rw [if_pos he,List.append_eq_nil_iff,List.append_eq_nil_iff] at hf;obtain ⟨⟨f1,f2⟩,f3⟩:=hf;exact ⟨⟨⟨dcheck_tl h1 h4,f1⟩,by rw [<- her,hs],by rw [<- hfl,f2]⟩,ldF_nil.1 f3⟩
 ·rintro ⟨⟨⟨hd,f1⟩,he,f2⟩,f3⟩
  obtain ⟨h1,h4⟩:=dcheck_ok hd;rw [he] at her;obtain ⟨k1,k2,_⟩:=checkE_zero her
  have hc:chkL C.ns = 0:=by
   unfold fitsE at f3;exact (of_decide_eq_true f3).1
  have hb:beg C.whole = 0:=by
   cases hw:C.whole with
   | nil=>rfl
   | cons r l=>rw [hw] at h4; exact h4.2.1
  have e0:C.err = 0:=by
   rw [Cse.go_on h1 k1 k2 (by rw [tl_check h4]) hb];exact hc
  refine ⟨e0,?_⟩;unfold Cse.found;rw [if_pos e0,hfl,f2,ldF_nil.2 f3];have:C.rules = []:=f1;rw [this];rfl
theorem fin_append:∀ (a:List Rc) {b:List Rc},b ≠ [] -> fin (a ++ b) = fin b
 | [],_,_=>rfl
 | [r],b,h=>by
  cases b with
  | nil=>exact absurd rfl h
  | cons s b=>rfl
 | r :: s :: a,b,h=>fin_append (s :: a) h
def endT (l:List Rc):Int:=if l = [] then 1 else fin l
theorem endT_pos {l:List Rc} (h:Tl 0 l):1 <= endT l:=by
 unfold endT;split
 ·exact Int.le_refl _
 ·rename_i hne
  have h1:=h.len hne
  cases l with
  | nil=>exact absurd rfl hne
  | cons r l =>
   have h2:=h.1.2
   have h3:0 < (kindsV (r :: l)).length:=by
    rw [kinds_cons,List.length_append,List.length_replicate];omega
   omega
theorem endT_len {l:List Rc} (h:Tl 0 l):((kindsV l).length:Int) <= endT l:=by
 unfold endT;split
 ·rename_i e; rw [e]; simp [kindsV]
 ·rename_i hne
  have h1:=h.len hne;omega
theorem endT_plan {l l2:List Rc} (h:l2 ≠ []):endT (l ++ l2) = fin l2:=by
 unfold endT;rw [if_neg (by simp [h]),fin_append l h]
theorem fget_hi {m:Int} {F:Fs} (h:Fhi m F) {c:Nat}:fget F c < m:=by
 obtain ⟨h0,h1,h2,h3⟩:=h;unfold fget
 repeat' split
 all_goals assumption
theorem Cse.bounds {C:Cse} (he:C.err = 0):∀ r ∈ C.found,(0 <= r.1 /\ r.1 < 16) /\ 0 <= r.2.1 /\ r.2.1 < r.2.2 /\ r.2.2 <= endT C.whole:=by
 obtain ⟨h1,h2,h3,h4,h5⟩:=Cse.right he;have hp:=Cse.plan_tl h4;have hE1:=endT_pos h4;intro r hr;unfold Cse.found at hr;rw [if_pos he,List.mem_append,List.mem_append] at hr
 rcases hr with (hr | hr) | hr
 ·unfold Cse.rules auditV at hr
  rw [if_pos (dcheck_tl h1 h4)] at hr;obtain ⟨c,hc,hF,e⟩:=(listF_mem _ r).1 hr;have hok:=Au.ok_run (may_len h1).1 (kindsV C.whole) Au.ok_zero (by have:=h4.short; omega);have hb:=hok.F c r.2.1 r.2.2 (by rw [hF]);have hl:=endT_len h4;refine ⟨by omega,hb.2.1,hb.2.2.1,?_⟩;have:=hb.2.2.2;omega
 ·unfold Cse.tasks at hr
  rw [aud_ok (Cse.spotE he) rfl] at hr;obtain ⟨c,hc,hG,e1,e2⟩:=(outG_mem _ _ r).1 hr;have hb:=hp.bd
  have key:0 <= r.2.1 /\ r.2.1 + 1 <= endT C.whole:=by
   unfold allG at hG;by_cases h4':c = 4
   ·rw [if_pos h4'] at hG
    split at hG
    ·have e:=Option.some.inj hG
     unfold lastT at e;by_cases hn:C.l2 = []
     ·rw [if_pos hn] at e; omega
     ·rw [if_neg hn] at e
      have hl:=hp.len hn;have:endT C.whole = fin C.l2:=endT_plan hn
      have hpos:0 < (kindsV C.l2).length:=by
       cases h9:C.l2 with
       | nil=>exact absurd h9 hn
       | cons q l =>
        rw [h9] at hp;have h8:=hp.1.2;rw [kinds_cons,List.length_append,List.length_replicate];omega
      omega
    ·cases hG
   ·rw [if_neg h4'] at hG
    unfold GF at hG;split at hG
    ·rename_i hc4
     have e:=Option.some.inj hG;have hlt:=fget_hi (c:=c) (runS_hi (l:=C.k) (kindsV C.l2) (m:=beg C.l2) (st:=((C.i,C.a,C.b),none4)) (by unfold none4 Fhi; simp only; omega))
     have hn:C.l2 ≠ []:=by
      intro hn;rw [hn] at hlt e hb hc4;simp [kindsV,beg] at hlt e hc4;omega
     have hl:=hp.len hn;have:endT C.whole = fin C.l2:=endT_plan hn;omega
    ·cases hG
  exact ⟨by omega,key.1,by omega,by omega⟩
 ·unfold Cse.ldF at hr
  split at hr
  ·cases hr
  ·rw [List.mem_singleton] at hr
   subst hr;refine ⟨by show (0:Int) <= 15 /\ (15:Int) < 16; omega,?_,by show beg C.l2 < beg C.l2 + 1; omega,?_⟩
   ·exact hp.bd.1
   ·by_cases hn:C.l2 = []
    ·rw [hn]; exact hE1
    ·have:endT C.whole = fin C.l2:=endT_plan hn
     have hl:=hp.len hn
     have hpos:0 < (kindsV C.l2).length:=by
      cases h9:C.l2 with
      | nil=>exact absurd h9 hn
      | cons q l =>
       rw [h9] at hp;have h8:=hp.1.2;rw [kinds_cons,List.length_append,List.length_replicate];omega
     show beg C.l2 + 1 <= endT C.whole
     omega
theorem Cse.rise {C:Cse} {k:Nat} (hk:k + 1 < C.found.length):(C.found.getD k rz).1 < (C.found.getD (k + 1) rz).1:=by
 have h:=C.sorted;by_cases he:C.err = 0
 ·have e:C.found = C.rules ++ C.tasks ++ C.ldF:=by unfold Cse.found; rw [if_pos he]
  rw [<- e] at h;have:=List.pairwise_iff_getElem.1 h k (k + 1) Zo hk Zo;simpa [List.getD,hk,(by omega:k < C.found.length)] using this
 ·have e:C.found = []:=by unfold Cse.found; rw [if_neg he]
  rw [e] at hk; simp at hk
end Go.Proofs.YtiamnbddbmgffaaGreatDoor
