/- VerdictAudits of layer 22 answers true at every input: all that any case breaks, and the report of it, is as the document says, or the error. Conditions: none beyond the row's own. -/
import Derived.Test.YtiamnbddbmgffaaGreatDoorRows
import Derived.Test.YtiamnbddbmgffaaGreatDoorTie
import Derived.Test.YtiamnbddbmgffaaGreatDoorCards
import Derived.Test.YtiamnbddbmgffaaGreatDoorP49
import Derived.Test.YtiamnbddbmgffaaGreatDoorP39
import Derived.ShutString
import Derived.ChangeOld
namespace Go.Proofs.YtiamnbddbmgffaaGreatDoor.verdictAudits
open Go.ChangeMaps (open_string shut_string)
open Go.ChangeShapes Go.WideShapes Go.ChangeAt Go.RowKit
set_option linter.unusedVariables false
theorem own:ownKnob Tryz.prog.godebug = none:=by kernel_rfl
theorem laidOut:laidOutB Tryz.prog = true:=by kernel_rfl
theorem door_met (os:Os) (args:Array Value):laidMetH Tryz.prog Rows.verdictAuditsRow.laid ((World.doorLaid Tryz.prog 400 os).forCall (fun _ _=>0) ⟨#[],args,[]⟩).memory :=
 laidMetH_of_parts3 (fuel:=8) (laidMet_of_run' 8 Zk Zk) Zk Zk
open Classical in
theorem light_ok {C:Cse} (sh:C.Sh) (h:C.light = true):C.Ok:=by
 unfold Cse.light at h;simp only [Bool.and_eq_true,decide_eq_true_eq] at h;obtain ⟨⟨⟨h1,h2⟩,h3⟩,_⟩:=h;refine ⟨sh,h1.few,?_,?_⟩
 ·unfold lightB at h2
  simp only [Bool.and_eq_true,decide_eq_true_eq] at h2;rw [<- sh.n];exact h2.1
 ·unfold lightB at h3
  simp only [Bool.and_eq_true,decide_eq_true_eq] at h3;rw [<- sh.n2];exact h3.1
set_option maxRecDepth 100000 in
set_option maxHeartbeats 4000000 in
theorem walk (w:World) (hl:Laid15 w) (C:Cse) (rd:C.Rd w) (sh:C.Sh) :
  Calls Tryz.prog 3 #[.agg C.cs] w fun e w'=>e = .returned (.bool true) /\ Below w.heap.size w w':=by
 have hB0:Below w.heap.size w (w.alloc (.cells C.cs 30)):=b_al (Below.refl _ _) Zl _;have hX0:Bx (w.alloc (.cells C.cs 30)) w.heap.size 30 C.cs:=Bx.new (W:=w) _ _ rfl;have X0:=Zh hX0;have B0:=Zh hB0;have HR:=Zh rd;have HL:=Zh hl;have CL:=fun W (h:C.Rd W)=>light22_any C W h sh
 cases hlv:C.light with
 | false =>
  rw [hlv] at CL;clear rd hX0 hB0 hl sh hlv;go_enter Tryz.func3,Tryz.ntmps3
  go_wp2_with (first
   | go_skip
   | (refine wpList_load_box Zv 30 _ rfl w.heap.size rfl 30 C.cs _ X0.out Tryz.underlying30 rfl (by rw [C.size]; kernel_rfl) ?_)
   | (go_at_call 6; (with_reducible refine (CL _ (HR.out.below B0.out)).mono ?_); rintro e w1 ⟨rfl,hb⟩; have X1:=Zh (X0.out.below hb); have B1:=Zh (b_cl B0.out Zl hb); clear hb)
   | (go_at_call 7; (with_reducible refine (alive22_any _ (HL.out.below B1.out)).mono ?_); rintro e w9 ⟨rfl,hb9⟩))
  go_ret;exact ⟨rfl,b_cl B1.out Zl hb9⟩
 | true =>
 rw [hlv] at CL;have hO:=light_ok sh hlv;have CA:=fun W (h:C.Rd W)=>audit22_any C W h hO
 have CR:=fun W (h:C.Rd W)=>refaudit22_any C W h hO
 have CP:=fun W (hl:Laid15 W) (h:C.Rd W)=>report22_any C W hl h hO
 have CQ:=fun W (h:C.Rd W)=>refreport22_any C W h hO
 have CS:=fun W (h:C.Rd W)=>passes22_any C W h hO
 have hfl:=C.found_len;have HPS:C.pass = (C.err == 0 && C.found.length == 0):=rfl;generalize C.pass = ps at *;generalize C.rep = s at *;generalize C.found = fl at *;obtain ⟨m,hm⟩:∃ m,fl.length = m:=⟨_,rfl⟩;have HM:=Zh hm;rw [hm] at HPS hfl;have CA:∀ W,C.Rd W -> Calls Tryz.prog 8 #[.agg C.cs] W fun e w'=>∃ A' c',e = .returned (.tuple #[.slice A' m c',.int .i64 C.err]) /\ RdF w' A' fl /\ Below W.heap.size W w':=fun W h=>(CA W h).mono fun e w' ⟨A',m',c',h1,h2,h3,_,h5⟩=>⟨A',c',by rw [h1,<- h2,hm],h3,h5⟩
 have CR:∀ W,C.Rd W -> Calls Tryz.prog 9 #[.agg C.cs] W fun e w'=>∃ A' c',e = .returned (.tuple #[.slice A' m c',.int .i64 C.err]) /\ RdF w' A' fl /\ Below W.heap.size W w':=fun W h=>(CR W h).mono fun e w' ⟨A',m',c',h1,h2,h3,_,h5⟩=>⟨A',c',by rw [h1,<- h2,hm],h3,h5⟩
 generalize C.err = er at *;have ee:(er == er) = true:=by simp
 have es:(s.toList == s.toList) = true:=by simp
 clear rd hX0 hB0 hl sh hlv hO hm;by_cases he:er = 0
 ·subst he
  have ep:((m:Int) == 0) = ps:=by rw [HPS,Bool.eq_iff_iff]; simp
  have pp:(ps == ps) = true:=by simp
  clear HPS;go_enter Tryz.func3,Tryz.ntmps3
  go_wp2_with (first
   | go_skip
   | (refine wpList_load_box Zv 30 _ rfl w.heap.size rfl 30 C.cs _ X0.out Tryz.underlying30 rfl (by rw [C.size]; kernel_rfl) ?_) | (refine wpList_load_box Zv 30 _ rfl w.heap.size rfl 30 C.cs _ X1.out Tryz.underlying30 rfl (by rw [C.size]; kernel_rfl) ?_) | (refine wpList_load_box Zv 30 _ rfl w.heap.size rfl 30 C.cs _ X2.out Tryz.underlying30 rfl (by rw [C.size]; kernel_rfl) ?_) | (refine wpList_load_box Zv 30 _ rfl w.heap.size rfl 30 C.cs _ X3.out Tryz.underlying30 rfl (by rw [C.size]; kernel_rfl) ?_) | (refine wpList_load_box Zv 30 _ rfl w.heap.size rfl 30 C.cs _ X4.out Tryz.underlying30 rfl (by rw [C.size]; kernel_rfl) ?_) | (refine wpList_load_box Zv 30 _ rfl w.heap.size rfl 30 C.cs _ X6.out Tryz.underlying30 rfl (by rw [C.size]; kernel_rfl) ?_)
   | (go_at_call 6; (with_reducible refine (CL _ (HR.out.below B0.out)).mono ?_); rintro e w1 ⟨rfl,hb⟩; have X1:=Zh (X0.out.below hb); have B1:=Zh (b_cl B0.out Zl hb); clear hb)
   | (go_at_call 8; (with_reducible refine (CA _ (HR.out.below B1.out)).mono ?_); rintro e w2 ⟨A2,c2,rfl,hr2,hb⟩; have R2:=Zh hr2; have X2:=Zh (X1.out.below hb); have B2:=Zh (b_cl B1.out Zl hb); clear hb; clear hr2)
   | (go_at_call 9; (with_reducible refine (CR _ (HR.out.below B2.out)).mono ?_); rintro e w3 ⟨A3,c3,rfl,hr3,hb⟩; have S3:=Zh hr3; have R3:=Zh (R2.out.below hb); have X3:=Zh (X2.out.below hb); have B3:=Zh (b_cl B2.out Zl hb); clear hb; clear hr3)
   | (go_at_call 10; (with_reducible refine (CP _ (HL.out.below B3.out) (HR.out.below B3.out)).mono ?_); rintro e w4 ⟨rfl,hb⟩; have S4:=Zh (S3.out.below hb); have R4:=Zh (R3.out.below hb); have X4:=Zh (X3.out.below hb); have B4:=Zh (b_cl B3.out Zl hb); clear hb)
   | (go_at_call 11; (with_reducible refine (CQ _ (HR.out.below B4.out)).mono ?_); rintro e w5 ⟨rfl,hb⟩; have S5:=Zh (S4.out.below hb); have R5:=Zh (R4.out.below hb); have X5:=Zh (X4.out.below hb); have B5:=Zh (b_cl B4.out Zl hb); clear hb)
   | (go_at_call 12; (with_reducible refine (sameF_any A2 A3 c2 c3 m m fl fl _ HM HM R5.out S5.out Zo).mono ?_); rintro e w6 ⟨rfl,hb⟩; rw [decide_eq_true (rfl:fl = fl)]; have X6:=Zh (X5.out.below hb); have B6:=Zh (b_cl B5.out Zl hb); clear hb)
   | (go_at_call 13; (with_reducible refine (CS _ (HR.out.below B6.out)).mono ?_); rintro e w7 ⟨rfl,hb⟩; have X7:=Zh (X6.out.below hb); have B7:=Zh (b_cl B6.out Zl hb); clear hb)
   | (go_at_call 7; (with_reducible refine (alive22_any _ (HL.out.below B7.out)).mono ?_); rintro e w9 ⟨rfl,hb9⟩))
  go_ret;exact ⟨by first | rfl | simp,b_cl B7.out Zl hb9⟩
 ·have e0:(er == 0) = false:=by simpa using he
  have HP:ps = false:=by rw [HPS,e0]; rfl
  subst HP;clear HPS he;go_enter Tryz.func3,Tryz.ntmps3
  go_wp2_with (first
   | go_skip
   | (refine wpList_load_box Zv 30 _ rfl w.heap.size rfl 30 C.cs _ X0.out Tryz.underlying30 rfl (by rw [C.size]; kernel_rfl) ?_) | (refine wpList_load_box Zv 30 _ rfl w.heap.size rfl 30 C.cs _ X1.out Tryz.underlying30 rfl (by rw [C.size]; kernel_rfl) ?_) | (refine wpList_load_box Zv 30 _ rfl w.heap.size rfl 30 C.cs _ X2.out Tryz.underlying30 rfl (by rw [C.size]; kernel_rfl) ?_) | (refine wpList_load_box Zv 30 _ rfl w.heap.size rfl 30 C.cs _ X3.out Tryz.underlying30 rfl (by rw [C.size]; kernel_rfl) ?_) | (refine wpList_load_box Zv 30 _ rfl w.heap.size rfl 30 C.cs _ X4.out Tryz.underlying30 rfl (by rw [C.size]; kernel_rfl) ?_) | (refine wpList_load_box Zv 30 _ rfl w.heap.size rfl 30 C.cs _ X6.out Tryz.underlying30 rfl (by rw [C.size]; kernel_rfl) ?_)
   | (go_at_call 6; (with_reducible refine (CL _ (HR.out.below B0.out)).mono ?_); rintro e w1 ⟨rfl,hb⟩; have X1:=Zh (X0.out.below hb); have B1:=Zh (b_cl B0.out Zl hb); clear hb)
   | (go_at_call 8; (with_reducible refine (CA _ (HR.out.below B1.out)).mono ?_); rintro e w2 ⟨A2,c2,rfl,hr2,hb⟩; have R2:=Zh hr2; have X2:=Zh (X1.out.below hb); have B2:=Zh (b_cl B1.out Zl hb); clear hb; clear hr2)
   | (go_at_call 9; (with_reducible refine (CR _ (HR.out.below B2.out)).mono ?_); rintro e w3 ⟨A3,c3,rfl,hr3,hb⟩; have S3:=Zh hr3; have R3:=Zh (R2.out.below hb); have X3:=Zh (X2.out.below hb); have B3:=Zh (b_cl B2.out Zl hb); clear hb; clear hr3)
   | (go_at_call 10; (with_reducible refine (CP _ (HL.out.below B3.out) (HR.out.below B3.out)).mono ?_); rintro e w4 ⟨rfl,hb⟩; have S4:=Zh (S3.out.below hb); have R4:=Zh (R3.out.below hb); have X4:=Zh (X3.out.below hb); have B4:=Zh (b_cl B3.out Zl hb); clear hb)
   | (go_at_call 11; (with_reducible refine (CQ _ (HR.out.below B4.out)).mono ?_); rintro e w5 ⟨rfl,hb⟩; have S5:=Zh (S4.out.below hb); have R5:=Zh (R4.out.below hb); have X5:=Zh (X4.out.below hb); have B5:=Zh (b_cl B4.out Zl hb); clear hb)
   | (go_at_call 12; (with_reducible refine (sameF_any A2 A3 c2 c3 m m fl fl _ HM HM R5.out S5.out Zo).mono ?_); rintro e w6 ⟨rfl,hb⟩; rw [decide_eq_true (rfl:fl = fl)]; have X6:=Zh (X5.out.below hb); have B6:=Zh (b_cl B5.out Zl hb); clear hb)
   | (go_at_call 13; (with_reducible refine (CS _ (HR.out.below B6.out)).mono ?_); rintro e w7 ⟨rfl,hb⟩; have X7:=Zh (X6.out.below hb); have B7:=Zh (b_cl B6.out Zl hb); clear hb)
   | (go_at_call 7; (with_reducible refine (alive22_any _ (HL.out.below B7.out)).mono ?_); rintro e w9 ⟨rfl,hb9⟩))
  go_ret;exact ⟨by first | rfl | simp,b_cl B7.out Zl hb9⟩
set_option maxRecDepth 100000 in
theorem lifted (os:Os) (started:os.Started) (H:Type) (enc:TypeId × Value -> H) :
  ReturnsInHanded {} Tryz.checked os 3 .any (fun w args=>(Rows.verdictAuditsSpec.pre enc Tryz.prog Tryz.f3 [] false w args /\ laidMetH Tryz.prog Rows.verdictAuditsRow.laid w) /\ sizedMet enc Tryz.prog Tryz.f3 (OpenSpec.ofChange Rows.verdictAuditsSpec) false w args)
   (Rows.verdictAuditsSpec.post enc Tryz.prog Tryz.f3 false true false false):=by
 refine returns_laid (C:=Tryz.checked) (X:=fun w _=>laidMetH Tryz.prog Rows.verdictAuditsRow.laid w) (fun _ _ _ hh h=>h.of_heap hh) own started Zk Tryz.func3
  (ChangeSpec.witness_shaped (enc:=enc) (C:=Tryz.checked) (os:=os) (X:=fun w _=>laidMetH Tryz.prog Rows.verdictAuditsRow.laid w) false (World.doorLaid Tryz.prog 400 os) #[.agg #[.int .i64 0,.int .i64 0,.int .i64 0,.int .i64 0,.int .i64 0,.int .i64 0,.int .i64 0,.int .i64 0,.int .i64 0,.int .i64 0,.int .i64 0,.int .i64 0,.int .i64 0,.int .i64 0,.int .i64 0,.int .i64 0,.int .i64 0,.int .i64 0,.int .i64 0,.slice none 0 0,.slice none 0 0,.slice none 0 0,.int .i64 0,.int .i64 0,.int .i64 0,.slice none 0 0,.int .i64 0]] 8 rfl (World.shaped_of_RefB Zk Zk) Zk Zk Zk (door_met os _)) ?_
 intro W base args ds gs before hsh hval0 hW hL;have hval:∀ (j:Nat) t v,Tryz.f3.params[j]? = some t -> args[j]? = some v -> Value.okWide Tryz.prog W .any base t v:=hval0;have hW':=hW;obtain ⟨p,q,hA0,hV,rfl,hfz,hnd⟩:=hW;have hA:DataW.TrodAll enc Tryz.prog W 0 (fun _=>true) true Tryz.f3.params.toList args.toList ds p:=hA0;rw [Tryz.params3] at hA hval;obtain ⟨v0,vs0,d0,ds0,p0,q0,hargs,rfl,rfl,h0,r0⟩:=trodAll_cons hA;obtain ⟨rfl,rfl,rfl⟩:=trodAll_nil r0;obtain rfl:args = #[v0]:=by cases args; simp_all
 obtain ⟨rfl,rfl⟩:=trodVars_none hV;have k0:=h0;have lt0:∀ x ∈ p0,x.block < W.heap.size:=by obtain ⟨m,hm⟩:=k0; exact DataW.trod_lt m _ _ _ hm
 obtain ⟨C,rfl,rd,sh⟩:=open_case (hval 0 30 v0 rfl rfl) h0;clear hA0 hval0;simp only [List.append_nil] at hW';refine (walk W (laid15_of hL Zk (by simp [Rows.verdictAuditsRow]) (by simp [Rows.verdictAuditsRow])) C rd sh).mono fun e W' ⟨he,bel⟩=>?_
 subst he;exact ⟨_,rfl,_,_,_,[],_,[],hW',trodAll_mk1 (shut_bool Tryz.underlying4 _),(trodAll_cons_mk (Below.trod laidOut Zk (of_decide_eq_true Zk) k0 bel lt0) trodAll_mk0),rfl,bel.frame _,fun h=>by cases h⟩
theorem over:Rows.VerdictAuditsSaid :=
 OpenClaim.holds_of_wide 3 Tryz.f3 rfl rfl rfl rfl rfl rfl rfl ⟨rfl,rfl,rfl,rfl,rfl⟩ rfl rfl rfl rfl rfl Zk Tryz.func3 Zk
  (of_decide_eq_true Zk) (by unfold Func.isWrapper; first | (rw [if_pos (by decide +kernel)]; kernel_rfl) | (rw [if_neg (by decide +kernel)]; exact ⟨rfl,rfl⟩))
  (fun os started H enc _=>lifted os started H enc)
theorem proved:Rows.VerdictAuditsCardSaid :=
 Claim7.holds_tied_plain_at .later [] _ true _ _ over (fun _ h=>by cases h) Zk (fun _ h=>by cases h) verdictAudits_row_tie rfl ⟨rfl,rfl⟩ Zk rfl
  (fun f fn hf hfn=>by
   obtain rfl:f = 3:=Option.some.inj ((show Tryz.prog.funcNamed "haulier/haulierlaw22.VerdictAudits" = some 3 by kernel_rfl).symm.trans hf) |>.symm;obtain rfl:fn = Tryz.f3:=(Option.some.inj (Tryz.func3.symm.trans hfn)).symm
   exact ⟨by kernel_rfl,fun j t ht=>by
    rw [Tryz.params3] at ht;have hm:t ∈ [30]:=by simpa using Array.mem_of_getElem? ht
    have hall:([30].all fun u=>!Tryz.prog.wantsStandIn u) = true:=by kernel_rfl
    exact (show Tryz.prog.wantsStandIn t = false by simpa using List.all_eq_true.1 hall t hm)⟩)
  Zk
#print axioms proved
end Go.Proofs.YtiamnbddbmgffaaGreatDoor.verdictAudits
