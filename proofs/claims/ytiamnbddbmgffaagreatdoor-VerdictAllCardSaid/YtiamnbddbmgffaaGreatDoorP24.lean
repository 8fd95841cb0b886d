/- Texts of the proofs of VerdictAudits, VerdictAll, VerdictRising, pressed: DutyRecC, DutyRecord, DutyAudit, IvalsEnc, IvalsHasC, IvalsRightC, WindowC, ErrandLeaf. Conditions: as each theorem says. -/
import Derived.Test.YtiamnbddbmgffaaGreatDoorRows
import Derived.Test.YtiamnbddbmgffaaGreatDoorP23
import Derived.Test.YtiamnbddbmgffaaGreatDoorShelf
import Derived.Deep.RegionWith
namespace Go.Proofs.YtiamnbddbmgffaaGreatDoor
open Go.RowKit
set_option linter.unusedVariables false
set_option maxRecDepth 100000 in
set_option maxHeartbeats 16000000 in
theorem record16_rise (base g L:Nat) (x:Nat -> Int) (a:Au) (k y z:Int) (W:World) (h:DutS base g L x a.m a.p a.F W) (hok:a.Ok y) (hx:May x) (hL18:1 <= x 18) (hk:0 <= k /\ k < 4) (hk0:Hid (¬ k = 0)) (hl1:Hid (0 < a.m.lie)) (hb:0 <= y /\ y < z /\ z <= 40320) :
  Calls Tryz.prog 47 #[.pointer (some ⟨g,0,none⟩),.agg #[.int .i64 k,.int .i64 y,.int .i64 z],.func (.func 43) #[] #[.pointer (some ⟨L,0,none⟩),.pointer (some ⟨g,0,none⟩)]] W fun e W'=>e = .returned (.tuple #[]) /\
   DutS base g L x (a.run x (List.replicate (z - y).toNat k)).m (a.run x (List.replicate (z - y).toNat k)).p (a.run x (List.replicate (z - y).toNat k)).F W' /\ Kp2 base g L W W':=Zrec
theorem record16_any (base g L:Nat) (x:Nat -> Int) (a:Au) (k y z:Int) (W:World) (h:DutS base g L x a.m a.p a.F W) (hok:a.Ok y) (hx:May x) (hL18:1 <= x 18) (hk:0 <= k /\ k < 4) (hb:0 <= y /\ y < z /\ z <= 40320) :
  Calls Tryz.prog 47 #[.pointer (some ⟨g,0,none⟩),.agg #[.int .i64 k,.int .i64 y,.int .i64 z],.func (.func 43) #[] #[.pointer (some ⟨L,0,none⟩),.pointer (some ⟨g,0,none⟩)]] W fun e W'=>e = .returned (.tuple #[]) /\
   DutS base g L x (a.run x (List.replicate (z - y).toNat k)).m (a.run x (List.replicate (z - y).toNat k)).p (a.run x (List.replicate (z - y).toNat k)).F W' /\ Kp2 base g L W W':=by
 by_cases hk0:k = 0
 ·exact record16_rest base g L x a k y z W h hok hx hL18 hk (Zh hk0) hb
 ·by_cases hl:0 < a.m.lie
  ·exact record16_rise base g L x a k y z W h hok hx hL18 hk (Zh hk0) (Zh hl) hb
  ·exact record16_none base g L x a k y z W h hok hx hL18 hk (Zh hk0) (Zh hl) hb
noncomputable def auditV (x:Nat -> Int) (l:List Rc):List Rc × Int:=if dcheckV x l = 0 then (listF (Au.zero.run x (kindsV l)).F,0) else ([],dcheckV x l)
theorem dcheck_ok {x:Nat -> Int} {l:List Rc} (h:dcheckV x l = 0):May x /\ Tl 0 l:=by
 unfold dcheckV at h;split at h
 ·rename_i hx
  split at h
  ·rename_i hc
   split at h
   ·rename_i hb
    have:=check_tl hc;rw [hb] at this;exact ⟨hx,this⟩
   ·cases h
  ·rename_i hc; exact absurd h hc
 ·cases h
theorem dcheck_tl {x:Nat -> Int} {l:List Rc} (hx:May x) (h:Tl 0 l):dcheckV x l = 0:=by
 unfold dcheckV;rw [if_pos hx,tl_check h,if_pos rfl,if_pos]
 cases l with
 | nil=>rfl
 | cons r l=>exact h.2.1
theorem Tl.begins:∀ {l:List Rc} {e:Int} {k:Nat},Tl e l -> k < l.length -> (l.getD k rz).2.1 = e + ((kindsV (l.take k)).length:Int)
 | r :: l,e,0,h,_=>by simpa [kindsV] using h.2.1
 | r :: l,e,k + 1,h,hk=>by
  have ih:=Tl.begins (k:=k) h.2.2 (by simpa using hk);have hr:=h.1.2;have h0:=h.2.1;rw [List.take_succ_cons,kinds_cons,List.length_append,List.length_replicate]
  show (l.getD k rz).2.1 = _
  rw [ih];omega
theorem run_take {x:Nat -> Int} {l:List Rc} (hx:May x) (h:Tl 0 l) {k:Nat} {q y z:Int} (hk:k < l.length) (hr:l.getD k rz = (q,y,z)) :
  (Au.zero.run x (kindsV (l.take k))).Ok y /\ Au.zero.run x (kindsV (l.take (k + 1))) = (Au.zero.run x (kindsV (l.take k))).run x (List.replicate (z - y).toNat q):=by
 have hb:=Tl.begins h hk;rw [hr] at hb;have hb:y = 0 + ((kindsV (l.take k)).length:Int):=hb;have hs:=Nat.le_trans (kinds_take l k) h.short;constructor
 ·have:=Au.ok_run (may_len hx).1 (kindsV (l.take k)) Au.ok_zero Zo
  rw [hb];exact this
 ·rw [kinds_more hk hr,Au.run_append]
set_option maxRecDepth 100000 in
set_option maxHeartbeats 4000000 in
theorem audit16_bad (x:Nat -> Int) (A:Option Addr) (c:Nat) (l:List Rc) (w:World) (h:RdR w A l) (hl:l.length <= 1000000) {er:Int} (he:dcheckV x l = er) (hne:er ≠ 0) :
  Calls Tryz.prog 23 #[.agg (bk x),.slice A l.length c] w fun e w'=>e = .returned (.tuple #[.slice none 0 0,.int .i64 er]) /\ Below w.heap.size w w':=by
 have CK:=fun W h=>dcheck_any x A c l W h hl
 rw [he] at CK;have RB:RdI (w.alloc (.cells (bk x) 23)) w.heap.size 0 x:=RdI.new x 23 rfl;have hB0:Below w.heap.size w (w.alloc (.cells (bk x) 23)):=b_al (Below.refl _ _) Zl _;have h0:=h.below hB0;have ne:(er != 0) = true:=by simpa using hne
 have ne2:(er == 0) = false:=by simpa using hne
 clear he hne;go_enter Tryz.func23,Tryz.ntmps23;go_wp2_with (first | refine wpList_load_bk Zv 23 _ rfl _ _ rfl x _ (RB) Tryz.underlying23 rfl Zk ?_ | (go_at_call 42; (with_reducible refine (CK _ h0).mono ?_); rintro e w1 ⟨rfl,hb1⟩));go_ret2;exact ⟨rfl,b_cl hB0 Zl hb1⟩
set_option maxRecDepth 100000 in
set_option maxHeartbeats 8000000 in
theorem audit16_good (x:Nat -> Int) (A:Option Addr) (c:Nat) (l:List Rc) (w:World) (h:RdR w A l) (hl:l.length <= 1000000) (he:dcheckV x l = 0) :
  Calls Tryz.prog 23 #[.agg (bk x),.slice A l.length c] w fun e w'=>∃ A' m c',e = .returned (.tuple #[.slice A' m c',.int .i64 0]) /\ (listF (Au.zero.run x (kindsV l)).F).length = m /\ RdF w' A' (listF (Au.zero.run x (kindsV l)).F) /\ (A' = none -> c' = 0) /\ Below w.heap.size w w':=by
 obtain ⟨hx,ht⟩:=dcheck_ok he;have CK:=fun W h=>dcheck_any x A c l W h hl
 rw [he] at CK;have RB:RdI (w.alloc (.cells (bk x) 23)) w.heap.size 0 x:=RdI.new x 23 rfl;have hB0:Below w.heap.size w (w.alloc (.cells (bk x) 23)):=b_al (Below.refl _ _) Zl _;have h0:=h.below hB0;obtain ⟨R,hR⟩:∃ R,listF (Au.zero.run x (kindsV l)).F = R:=⟨_,rfl⟩;rw [hR];have HRR:=Zh hR;clear hR he;go_enter Tryz.func23,Tryz.ntmps23
 go_upto_region 5 with (first
  | refine wpList_load_bk Zv 23 _ rfl _ _ rfl x _ (RB) Tryz.underlying23 rfl Zk ?_
  | (go_at_call 42; (with_reducible refine (CK _ h0).mono ?_); rintro e w1 ⟨rfl,hb1⟩; have RB1:=RB.below hb1)
  | refine wpList_load_bk Zv 23 _ rfl _ _ rfl x _ (RB1) Tryz.underlying23 rfl Zk ?_
  | refine wpList_build_as rfl 90 _ rfl (swp x .zero 0) Zk ?_
  | refine wpList_store_box rfl 90 _ _ rfl w1.heap.size (swp x .zero 0) rfl rfl 90 (swp (fun _=>0) .zero 0) (Bx.new (W:=w1) 90 (swp (fun _=>0) .zero 0) rfl) Zk rfl (swp_one _ _ _) (fun w2 u=>?_))
 (try go_frame);have B1:=b_cl hB0 Zl hb1;have hz2:=u.size;simp only [World.size_alloc] at hz2;have hz1:=hb1.size;simp only [World.size_alloc] at hz1;have B2:Below w.heap.size w w2:=(b_al B1 Zo _).trans (u.bel _ Zo);have h2:=h.below B2;have C0:Sw w2 w1.heap.size x .zero 0:=u.box;obtain ⟨g,hg⟩:∃ g,w1.heap.size = g:=⟨_,rfl⟩;rw [hg] at C0 hz2 hz1 ⊢;clear CK RB RB1 hb1 u B1 h0 hB0 hg
 have D0:DutS (g + 2) g (g + 1) x Au.zero.m Au.zero.p Au.zero.F (w2.alloc (.cells #[.slice none 0 0] 33)):=by
  refine ⟨C0.alloc _,⟨.slice none 0 0,[],Bx.new _ _ (by rw [hz2]),OwnF.nil _ _,Rep.nil⟩,by omega,by omega,by omega,by simp; omega⟩
 have B3:Below w.heap.size w (w2.alloc (.cells #[.slice none 0 0] 33)):=b_al B2 Zo _;have hz3:(w2.alloc (.cells #[.slice none 0 0] 33)).heap.size = g + 2:=by simp; omega
 have HX:=Zh hx;have HT:=Zh ht;have HR:=Zh h;have hwg:w.heap.size < g:=by omega
 clear hx ht h h2 C0 B2;obtain ⟨w3,hw3⟩:∃ w3,w2.alloc (.cells #[.slice none 0 0] 33) = w3:=⟨_,rfl⟩;go_wp2
 try rw [hz2]
 try rw [hw3]
 rw [hw3] at D0 B3 hz3;clear hw3;have HD0:Hid (DutS (g + 2) g (g + 1) x (Au.zero.run x (kindsV (l.take 0))).m (Au.zero.run x (kindsV (l.take 0))).p (Au.zero.run x (kindsV (l.take 0))).F w3):=Zh D0;have HB3:=Zh B3;clear D0 B3;go_loopw [23] (fun i wr=>∃ k:Nat,k <= l.length /\ i = .int .i64 (k:Nat) /\ Hid (DutS (g + 2) g (g + 1) x (Au.zero.run x (kindsV (l.take k))).m (Au.zero.run x (kindsV (l.take k))).p (Au.zero.run x (kindsV (l.take k))).F wr) /\ Hid (Below w.heap.size w wr) /\ g + 2 <= wr.heap.size) (fun i _=>l.length - (intOf i).toNat)
 case atStart=>exact ⟨0,Nat.zero_le _,rfl,HD0,HB3,by omega⟩
 case round =>
  clear HD0 HB3;obtain ⟨k,hk,rfl,HD,HB,hzr⟩:=hrel;obtain ⟨w4,rfl⟩:∃ w4:World,w4 = wr:=⟨_,rfl⟩;by_cases hlt:k < l.length
  case pos =>
   obtain ⟨b,off,q,y,z,rfl,hbb,hc0,hc1,hc2,hs⟩:=HR.out.at_ hlt;rw [<- HB.out.cell (p:=⟨b,_,none⟩) hbb] at hc0 hc1 hc2;have hbr:b < w4.heap.size:=by omega
   have bd:=HT.out.at_ k hlt;rw [hs.out] at bd;dsimp only at bd;obtain ⟨hok,hrun⟩:=run_take HX.out HT.out hlt hs.out;generalize Au.zero.run x (kindsV (l.take k)) = a at *;have Bx1:Below w4.heap.size w4 (w4.alloc (.cells #[.int .i64 q,.int .i64 y,.int .i64 z] 50)):=(Below.refl _ _).alloc Zl _;have RC:=record16_any (g + 2) g (g + 1) x a q y z _ (HD.out.below Bx1 rfl) hok HX.out (may_len HX.out).1 bd.1 bd.2;have HRUN:=Zh hrun;have HB4:=Zh (HB.out.alloc HB.out.size (.cells #[.int .i64 q,.int .i64 y,.int .i64 z] 50));clear hrun hok hs bd Bx1;go_wp2_with (go_at_call 47; (refine RC.mono ?_); rintro e w5 ⟨rfl,hd5,hk5⟩; have HD5:=Zh hd5; have HB5:=Zh (HB4.out.trans (hk5.below (n:=w.heap.size) Zo Zo Zo (by simp; omega))); have hz5:=hk5.size; clear hd5 hk5);simp only [World.size_alloc] at hz5;go_roundw
   case rel=>exact ⟨k + 1,by omega,by go_num,Zh (by rw [HRUN.out]; exact HD5.out),HB5,by omega⟩
   case measure=>simp [intOf]; omega
  case neg =>
   obtain rfl:k = l.length:=by omega
   obtain ⟨v,fl,HL,HO,HRp⟩:=HD.out.cell;rw [List.take_of_length_le Zl] at HRp;obtain ⟨A2,c2,rfl,hrd,hzz⟩:=HO.read;have hle:=HRp.le;obtain ⟨n2,hn2⟩:∃ n2,fl.length = n2:=⟨_,rfl⟩;rw [hn2] at HL hle;have SO:=fun W hr=>sort15_any A2 c2 n2 fl W hn2 hr hzz Zo
   have fL:w4.cell? ⟨g + 1,0,none⟩ = some (.slice A2 n2 c2):=HL.cell rfl;clear HL HO hn2 HD;go_wp2_with (go_at_call 48; (with_reducible refine (SO _ hrd).mono ?_); rintro e w5 ⟨A3,m3,c3,r3,rfl,hm3,hset,hr3,hz3',hb5⟩);go_ret2;have hr:r3 = R:=by rw [<- HRR.out]; exact sort_rep HRp hset
   subst hr;exact ⟨A3,m3,c3,rfl,hm3,hr3,hz3',HB.out.trans (hb5.mono Zo)⟩
theorem audit16_any (x:Nat -> Int) (A:Option Addr) (c:Nat) (l:List Rc) (w:World) (h:RdR w A l) (hl:l.length <= 1000000) :
  Calls Tryz.prog 23 #[.agg (bk x),.slice A l.length c] w fun e w'=>∃ A' m c',e = .returned (.tuple #[.slice A' m c',.int .i64 (auditV x l).2]) /\ (auditV x l).1.length = m /\ RdF w' A' (auditV x l).1 /\ (A' = none -> c' = 0) /\ Below w.heap.size w w':=by
 unfold auditV;by_cases he:dcheckV x l = 0
 ·rw [if_pos he]
  exact audit16_good x A c l w h hl he
 ·rw [if_neg he]
  refine (audit16_bad x A c l w h hl rfl he).mono fun e w' ⟨h1,h2⟩=>?_
  exact ⟨none,0,0,h1,rfl,RdF.nil _ _,fun _=>rfl,h2⟩
noncomputable def acceptsV (x:Nat -> Int) (l:List Rc):Bool:=(auditV x l).2 == 0 && (auditV x l).1.length == 0
set_option maxRecDepth 100000 in
set_option maxHeartbeats 1000000 in
theorem accepts16_any (x:Nat -> Int) (A:Option Addr) (c n:Nat) (l:List Rc) (w:World) (hn:l.length = n) (h:RdR w A l) (hl:n <= 1000000) :
  Calls Tryz.prog 15 #[.agg (bk x),.slice A n c] w fun e w'=>e = .returned (.bool (acceptsV x l)) /\ Below w.heap.size w w':=by
 subst hn;have CA:=fun W h=>audit16_any x A c l W h hl
 have RB:RdI (w.alloc (.cells (bk x) 23)) w.heap.size 0 x:=RdI.new x 23 rfl;have hB0:Below w.heap.size w (w.alloc (.cells (bk x) 23)):=b_al (Below.refl _ _) Zl _;have h0:=h.below hB0;unfold acceptsV;generalize (auditV x l).2 = er at *;generalize (auditV x l).1 = f at *;by_cases he:er = 0
 case neg =>
  have ne:(er == 0) = false:=by simpa using he
  have e2:(er == 0 && f.length == 0) = false:=by rw [ne]; rfl
  rw [e2];clear he e2;go_enter Tryz.func15,Tryz.ntmps15;go_wp2_with (first | refine wpList_load_bk Zv 23 _ rfl _ _ rfl x _ (RB) Tryz.underlying23 rfl Zk ?_ | (go_at_call 23; (with_reducible refine (CA _ h0).mono ?_); rintro e w1 ⟨A1,m1,c1,rfl,_,_,_,hb1⟩));go_ret;exact ⟨rfl,b_cl hB0 Zl hb1⟩
 subst he;obtain ⟨r,hr⟩:∃ r,(f.length == 0) = r:=⟨_,rfl⟩;rw [hr,show ((0:Int) == 0) = true from rfl,Bool.true_and];have CA2:∀ W,RdR W A l -> Calls Tryz.prog 23 #[.agg (bk x),.slice A l.length c] W fun e w'=>∃ A' m c',e = .returned (.tuple #[.slice A' m c',.int .i64 0]) /\ (((m:Nat):Int) == 0) = r /\ Below W.heap.size W w':=fun W h=>(CA W h).mono fun e w' ⟨A',m,c',h1,h2,h3,h4,h5⟩=>⟨A',m,c',h1,by rw [<- hr,h2,Bool.eq_iff_iff]; simp,h5⟩
 clear hr CA;go_enter Tryz.func15,Tryz.ntmps15;go_wp2_with (first | refine wpList_load_bk Zv 23 _ rfl _ _ rfl x _ (RB) Tryz.underlying23 rfl Zk ?_ | (go_at_call 23; (with_reducible refine (CA2 _ h0).mono ?_); rintro e w1 ⟨A1,m1,c1,rfl,hm1,hb1⟩));go_ret;exact ⟨rfl,b_cl hB0 Zl hb1⟩
end Go.Proofs.YtiamnbddbmgffaaGreatDoor
namespace Go.Proofs.YtiamnbddbmgffaaGreatDoor
set_option linter.unusedVariables false
def encS (s:Sp):List Value:=[.int .i64 s.1,.int .i64 s.2]
end Go.Proofs.YtiamnbddbmgffaaGreatDoor
namespace Go.Proofs.YtiamnbddbmgffaaGreatDoor
open Go.RowKit
set_option linter.unusedVariables false
theorem pred_has (m:Int) (B:Nat) (w:World) (hB:B < w.heap.size) (hcell:w.cell? ⟨B,0,none⟩ = some (.int .i64 m)) :
  PredBelow Tryz.prog 187 #[.pointer (some ⟨B,0,none⟩)] (fun s=>.agg (encS s).toArray) (fun s=>hasS s m) w:=fun W s hb=>by
 have hc:W.cell? ⟨B,0,none⟩ = some (.int .i64 m):=(hb.cell (p:=⟨B,0,none⟩) hB).trans hcell;have hBW:B < W.heap.size:=Nat.lt_of_lt_of_le hB hb.size;have hne:B ≠ W.heap.size:=by omega
 obtain ⟨x,y⟩:=s
 show Calls Tryz.prog 187 #[.agg #[.int .i64 x,.int .i64 y],.pointer (some ⟨B,0,none⟩)] W _
 have hh:=fun W=>has_any x y m W
 have e:hasS (x,y) m = (decide (x <= m) && decide (m < y)):=rfl;rw [<- e] at hh;clear e;obtain ⟨g,hg⟩:∃ g,hasS (x,y) m = g:=⟨_,rfl⟩;rw [hg] at hh;have HG:=Zh hg;clear hg;go_enter Tryz.func187,Tryz.ntmps187;go_wp2_with (go_at_call 188; refine (hh _).mono ?_; rintro e w1 ⟨rfl,hb1⟩);go_ret;have h1:=hb.alloc hb.size (.cells #[.int .i64 x,.int .i64 y] 121);exact ⟨by show _ = Ending.returned (.bool (hasS (x,y) m)); rw [HG.out]; rfl,h1.trans (hb1.mono h1.size)⟩
set_option maxHeartbeats 400000 in
theorem indexf_empty (A:Option Addr) (c:Nat) (fv:Value) (w:World) :
  Calls Tryz.prog 167 #[.slice A 0 c,fv] w fun e w'=>e = .returned (.int .i64 (-1)) /\ w' = w:=by
 go_enter Tryz.func167,Tryz.ntmps167;go_wp2;refine wp_loop_rounds 1 ?_;rw [rounds_succ];go_wp2;go_ret;exact ⟨rfl,rfl⟩
theorem containsf_empty (A:Option Addr) (c:Nat) (fv:Value) (w:World) :
  Calls Tryz.prog 137 #[.slice A 0 c,fv] w fun e w'=>e = .returned (.bool false) /\ Below w.heap.size w w':=by
 go_enter Tryz.func137,Tryz.ntmps137;go_wp2_with (go_at_call 167; refine (indexf_empty _ _ _ _).mono ?_; rintro e w' ⟨rfl,rfl⟩);go_ret;exact ⟨rfl,Below.refl _ _⟩
theorem containsf_any (A:Option Addr) (c:Nat) (l:List Sp) (m:Int) (B:Nat) (w:World) (h:RdS w A l) (hl:l.length <= 4611686018427387904) (hB:B < w.heap.size) (hcell:w.cell? ⟨B,0,none⟩ = some (.int .i64 m)) :
  Calls Tryz.prog 137 #[.slice A l.length c,.func (.func 187) #[] #[.pointer (some ⟨B,0,none⟩)]] w fun e w'=>e = .returned (.bool (hasL l m)) /\ Below w.heap.size w w':=by
 by_cases hne:l = []
 ·subst hne
  exact containsf_empty A c _ w
 ·obtain ⟨b,off,rfl,hb,hc⟩:=h hne
  have eg:∀ args w,(callFunc 187 args).run Tryz.prog w = .ok (.enter 187 args) w:=enters_of Tryz.func187 Zk rfl
  have hcon:=AnyQ.slices_ContainsFunc hasFL 2 Tryz.isAgg121 Tryz.sizeOf121 encS (fun _=>rfl) (fun s=>hasS s m) 187 #[.pointer (some ⟨B,0,none⟩)] eg b off l.length c l w
   (pred_has m B w hB hcell) Zl Zo hb (fun j hj i v hi=>by
    have h1:=hc j hj;have e:l[j]! = l.getD j (0,0):=by simp [List.getD,hj]
    rw [e] at hi;generalize l.getD j (0,0) = y at hi h1
    match i,hi with
    | 0,hi=>simp [encS] at hi; rw [<- hi]; exact h1.1
    | 1,hi=>simp [encS] at hi; rw [<- hi]; exact h1.2
    | i + 2,hi=>simp [encS] at hi)
  rw [List.take_of_length_le Zl] at hcon;exact hcon
theorem hasl_any (A:Option Addr) (c:Nat) (l:List Sp) (m:Int) (w:World) (h:RdS w A l) (hl:l.length <= 4611686018427387904) :
  Calls Tryz.prog 182 #[.slice A l.length c,.int .i64 m] w fun e w'=>e = .returned (.bool (hasL l m)) /\ Below w.heap.size w w':=by
 have hcon:=containsf_any A c l m w.heap.size (w.alloc (.cells #[.int .i64 m] 3)) (h.below ((Below.refl _ _).alloc Zl _)) hl (by simp) (by simp);have HC:=Zh hcon;clear hcon;generalize hasL l m = g at HC ⊢;go_enter Tryz.func182,Tryz.ntmps182;go_wp2_with (go_at_call 137; refine HC.out.mono ?_; rintro e w1 ⟨rfl,hb1⟩);go_ret;exact ⟨rfl,((Below.refl _ w).alloc Zl _).trans (hb1.mono (by simp))⟩
set_option maxHeartbeats 800000 in
theorem rightl_any (A:Option Addr) (c:Nat) (l:List Sp) (w:World) (h:RdS w A l) (hl:l.length <= 4611686018427387904) :
  Calls Tryz.prog 140 #[.slice A l.length c] w fun e w'=>e = .returned (.bool (rightB l)) /\ Below w.heap.size w w':=by
 go_enter Tryz.func140,Tryz.ntmps140;go_wp2;go_loopw [7] (fun i wr=>∃ k:Nat,k <= l.length /\ i = .int .i64 k /\ Below w.heap.size w wr /\ Hid (∀ j,j < k -> okAt l j = true)) (fun i _=>l.length - (intOf i).toNat)
 case atStart=>exact ⟨0,Nat.zero_le _,rfl,Below.refl _ _,Zh Zo⟩
 case round =>
  obtain ⟨k,hk,rfl,hb,hn⟩:=hrel;have hsz:=hb.size;by_cases hlt:k < l.length
  ·obtain ⟨b,off,x,y,rfl,hbb,hc1,hc2,hs⟩:=h.at_ hlt
   rw [<- hb.cell (p:=⟨b,_,none⟩) hbb] at hc1 hc2;have hbr:b < wr.heap.size:=by omega
   have q1:∀ p:BelowOf (wr.alloc (.cells #[.int .i64 x,.int .i64 y] 121)),p.world.cell? ⟨wr.heap.size,0,none⟩ = some (.int .i64 x):=fun p=>p.cell (by simp)
   have q2:∀ p:BelowOf (wr.alloc (.cells #[.int .i64 x,.int .i64 y] 121)),p.world.cell? ⟨wr.heap.size,1,none⟩ = some (.int .i64 y):=fun p=>p.cell (by simp)
   by_cases hxy:x < y
   ·by_cases h0:k = 0
    ·subst h0
     have hg:decide ((0:Int) < 0) = false:=by decide
     simp only [Nat.zero_mul,Nat.add_zero] at hc1 hc2;go_wp2;refine wp_region_bel Zk Zk ?_
     repeat (go_big_quiet_step (first | (go_at_call 118; exact Calls.bel_of (right_yes _ _ _ hxy))))
     refine wpQuiet_nil ?_;refine bel_all fun wq hbq=>?_
     have hbw:=(hb.alloc hsz (.cells #[.int .i64 x,.int .i64 y] 121)).trans (hbq.mono (by simp; omega));clear q1 q2;go_wp2;go_roundw
     case rel=>exact ⟨0 + 1,by omega,by go_num,hbw,Zh (fun j hj=>by
      have:j = 0:=by omega
      subst this
      unfold okAt; rw [hs.out]; simp [hxy])⟩
     case measure=>simp [intOf]; omega
    ·obtain ⟨j,hj⟩:∃ j,k = j + 1:=⟨k - 1,by omega⟩
     have HJ:=Zh hj;have hkj:(k:Int) - 1 = (j:Int):=by omega
     have hjl:j < l.length:=by omega
     clear hj;obtain ⟨b',off',x',y',hA,hbb',hc1',hc2',hs'⟩:=h.at_ hjl;obtain ⟨rfl,rfl⟩:b = b' /\ off = off':=by simpa using hA
     clear hA;rw [<- hb.cell (p:=⟨b,_,none⟩) hbb'] at hc1' hc2';have q3:∀ p:BelowOf (wr.alloc (.cells #[.int .i64 x,.int .i64 y] 121)),p.world.cell? ⟨b,off + j * 2 + 1,none⟩ = some (.int .i64 y'):=fun p=>p.cell (c_al _ hc2')
     have hg:decide (0 < k) = true:=decide_eq_true (by have:=HJ.out; omega)
     have OK:=Zh (show okAt l k = decide (y' < x) by
      unfold okAt; rw [hs.out,HJ.out,show j + 1 - 1 = j from rfl,hs'.out]; simp [hxy])
     by_cases hp:x <= y'
     ·go_wp2
      refine wp_region_bel Zk Zk ?_
      repeat (go_big_quiet_step (first | (go_at_call 118; exact Calls.bel_of (right_yes _ _ _ hxy))))
      refine wpQuiet_nil ?_;refine bel_all fun wq hbq=>?_
      have hbw:=(hb.alloc hsz (.cells #[.int .i64 x,.int .i64 y] 121)).trans (hbq.mono (by simp; omega));clear q1 q2 q3;go_wp2;go_ret;refine ⟨?_,hbw⟩;rw [rightB_no hlt (by rw [OK.out]; simp; omega)]; rfl
     ·have hp':y' < x:=by omega
      have HP:=Zh hp';go_wp2;refine wp_region_bel Zk Zk ?_
      repeat (go_big_quiet_step (first | (go_at_call 118; exact Calls.bel_of (right_yes _ _ _ hxy))))
      refine wpQuiet_nil ?_;refine bel_all fun wq hbq=>?_
      have hbw:=(hb.alloc hsz (.cells #[.int .i64 x,.int .i64 y] 121)).trans (hbq.mono (by simp; omega));clear q1 q2 q3;go_wp2;go_roundw
      case rel=>exact ⟨k + 1,by omega,by go_num,hbw,Zh (fun i hi=>by
       by_cases e:i = k
       ·subst e; rw [OK.out]; exact decide_eq_true HP.out
       ·exact hn.out i Zo)⟩
      case measure=>simp [intOf]; omega
   ·have hyx:y <= x:=by omega
    clear hxy;go_wp2;refine wp_region_bel Zk Zk ?_
    repeat (go_big_quiet_step (first | (go_at_call 118; exact Calls.bel_of (right_no _ _ _ Zo))))
    refine wpQuiet_nil ?_;refine bel_all fun wq hbq=>?_
    have hbw:=(hb.alloc hsz (.cells #[.int .i64 x,.int .i64 y] 121)).trans (hbq.mono (by simp; omega));clear q1 q2;go_wp2;go_ret;refine ⟨?_,hbw⟩;rw [rightB_no hlt (by unfold okAt; rw [hs.out]; simp; omega)]; rfl
  ·go_wp2
   go_ret;refine ⟨?_,hb⟩;rw [rightB_yes fun j hj=>hn.out j Zo]; rfl
theorem pred_wrong (w:World):PredBelow Tryz.prog 138 #[] (fun s=>.agg (encS s).toArray) wrongS w:=fun W s hb=>by
 obtain ⟨x,y⟩:=s
 show Calls Tryz.prog 138 #[.agg #[.int .i64 x,.int .i64 y]] W _
 have h1:=hb.alloc hb.size (.cells #[.int .i64 x,.int .i64 y] 121);have hh:=fun W=>right_any x y W
 obtain ⟨g,hg⟩:∃ g,decide (x < y) = g:=⟨_,rfl⟩;rw [hg] at hh;have HG:=Zh hg;clear hg;go_enter Tryz.func138,Tryz.ntmps138;go_wp2_with (go_at_call 118; refine (hh _).mono ?_; rintro e w1 ⟨rfl,hb1⟩);go_ret;exact ⟨by show _ = Ending.returned (.bool (wrongS (x,y))); unfold wrongS; rw [HG.out]; rfl,h1.trans (hb1.mono h1.size)⟩
theorem pred_range (w:World):PredBelow Tryz.prog 139 #[] (fun s=>.agg (encS s).toArray) rangeS w:=fun W s hb=>by
 obtain ⟨x,y⟩:=s
 show Calls Tryz.prog 139 #[.agg #[.int .i64 x,.int .i64 y]] W _
 have h1:=hb.alloc hb.size (.cells #[.int .i64 x,.int .i64 y] 121);by_cases hx:x < 0
 ·have hd:decide (x < 0) = true:=decide_eq_true hx
  have HW:=Zh (show rangeS (x,y) = true by unfold rangeS; simp [hx]);go_enter Tryz.func139,Tryz.ntmps139;go_wp2;go_ret;exact ⟨by show _ = Ending.returned (.bool (rangeS (x,y))); rw [HW.out]; rfl,h1⟩
 ·have hd:decide (x < 0) = false:=decide_eq_false hx
  by_cases hy:40320 < y
  ·have hd2:decide (40320 < y) = true:=decide_eq_true hy
   have HW:=Zh (show rangeS (x,y) = true by unfold rangeS; simp [hy]);go_enter Tryz.func139,Tryz.ntmps139;go_wp2;go_ret;exact ⟨by show _ = Ending.returned (.bool (rangeS (x,y))); rw [HW.out]; rfl,h1⟩
  ·have hd2:decide (40320 < y) = false:=decide_eq_false hy
   have HW:=Zh (show rangeS (x,y) = false by unfold rangeS; simp; omega);go_enter Tryz.func139,Tryz.ntmps139;go_wp2;go_ret;exact ⟨by show _ = Ending.returned (.bool (rangeS (x,y))); rw [HW.out]; rfl,h1⟩
theorem containsf_of (g:Nat) (cap:Array Value) (p:Sp -> Bool) (eg:∀ args w,(callFunc g args).run Tryz.prog w = .ok (.enter g args) w) (A:Option Addr) (c:Nat) (l:List Sp) (w:World) (h:RdS w A l) (hl:l.length <= 4611686018427387904)
  (hp:PredBelow Tryz.prog g cap (fun s=>.agg (encS s).toArray) p w) :
  Calls Tryz.prog 137 #[.slice A l.length c,.func (.func g) #[] cap] w fun e w'=>e = .returned (.bool (l.any p)) /\ Below w.heap.size w w':=by
 by_cases hne:l = []
 ·subst hne
  exact containsf_empty A c _ w
 ·obtain ⟨b,off,rfl,hb,hc⟩:=h hne
  have hcon:=AnyQ.slices_ContainsFunc hasFL 2 Tryz.isAgg121 Tryz.sizeOf121 encS (fun _=>rfl) p g cap eg b off l.length c l w
   hp Zl Zo hb (fun j hj i v hi=>by
    have h1:=hc j hj;have e:l[j]! = l.getD j (0,0):=by simp [List.getD,hj]
    rw [e] at hi;generalize l.getD j (0,0) = y at hi h1
    match i,hi with
    | 0,hi=>simp [encS] at hi; rw [<- hi]; exact h1.1
    | 1,hi=>simp [encS] at hi; rw [<- hi]; exact h1.2
    | i + 2,hi=>simp [encS] at hi)
  rw [List.take_of_length_le Zl] at hcon;exact hcon
theorem some18_any (g:Nat) (p:Sp -> Bool) (eg:∀ args w,(callFunc g args).run Tryz.prog w = .ok (.enter g args) w) (A:Option Addr) (c n:Nat) (l:List Sp) (B:Nat) (w:World) (hn:l.length = n) (h:RdS w A l) (hl:n <= 4611686018427387904)
  (hc:w.cell? ⟨B,0,none⟩ = some (.slice A n c)) (hp:∀ W,PredBelow Tryz.prog g #[] (fun s=>.agg (encS s).toArray) p W) :
  Calls Tryz.prog 136 #[.func (.func g) #[] #[],.pointer (some ⟨B,0,none⟩)] w fun e w'=>e = .returned (.bool (l.any p)) /\ Below w.heap.size w w':=by
 have hcon:=fun W (h:RdS W A l)=>containsf_of g #[] p eg A c l W h Zo (hp W)
 rw [hn] at hcon;have HR:=Zh h;clear hp h eg;generalize l.any p = v at hcon;go_enter Tryz.func136,Tryz.ntmps136;go_wp2_with (go_at_call 137; refine (hcon _ HR.out).mono ?_; rintro e w1 ⟨rfl,hb1⟩);go_ret;exact ⟨rfl,hb1⟩
theorem may18_any (A:Option Addr) (c:Nat) (l:List Sp) (m:Int) (w:World) (h:RdS w A l) (hl:l.length <= 4611686018427387904) :
  Calls Tryz.prog 176 #[.slice A l.length c,.int .i64 m] w fun e w'=>e = .returned (.bool (hasL l m)) /\ Below w.heap.size w w':=by
 have hcon:=hasl_any A c l m w h hl;generalize hasL l m = g at hcon;go_enter Tryz.func176,Tryz.ntmps176;go_wp2_with (go_at_call 182; refine hcon.mono ?_; rintro e w1 ⟨rfl,hb1⟩);go_ret;exact ⟨rfl,hb1⟩
set_option maxHeartbeats 1600000 in
theorem check18_any (A:Option Addr) (c:Nat) (l:List Sp) (w:World) (h:RdS w A l) (hl:l.length <= 4611686018427387904) :
  Calls Tryz.prog 114 #[.slice A l.length c] w fun e w'=>e = .returned (.int .i64 (checkW l)) /\ Below w.heap.size w w':=by
 have hB0:=(Below.refl w.heap.size w).alloc Zl (.cells #[.slice A l.length c] 75);by_cases h0:l.length = 0
 ·have h0':((l.length:Int) == 0) = true:=by simp [h0]
  have HC:=Zh (check_none h0);go_enter Tryz.func114,Tryz.ntmps114;go_wp2;go_ret;refine ⟨?_,Zq⟩;rw [HC.out]; rfl
 ·have h0':((l.length:Int) == 0) = false:=by simp [h0]
  by_cases h8:8 < l.length
  ·have h8':(8:Int) < (l.length:Int):=by omega
   have HC:=Zh (check_many h8);go_enter Tryz.func114,Tryz.ntmps114;go_wp2;go_ret;refine ⟨?_,Zq⟩;rw [HC.out]; rfl
  ·have h8':¬ (8:Int) < (l.length:Int):=by omega
   have CW:=fun W (hr:RdS W A l) hc=>some18_any 138 wrongS (enters_of Tryz.func138 Zk rfl) A c l.length l w.heap.size W rfl hr hl hc pred_wrong
   have CR:=fun W (hr:RdS W A l) hc=>some18_any 139 rangeS (enters_of Tryz.func139 Zk rfl) A c l.length l w.heap.size W rfl hr hl hc pred_range
   have CS:=fun W (hr:RdS W A l)=>rightl_any A c l W hr hl
   have HR:=Zh h;have tok1:True:=trivial;clear h;obtain ⟨g1,hg1⟩:∃ g,l.any wrongS = g:=⟨_,rfl⟩;obtain ⟨g2,hg2⟩:∃ g,l.any rangeS = g:=⟨_,rfl⟩;obtain ⟨g3,hg3⟩:∃ g,rightB l = g:=⟨_,rfl⟩;rw [hg1] at CW;rw [hg2] at CR;rw [hg3] at CS;have HG1:=Zh hg1;have HG2:=Zh hg2;have HG3:=Zh hg3;clear hg1 hg2 hg3
   cases g1 with
   | true =>
    have HC:=Zh (check_wrong h0 h8 HG1.out);go_enter Tryz.func114,Tryz.ntmps114;go_wp2_with (go_at_call 136; have _t:=tok1; refine (CW _ (HR.out.below hB0) (by simp)).mono ?_; rintro e w1 ⟨rfl,hb1⟩; clear tok1; obtain ⟨hc1,hf1⟩:=bcell hb1; have hz1:=hb1.size; (try simp at hz1); have:w.heap.size < w1.heap.size:=Zo);go_ret;refine ⟨?_,hB0.trans (hb1.mono hB0.size)⟩;rw [HC.out]; rfl
   | false =>
    cases g2 with
    | true =>
     have HC:=Zh (check_range h0 h8 HG1.out HG2.out);go_enter Tryz.func114,Tryz.ntmps114;go_wp2_with (first | (go_at_call 136; have _t:=tok1; refine (CW _ (HR.out.below hB0) (by simp)).mono ?_; rintro e w1 ⟨rfl,hb1⟩; clear tok1; obtain ⟨hc1,hf1⟩:=bcell hb1; have hz1:=hb1.size; (try simp at hz1); have:w.heap.size < w1.heap.size:=Zo) | (go_at_call 136; refine (CR _ (HR.out.below (hB0.trans (hb1.mono hB0.size))) (c_cl (by simp) hb1)).mono ?_; rintro e w2 ⟨rfl,hb2⟩; obtain ⟨hc2,hf2⟩:=bcell hb2; have hz2:=hb2.size; (try simp at hz2); have:w.heap.size < w2.heap.size:=Zo));go_ret;refine ⟨?_,(hB0.trans (hb1.mono hB0.size)).trans (hb2.mono (Nat.le_trans hB0.size hb1.size))⟩;rw [HC.out]; rfl
    | false =>
     cases g3 with
     | true =>
      have HC:=Zh (check_right h0 h8 HG1.out HG2.out HG3.out);go_enter Tryz.func114,Tryz.ntmps114;go_wp2_with (first | (go_at_call 136; have _t:=tok1; refine (CW _ (HR.out.below hB0) (by simp)).mono ?_; rintro e w1 ⟨rfl,hb1⟩; clear tok1; obtain ⟨hc1,hf1⟩:=bcell hb1; have hz1:=hb1.size; (try simp at hz1); have:w.heap.size < w1.heap.size:=Zo) | (go_at_call 136; refine (CR _ (HR.out.below (hB0.trans (hb1.mono hB0.size))) (c_cl (by simp) hb1)).mono ?_; rintro e w2 ⟨rfl,hb2⟩; obtain ⟨hc2,hf2⟩:=bcell hb2; have hz2:=hb2.size; (try simp at hz2); have:w.heap.size < w2.heap.size:=Zo) | (go_at_call 140; refine (CS _ (HR.out.below ((hB0.trans (hb1.mono hB0.size)).trans (hb2.mono (Nat.le_trans hB0.size hb1.size))))).mono ?_; rintro e w3 ⟨rfl,hb3⟩));go_ret;refine ⟨?_,((hB0.trans (hb1.mono hB0.size)).trans (hb2.mono (Nat.le_trans hB0.size hb1.size))).trans (hb3.mono (Nat.le_trans (Nat.le_trans hB0.size hb1.size) hb2.size))⟩;rw [HC.out]; rfl
     | false =>
      have HC:=Zh (check_over h0 h8 HG1.out HG2.out HG3.out);go_enter Tryz.func114,Tryz.ntmps114;go_wp2_with (first | (go_at_call 136; have _t:=tok1; refine (CW _ (HR.out.below hB0) (by simp)).mono ?_; rintro e w1 ⟨rfl,hb1⟩; clear tok1; obtain ⟨hc1,hf1⟩:=bcell hb1; have hz1:=hb1.size; (try simp at hz1); have:w.heap.size < w1.heap.size:=Zo) | (go_at_call 136; refine (CR _ (HR.out.below (hB0.trans (hb1.mono hB0.size))) (c_cl (by simp) hb1)).mono ?_; rintro e w2 ⟨rfl,hb2⟩; obtain ⟨hc2,hf2⟩:=bcell hb2; have hz2:=hb2.size; (try simp at hz2); have:w.heap.size < w2.heap.size:=Zo) | (go_at_call 140; refine (CS _ (HR.out.below ((hB0.trans (hb1.mono hB0.size)).trans (hb2.mono (Nat.le_trans hB0.size hb1.size))))).mono ?_; rintro e w3 ⟨rfl,hb3⟩));go_ret;refine ⟨?_,((hB0.trans (hb1.mono hB0.size)).trans (hb2.mono (Nat.le_trans hB0.size hb1.size))).trans (hb3.mono (Nat.le_trans (Nat.le_trans hB0.size hb1.size) hb2.size))⟩;rw [HC.out]; rfl
set_option maxRecDepth 20000 in
set_option maxHeartbeats 2000000 in
theorem task19_any (d v:Int) (B:Option Addr) (n c:Nat) (o:List Sp) (hn:o.length = n) (w:World) (h:RdS w B o) (hl:n <= 4611686018427387904) :
  Calls Tryz.prog 80 #[.agg #[.int .i64 d,.int .i64 v,.slice B n c]] w fun e w'=>e = .returned (.int .i64 (taskV (d,v,o))) /\ Below w.heap.size w w':=by
 by_cases c0:d < 0
 case pos =>
  rw [task_low Zo];go_enter Tryz.func80,Tryz.ntmps80;go_wp2;go_ret;exact ⟨rfl,Zq⟩
 have m0:0 <= d:=by omega
 clear c0;by_cases c1:10080 < d
 case pos =>
  rw [task_low Zo];go_enter Tryz.func80,Tryz.ntmps80;go_wp2;go_ret;exact ⟨rfl,Zq⟩
 have m1:d <= 10080:=by omega
 clear c1;by_cases c2:v < 0
 case pos =>
  rw [task_low Zo];go_enter Tryz.func80,Tryz.ntmps80;go_wp2;go_ret;exact ⟨rfl,Zq⟩
 have m2:0 <= v:=by omega
 clear c2;by_cases c3:1440 < v
 case pos =>
  rw [task_low Zo];go_enter Tryz.func80,Tryz.ntmps80;go_wp2;go_ret;exact ⟨rfl,Zq⟩
 have m3:v <= 1440:=by omega
 clear c3;by_cases c4:0 < v
 case pos =>
  rw [task_win Zo c4];have CW:=fun W (h:RdS W B o)=>check18_any B c o W h Zo
  rw [hn] at CW;have HR:=Zh h;generalize checkW o = q at CW;clear h hn;go_enter Tryz.func80,Tryz.ntmps80;go_wp2_with (go_at_call 114; refine (CW _ (HR.out.below Zq)).mono ?_; rintro e w1 ⟨rfl,hb1⟩);go_ret;exact ⟨rfl,Zq⟩
 have m4:v <= 0:=by omega
 have HR:=Zh (⟨h,hn⟩:RdS w B o /\ o.length = n);by_cases c5:0 < n
 case pos =>
  rw [task_arg Zo c4 Zo];have c6:(0:Int) < (n:Int):=by omega
  clear c4 h hn;go_enter Tryz.func80,Tryz.ntmps80;go_wp2;go_ret;exact ⟨rfl,Zq⟩
 rw [task_ok Zo c4 Zo];have c6:(n:Int) <= 0:=by omega
 clear c4 h hn;go_enter Tryz.func80,Tryz.ntmps80;go_wp2;go_ret;exact ⟨rfl,Zq⟩
set_option maxRecDepth 20000 in
set_option maxHeartbeats 2000000 in
theorem record19_any (x y z:Int) (w:World) :
  Calls Tryz.prog 162 #[.agg #[.int .i64 x,.int .i64 y,.int .i64 z]] w fun e w'=>e = .returned (.int .i64 (aloneV x y z)) /\ Below w.heap.size w w':=by
 by_cases c0:x < 0
 case pos =>
  have e0:aloneV x y z = 2:=by
   unfold aloneV; repeat' split
   all_goals first | rfl | omega
  rw [e0];clear e0;go_enter Tryz.func162,Tryz.ntmps162;go_wp2;go_ret;exact ⟨rfl,Zq⟩
 have m0:0 <= x:=by omega
 clear c0;by_cases c1:4 <= x
 case pos =>
  have e0:aloneV x y z = 2:=by
   unfold aloneV; repeat' split
   all_goals first | rfl | omega
  rw [e0];clear e0;go_enter Tryz.func162,Tryz.ntmps162;go_wp2;go_ret;exact ⟨rfl,Zq⟩
 have m1:x < 4:=by omega
 clear c1;by_cases c2:y < 0
 case pos =>
  have e0:aloneV x y z = 4:=by
   unfold aloneV; repeat' split
   all_goals first | rfl | omega
  rw [e0];clear e0;go_enter Tryz.func162,Tryz.ntmps162;go_wp2;go_ret;exact ⟨rfl,Zq⟩
 have m2:0 <= y:=by omega
 clear c2;by_cases c3:40320 < y
 case pos =>
  have e0:aloneV x y z = 4:=by
   unfold aloneV; repeat' split
   all_goals first | rfl | omega
  rw [e0];clear e0;go_enter Tryz.func162,Tryz.ntmps162;go_wp2;go_ret;exact ⟨rfl,Zq⟩
 have m3:y <= 40320:=by omega
 clear c3;by_cases c4:z < 0
 case pos =>
  have e0:aloneV x y z = 4:=by
   unfold aloneV; repeat' split
   all_goals first | rfl | omega
  rw [e0];clear e0;go_enter Tryz.func162,Tryz.ntmps162;go_wp2;go_ret;exact ⟨rfl,Zq⟩
 have m4:0 <= z:=by omega
 clear c4;by_cases c5:40320 < z
 case pos =>
  have e0:aloneV x y z = 4:=by
   unfold aloneV; repeat' split
   all_goals first | rfl | omega
  rw [e0];clear e0;go_enter Tryz.func162,Tryz.ntmps162;go_wp2;go_ret;exact ⟨rfl,Zq⟩
 have m5:z <= 40320:=by omega
 clear c5;by_cases c6:z <= y
 case pos =>
  have e0:aloneV x y z = 3:=by
   unfold aloneV; repeat' split
   all_goals first | rfl | omega
  rw [e0];clear e0;go_enter Tryz.func162,Tryz.ntmps162;go_wp2;go_ret;exact ⟨rfl,Zq⟩
 have m6:y < z:=by omega
 clear c6
 have e0:aloneV x y z = 0:=by
  unfold aloneV; repeat' split
  all_goals first | rfl | omega
 rw [e0];clear e0;go_enter Tryz.func162,Tryz.ntmps162;go_wp2;go_ret;exact ⟨rfl,Zq⟩
set_option maxRecDepth 20000 in
set_option maxHeartbeats 2000000 in
theorem left19_end (A:Option Addr) (n c:Nat) (i x y:Int) (w:World) (hi:i = (n:Int)) :
  Calls Tryz.prog 141 #[.slice A n c,.agg #[.int .i64 i,.int .i64 x,.int .i64 y]] w fun e w'=>e = .returned (.tuple #[.int .i64 0,.int .i64 0]) /\ Below w.heap.size w w':=by
 have h0:(i == (n:Int)) = true:=by simp [hi]
 clear hi;go_enter Tryz.func141,Tryz.ntmps141;go_wp2;go_ret2;exact ⟨rfl,Zq⟩
set_option maxRecDepth 20000 in
set_option maxHeartbeats 2000000 in
theorem left19_in (A:Option Addr) (n c:Nat) (l:List Tk) (hn:l.length = n) (k:Nat) (x y:Int) (w:World) (h:RdK w A l) (hk:k < n) :
  Calls Tryz.prog 141 #[.slice A n c,.agg #[.int .i64 (k:Int),.int .i64 x,.int .i64 y]] w fun e w'=>e = .returned (.tuple #[.int .i64 (wrap64 ((tk l k).1 - x)),.int .i64 (wrap64 ((tk l k).2.1 - y))]) /\ Below w.heap.size w w':=by
 obtain ⟨b,off,d,v,B,m,q,rfl,hb,h0,h1,h2,hs⟩:=h.at_ (k:=k) Zo;obtain ⟨o,ho,_,_⟩:=hs.out;have e1:(tk l (k:Int)) = (d,v,o):=ho;rw [e1];clear hs ho e1 h hn;have hne:((k:Int) == (n:Int)) = false:=by simp; omega
 go_enter Tryz.func141,Tryz.ntmps141;go_upto_region 4 with fail
 go_quiet (fail);go_wp2;go_ret2;exact ⟨rfl,Zq⟩
end Go.Proofs.YtiamnbddbmgffaaGreatDoor
