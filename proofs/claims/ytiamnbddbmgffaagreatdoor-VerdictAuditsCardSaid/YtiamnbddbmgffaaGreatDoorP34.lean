/- Texts of the proofs of VerdictAudits, VerdictAll, VerdictRising, pressed: TrailFollows, CatR, CatF, IntsSame, Apart, Add, LoadLeaf, LoadPart, LoadC, VerdLoads, ErrandStart. Conditions: as each theorem says. -/
import Derived.Test.YtiamnbddbmgffaaGreatDoorRows
import Derived.Test.YtiamnbddbmgffaaGreatDoorP33
import Derived.Test.YtiamnbddbmgffaaGreatDoorGrowR
namespace Go.Proofs.YtiamnbddbmgffaaGreatDoor
open Go.RowKit
set_option linter.unusedVariables false
theorem audit20_any (A:Option Addr) (n c:Nat) (l:List Tk) (hn:l.length = n) (i x y:Int) (A':Option Addr) (n' c':Nat) (r:List Rc) (hn':r.length = n') (w:World) (h:RdK w A l) (hf:Few l) (hcn:n <= c) (hz:A = none -> c = 0)
  (hx:-9223372036854775808 <= x /\ x <= 9223372036854775807) (hy:-9223372036854775808 <= y /\ y <= 9223372036854775807) (hr:RdR w A' r) (hl:n' <= 4611686018427387904) {p:Pt} {fl:List Rc} {er:Int} (hV:audV l (i,x,y) r = (p,fl,er)) {m:Nat} (hm:fl.length = m) :
  Calls Tryz.prog 24 #[.slice A n c,.agg #[.int .i64 i,.int .i64 x,.int .i64 y],.slice A' n' c'] w fun e w'=>∃ A2 c2,e = .returned (.tuple #[.agg (sp3 p),.slice A2 m c2,.int .i64 er]) /\ RdF w' A2 fl /\ (A2 = none -> c2 = 0) /\ Below w.heap.size w w':=by
 have C:Calls Tryz.prog 24 #[.slice A n c,.agg #[.int .i64 i,.int .i64 x,.int .i64 y],.slice A' n' c'] w fun e w'=>∃ A2 m2 c2,e = .returned (.tuple #[.agg (sp3 (audV l (i,x,y) r).1),.slice A2 m2 c2,.int .i64 (audV l (i,x,y) r).2.2]) /\ (audV l (i,x,y) r).2.1.length = m2 /\ RdF w' A2 (audV l (i,x,y) r).2.1 /\ (A2 = none -> c2 = 0) /\ Below w.heap.size w w':=by
  by_cases he:checkE l (i,x,y) r = 0
  ·exact audit20_good A n c l hn i x y A' n' c' r hn' w h hf hcn hz hx hy hr hl he
  ·exact audit20_bad A n c l hn i x y A' n' c' r hn' w h hf hcn hz hx hy hr hl rfl he
 rw [hV] at C;refine C.mono ?_;rintro e w' ⟨A2,m2,c2,rfl,h1,h2,h3,h4⟩;simp only at h1;rw [hm] at h1;subst h1;exact ⟨A2,c2,rfl,h2,h3,h4⟩
set_option maxRecDepth 20000 in
set_option maxHeartbeats 2000000 in
theorem follows20_any (A:Option Addr) (n c:Nat) (l:List Tk) (hn:l.length = n) (i x y:Int) (A':Option Addr) (n' c':Nat) (r:List Rc) (hn':r.length = n') (w:World) (h:RdK w A l) (hf:Few l) (hcn:n <= c) (hz:A = none -> c = 0)
  (hx:-9223372036854775808 <= x /\ x <= 9223372036854775807) (hy:-9223372036854775808 <= y /\ y <= 9223372036854775807) (hr:RdR w A' r) (hl:n' <= 4611686018427387904) {p:Pt} {fl:List Rc} {er:Int} (hV:audV l (i,x,y) r = (p,fl,er)) :
  Calls Tryz.prog 17 #[.slice A n c,.agg #[.int .i64 i,.int .i64 x,.int .i64 y],.slice A' n' c'] w fun e w'=>e = .returned (.bool (decide (er = 0 /\ fl = []))) /\ Below w.heap.size w w':=by
 obtain ⟨m,hm⟩:∃ m,fl.length = m:=⟨_,rfl⟩;have CA:=fun W (h:RdK W A l) (hr:RdR W A' r)=>audit20_any A n c l hn i x y A' n' c' r hn' W h hf hcn hz hx hy hr hl hV hm
 have HK:=Zh h;have HR:=Zh hr;have HS0:=Zh (show Bx (w.alloc (.cells #[.int .i64 i,.int .i64 x,.int .i64 y] 27)) w.heap.size 27 #[.int .i64 i,.int .i64 x,.int .i64 y] from Bx.new (W:=w) _ _ rfl);have HB0:=Zh (show Below w.heap.size w (w.alloc (.cells #[.int .i64 i,.int .i64 x,.int .i64 y] 27)) from Zq);by_cases h0:er = 0
 ·subst h0
  by_cases h1:m = 0
  ·subst h1
   have hnil:=List.eq_nil_of_length_eq_zero hm;have e1:decide ((0:Int) = 0 /\ fl = []) = true:=decide_eq_true ⟨rfl,hnil⟩;rw [e1];clear h hr hn hn' hf hcn hz hx hy hV hm hnil e1;go_enter Tryz.func17,Tryz.ntmps17;go_upto_region 1 with fail
   generalize (w.alloc (.cells #[.int .i64 i,.int .i64 x,.int .i64 y] 27)) = W0 at *;go_wp2_with (first | go_skip | (refine wpList_load_box Zv 27 _ rfl w.heap.size rfl 27 #[.int .i64 i,.int .i64 x,.int .i64 y] _ HS0.out Tryz.underlying27 rfl size_spot ?_) | (go_at_call 24; refine (CA _ (HK.out.below HB0.out) (HR.out.below HB0.out)).mono ?_; rintro e w1 ⟨A2,c2,rfl,hrd,hz2,hb1⟩; have HB1:=Zh (b_cl HB0.out Zl hb1); have lt1:=(HS0.out.below hb1).lt; have HX1:=Zh (Bx.new (W:=w1) 27 #[.int .i64 0,.int .i64 0,.int .i64 0] rfl); clear hb1) | (refine wpList_store_box rfl 27 _ _ rfl w1.heap.size (sp3 p) rfl rfl 27 #[.int .i64 0,.int .i64 0,.int .i64 0] HX1.out size_spot rfl (one3 _ _ _) (fun w2 u2=>?_)));go_ret;exact ⟨rfl,(b_al HB1.out Zl _).trans (u2.bel _ Zo)⟩
  ·have hne:fl ≠ []:=by rintro rfl; exact h1 hm.symm
   have e1:decide ((0:Int) = 0 /\ fl = []) = false:=decide_eq_false (fun k=>hne k.2);rw [e1];have h2:((m:Int) == 0) = false:=by simp [h1]
   have h3:¬ (m:Int) = 0:=by omega
   clear h hr hn hn' hf hcn hz hx hy hV hm hne e1 h1;go_enter Tryz.func17,Tryz.ntmps17;go_upto_region 1 with fail
   generalize (w.alloc (.cells #[.int .i64 i,.int .i64 x,.int .i64 y] 27)) = W0 at *;go_wp2_with (first | go_skip | (refine wpList_load_box Zv 27 _ rfl w.heap.size rfl 27 #[.int .i64 i,.int .i64 x,.int .i64 y] _ HS0.out Tryz.underlying27 rfl size_spot ?_) | (go_at_call 24; refine (CA _ (HK.out.below HB0.out) (HR.out.below HB0.out)).mono ?_; rintro e w1 ⟨A2,c2,rfl,hrd,hz2,hb1⟩; have HB1:=Zh (b_cl HB0.out Zl hb1); have lt1:=(HS0.out.below hb1).lt; have HX1:=Zh (Bx.new (W:=w1) 27 #[.int .i64 0,.int .i64 0,.int .i64 0] rfl); clear hb1) | (refine wpList_store_box rfl 27 _ _ rfl w1.heap.size (sp3 p) rfl rfl 27 #[.int .i64 0,.int .i64 0,.int .i64 0] HX1.out size_spot rfl (one3 _ _ _) (fun w2 u2=>?_)));go_ret;exact ⟨rfl,(b_al HB1.out Zl _).trans (u2.bel _ Zo)⟩
 ·have e1:decide (er = 0 /\ fl = []) = false:=decide_eq_false (fun k=>h0 k.1)
  rw [e1];have h2:(er == 0) = false:=by simp [h0]
  clear h hr hn hn' hf hcn hz hx hy hV hm e1;go_enter Tryz.func17,Tryz.ntmps17;go_upto_region 1 with fail
  generalize (w.alloc (.cells #[.int .i64 i,.int .i64 x,.int .i64 y] 27)) = W0 at *;go_wp2_with (first | go_skip | (refine wpList_load_box Zv 27 _ rfl w.heap.size rfl 27 #[.int .i64 i,.int .i64 x,.int .i64 y] _ HS0.out Tryz.underlying27 rfl size_spot ?_) | (go_at_call 24; refine (CA _ (HK.out.below HB0.out) (HR.out.below HB0.out)).mono ?_; rintro e w1 ⟨A2,c2,rfl,hrd,hz2,hb1⟩; have HB1:=Zh (b_cl HB0.out Zl hb1); have lt1:=(HS0.out.below hb1).lt; have HX1:=Zh (Bx.new (W:=w1) 27 #[.int .i64 0,.int .i64 0,.int .i64 0] rfl); clear hb1) | (refine wpList_store_box rfl 27 _ _ rfl w1.heap.size (sp3 p) rfl rfl 27 #[.int .i64 0,.int .i64 0,.int .i64 0] HX1.out size_spot rfl (one3 _ _ _) (fun w2 u2=>?_)));go_ret;exact ⟨rfl,(b_al HB1.out Zl _).trans (u2.bel _ Zo)⟩
def RdLr (w:World) (A:Option Addr) (vs:List Value):Prop :=
 vs ≠ [] -> ∃ b off,A = some ⟨b,off,none⟩ /\ b < w.heap.size /\ ∀ k,k < vs.length -> w.cell? ⟨b,off + k,none⟩ = vs[k]?
def SlrR (w:World) (vs:List Value) (P:List (List Rc)):Prop:=vs.length = P.length /\ ∀ j,j < P.length -> ∃ A c,vs[j]? = some (.slice A (P.getD j []).length c) /\ RdR w A (P.getD j []) /\ (A = none -> c = 0)
theorem append_recC {w:World} {ops:Array Oper} {rest:List Oper} {o:Oper} {a:Act} {Q:Exit -> Act -> World -> Prop} (hgd:o.guard = none) (s x:Operand)
  (ho:o.op = .call { callee:=.builtin .append,args:=#[s,x],argTypes:=#[24,24] })
  (base:Nat) (v:Value) (l l2:List Rc) (hs:a.eval s = v) (hown:OwnR base w v l) (A:Option Addr) (m c:Nat) (hx:a.eval x = .slice A m c) (hm:l2.length = m) (hr:RdR w A l2) (hnil:A = none -> c = 0)
  (hb:l.length + m <= 100000) (hbase:base <= w.heap.size)
  (h:∀ v' w',OwnR base w' v' (l ++ l2) -> w.grownBy w' v.ownBlock -> wpList Tryz.prog ops Q rest (a.put o.dst v') w'):wpList Tryz.prog ops Q (o :: rest) a w:=by
 obtain ⟨i0,hi,hz0,hz1,hz2⟩:=info_parts info_rec
 cases A with
 | none =>
  have e0:l2 = []:=by
   rcases l2 with _ | ⟨s,r⟩
   ·rfl
   ·obtain ⟨b,off,hA,_⟩:=hr (by simp)
    cases hA
  subst e0;have hm0:m = 0:=hm.symm;have hc0:=hnil rfl;subst hm0 hc0;refine wpList_append_own_none hgd s x 24 ho base 50 i0 3 Tryz.underlying24 hi v l.length (flatR l) hs hown hx ?_;exact h v w (by rw [List.append_nil]; exact hown) (World.grownBy.refl w _)
 | some ad =>
  refine wpList_append_own _ hgd s x 24 ho base 50 i0 (.agg #[.int .i64 0,.int .i64 0,.int .i64 0]) 3 24 Tryz.underlying24 hi hz0 hz1 hz2 rfl Zd v l.length (flatR l) hs hown ad m c (flatR l2) hx (by rw [flatR_len,hm]) hr.news (fun u hu=>flatR_one hu) (by unfold maxLen; omega) Zo hbase ?_;intro v' w' hown' hgrow _;refine h v' w' ?_ hgrow;unfold OwnR;rw [flatR_append,List.length_append,hm];exact hown'
theorem growC_nil (z:Int) (n:Nat) (hz:z = n) (hn:n <= 100000) (w:World) :
  Calls Tryz.prog 37 #[.slice none 0 0,.int .i64 z] w fun e w'=>∃ A c,e = .returned (.slice A 0 c) /\ OwnR w.heap.size w' (.slice A 0 c) [] /\ Below w.heap.size w w':=by
 subst hz;obtain ⟨i0,hi,hz0,hz1,hz2⟩:=info_parts info_rec
 rcases Nat.eq_zero_or_pos n with h0 | h0
 ·subst h0
  exact (Any8.slices_Grow_room growRL none 0 0 0 w Zl Zo Zo Zl).mono fun e w' ⟨he,hw⟩=>⟨none,0,he,OwnR.nil _ _,by rw [hw]; exact Below.refl _ _⟩
 ·refine (Any8.slices_Grow_grow growRL i0 (.agg #[.int .i64 0,.int .i64 0,.int .i64 0]) hi hz0 (by rw [hz1]; decide) none 0 0 n [] w Zl Zo (by rw [hz2]; omega) Zo (by simp) (fun _=>rfl) (fun a ha=>by cases ha)).mono fun e w' ⟨he,hw⟩=>⟨_,_,he,?_,?_⟩
  ·rw [hw]
   have hG:=grownCap_ge w (0 + n) 0 50;have hM:=grownCap_le_maxLen w (0 + n) 0 50 (by unfold maxLen; omega);refine World.ownsRow_made (base:=w.heap.size) (e:=50) (size:=3) w.drew _ _ Zl hM ?_;have hzc:(Value.agg #[.int .i64 0,.int .i64 0,.int .i64 0]).cells.size = 3:=rfl;simp only [Array.size_append,size_zeroCells,hzc,List.size_toArray,List.length_nil]
   show 0 + (0 + n - 0) * 3 + (grownCap w (0 + n) 0 50 - (0 + n)) * 3 = grownCap w (0 + n) 0 50 * 3
   omega
  ·rw [hw]; exact ((Below.refl _ _).drew).alloc Zl _
theorem flat_more {P:List (List Rc)} {k:Nat} (h:k < P.length):(P.take (k + 1)).flatten = (P.take k).flatten ++ P.getD k []:=by
 rw [List.take_add_one,List.getD_eq_getElem?_getD,List.getElem?_eq_getElem h];simp only [Option.toList_some,Option.getD_some,List.flatten_append,List.flatten_cons,List.flatten_nil,List.append_nil]
theorem flat_le (P:List (List Rc)) (k:Nat):(P.take k).flatten.length <= P.flatten.length:=by
 have e:P.flatten = (P.take k).flatten ++ (P.drop k).flatten:=by rw [<- List.flatten_append,List.take_append_drop]
 rw [e,List.length_append];omega
set_option maxRecDepth 20000 in
set_option maxHeartbeats 1600000 in
theorem concatR_any (A:Option Addr) (c N:Nat) (vs:List Value) (P:List (List Rc)) (w:World) (hr:RdLr w A vs) (hs:SlrR w vs P) (hN:P.length = N) (hN2:N <= 1000) (ht:P.flatten.length <= 100000) :
  Calls Tryz.prog 21 #[.slice A N c] w fun e w'=>∃ v,e = .returned v /\ OwnR w.heap.size w' v P.flatten /\ Below w.heap.size w w':=by
 have HR:=Zh hr;have HS:=Zh hs;have HN:=Zh hN;have HL:=Zh fun k=>flat_le P k
 have HM:=Zh fun k (h:k < P.length)=>flat_more h
 obtain ⟨M,hM⟩:∃ M,P.flatten.length = M:=⟨_,rfl⟩;rw [hM] at ht HL;have HMM:=Zh hM;clear hr hs hN hM;go_enter Tryz.func21,Tryz.ntmps21;go_wp2;go_loop [3,11] (fun t i=>∃ k s:Nat,k <= N /\ i = .int .i64 k /\ t = .int .i64 s /\ Hid ((P.take k).flatten.length = s)) (fun _ i=>N - (intOf i).toNat)
 case atStart=>exact ⟨0,0,Nat.zero_le _,rfl,rfl,Zh rfl⟩
 case round =>
  obtain ⟨k,s,hk,rfl,rfl,HK⟩:=hrel;have hsM:=HL.out k;rw [HK.out] at hsM;by_cases hlt:k < N
  ·obtain ⟨A1,c1,hx,_,_⟩:=HS.out.2 k (by rw [HN.out]; exact hlt)
   obtain ⟨b,off,rfl,hbb,hc⟩:=HR.out (by intro e; rw [e] at hx; cases hx);have hc1:=(hc k (by rw [HS.out.1,HN.out]; exact hlt)).trans hx;have hf:=HM.out k (by rw [HN.out]; exact hlt);have hf2:=congrArg List.length hf;rw [List.length_append,HK.out] at hf2;have hsM2:=HL.out (k + 1);rw [hf2] at hsM2;have HF:=Zh hf2;generalize (P.getD k []).length = m at *;clear hc hx hf hf2;go_wp2;go_round
   case rel=>exact ⟨k + 1,s + m,by omega,by go_num,by go_num,HF⟩
   case measure=>simp [intOf]; omega
  ·have hkN:k = N:=by omega
   have HSZ:=Zh (show s = M by rw [<- HK.out,hkN,List.take_of_length_le (by rw [HN.out]; omega),HMM.out]);have hsz:s = M:=HSZ.out;subst hsz;go_wp2_with (go_at_call 37; refine (growC_nil _ s Zo Zo _).mono ?_; rintro e w1 ⟨G,gc,rfl,ho1,hb1⟩);have HO1:=Zh ho1;clear ho1;go_loopw [6,27] (fun v i wr=>∃ k:Nat,k <= N /\ i = .int .i64 k /\ Hid (OwnR w.heap.size wr v (P.take k).flatten) /\ Below w.heap.size w wr) (fun _ i _=>N - (intOf i).toNat)
   case atStart=>exact ⟨0,Nat.zero_le _,rfl,HO1,hb1⟩
   case round =>
    clear HO1 hb1;obtain ⟨k,hk,rfl,HO,hbr⟩:=hrel;have hszr:=hbr.size;by_cases hlt:k < N
    ·obtain ⟨A1,c1,hx,hr1,hz1⟩:=HS.out.2 k (by rw [HN.out]; exact hlt)
     obtain ⟨b,off,rfl,hbb,hc⟩:=HR.out (by intro e; rw [e] at hx; cases hx);have hc1:=(hc k (by rw [HS.out.1,HN.out]; exact hlt)).trans hx;rw [<- hbr.cell (p:=⟨b,_,none⟩) hbb] at hc1;have hf:=HM.out k (by rw [HN.out]; exact hlt);have HR1:=Zh (hr1.below hbr);have HZ1:=Zh hz1;have hsM2:=HL.out (k + 1);rw [hf,List.length_append] at hsM2;have HF:=Zh hf;obtain ⟨R,hR⟩:∃ R,P.getD k [] = R:=⟨_,rfl⟩;rw [hR] at hc1 HR1 hsM2 HF;obtain ⟨Q,hQ⟩:∃ Q,(P.take k).flatten = Q:=⟨_,rfl⟩;rw [hQ] at HO HF hsM2;obtain ⟨m,hm⟩:∃ m,R.length = m:=⟨_,rfl⟩;rw [hm] at hc1 hsM2;have HMN:=Zh hm;clear hc hx hf hr1 hz1 hR hQ hm;go_wp2_with (at_builtin; refine append_recC rfl _ _ rfl w.heap.size _ Q R rfl HO.out A1 m c1 rfl HMN.out HR1.out HZ1.out Zo hszr ?_; intro v' w' ho' hg');have HO2:=Zh ho';have HB2:=Zh (hbr.grown hg' hszr (fun k hk=>(World.ownsRow.lt HO.out k hk).1));clear ho' hg';go_wp2;go_roundw
     case rel=>exact ⟨k + 1,by omega,by go_num,Zh (by rw [HF.out]; exact HO2.out),HB2.out⟩
     case measure=>simp [intOf]; omega
    ·have HT:Hid ((P.take k).flatten = P.flatten):=Zh (by rw [List.take_of_length_le (by rw [HN.out]; omega)])
     rw [HT.out] at HO;go_wp2;go_ret;exact ⟨_,rfl,HO.out,hbr⟩
def SlrF (w:World) (vs:List Value) (P:List (List Rc)):Prop:=vs.length = P.length /\ ∀ j,j < P.length -> ∃ A c,vs[j]? = some (.slice A (P.getD j []).length c) /\ RdF w A (P.getD j []) /\ (A = none -> c = 0)
theorem append_findC {w:World} {ops:Array Oper} {rest:List Oper} {o:Oper} {a:Act} {Q:Exit -> Act -> World -> Prop} (hgd:o.guard = none) (s x:Operand)
  (ho:o.op = .call { callee:=.builtin .append,args:=#[s,x],argTypes:=#[33,33] })
  (base:Nat) (v:Value) (l l2:List Rc) (hs:a.eval s = v) (hown:OwnF base w v l) (A:Option Addr) (m c:Nat) (hx:a.eval x = .slice A m c) (hm:l2.length = m) (hr:RdF w A l2) (hnil:A = none -> c = 0)
  (hb:l.length + m <= 100000) (hbase:base <= w.heap.size)
  (h:∀ v' w',OwnF base w' v' (l ++ l2) -> w.grownBy w' v.ownBlock -> wpList Tryz.prog ops Q rest (a.put o.dst v') w'):wpList Tryz.prog ops Q (o :: rest) a w:=by
 obtain ⟨i0,hi,hz0,hz1,hz2⟩:=info_parts info_find
 cases A with
 | none =>
  have e0:l2 = []:=by
   rcases l2 with _ | ⟨s,r⟩
   ·rfl
   ·obtain ⟨b,off,hA,_⟩:=hr (by simp)
    cases hA
  subst e0;have hm0:m = 0:=hm.symm;have hc0:=hnil rfl;subst hm0 hc0;refine wpList_append_own_none hgd s x 33 ho base 52 i0 3 Tryz.underlying33 hi v l.length (flatF l) hs hown hx ?_;exact h v w (by rw [List.append_nil]; exact hown) (World.grownBy.refl w _)
 | some ad =>
  refine wpList_append_own _ hgd s x 33 ho base 52 i0 (.agg #[.int .i64 0,.int .i64 0,.int .i64 0]) 3 24 Tryz.underlying33 hi hz0 hz1 hz2 rfl Zd v l.length (flatF l) hs hown ad m c (flatF l2) hx (by rw [flatF_len,hm]) hr.news (fun u hu=>flatF_one hu) (by unfold maxLen; omega) Zo hbase ?_;intro v' w' hown' hgrow _;refine h v' w' ?_ hgrow;unfold OwnF;rw [flatF_append,List.length_append,hm];exact hown'
theorem growF_nil (z:Int) (n:Nat) (hz:z = n) (hn:n <= 100000) (w:World) :
  Calls Tryz.prog 96 #[.slice none 0 0,.int .i64 z] w fun e w'=>∃ A c,e = .returned (.slice A 0 c) /\ OwnF w.heap.size w' (.slice A 0 c) [] /\ Below w.heap.size w w':=by
 subst hz;obtain ⟨i0,hi,hz0,hz1,hz2⟩:=info_parts info_find
 rcases Nat.eq_zero_or_pos n with h0 | h0
 ·subst h0
  exact (Any8.slices_Grow_room growL none 0 0 0 w Zl Zo Zo Zl).mono fun e w' ⟨he,hw⟩=>⟨none,0,he,OwnF.nil _ _,by rw [hw]; exact Below.refl _ _⟩
 ·refine (Any8.slices_Grow_grow growL i0 (.agg #[.int .i64 0,.int .i64 0,.int .i64 0]) hi hz0 (by rw [hz1]; decide) none 0 0 n [] w Zl Zo (by rw [hz2]; omega) Zo (by simp) (fun _=>rfl) (fun a ha=>by cases ha)).mono fun e w' ⟨he,hw⟩=>⟨_,_,he,?_,?_⟩
  ·rw [hw]
   have hG:=grownCap_ge w (0 + n) 0 52;have hM:=grownCap_le_maxLen w (0 + n) 0 52 (by unfold maxLen; omega);refine World.ownsRow_made (base:=w.heap.size) (e:=52) (size:=3) w.drew _ _ Zl hM ?_;have hzc:(Value.agg #[.int .i64 0,.int .i64 0,.int .i64 0]).cells.size = 3:=rfl;simp only [Array.size_append,size_zeroCells,hzc,List.size_toArray,List.length_nil]
   show 0 + (0 + n - 0) * 3 + (grownCap w (0 + n) 0 52 - (0 + n)) * 3 = grownCap w (0 + n) 0 52 * 3
   omega
  ·rw [hw]; exact ((Below.refl _ _).drew).alloc Zl _
set_option maxRecDepth 20000 in
set_option maxHeartbeats 1600000 in
theorem concatF_any (A:Option Addr) (c N:Nat) (vs:List Value) (P:List (List Rc)) (w:World) (hr:RdLr w A vs) (hs:SlrF w vs P) (hN:P.length = N) (hN2:N <= 1000) (ht:P.flatten.length <= 100000) :
  Calls Tryz.prog 54 #[.slice A N c] w fun e w'=>∃ v,e = .returned v /\ OwnF w.heap.size w' v P.flatten /\ Below w.heap.size w w':=by
 have HR:=Zh hr;have HS:=Zh hs;have HN:=Zh hN;have HL:=Zh fun k=>flat_le P k
 have HM:=Zh fun k (h:k < P.length)=>flat_more h
 obtain ⟨M,hM⟩:∃ M,P.flatten.length = M:=⟨_,rfl⟩;rw [hM] at ht HL;have HMM:=Zh hM;clear hr hs hN hM;go_enter Tryz.func54,Tryz.ntmps54;go_wp2;go_loop [3,11] (fun t i=>∃ k s:Nat,k <= N /\ i = .int .i64 k /\ t = .int .i64 s /\ Hid ((P.take k).flatten.length = s)) (fun _ i=>N - (intOf i).toNat)
 case atStart=>exact ⟨0,0,Nat.zero_le _,rfl,rfl,Zh rfl⟩
 case round =>
  obtain ⟨k,s,hk,rfl,rfl,HK⟩:=hrel;have hsM:=HL.out k;rw [HK.out] at hsM;by_cases hlt:k < N
  ·obtain ⟨A1,c1,hx,_,_⟩:=HS.out.2 k (by rw [HN.out]; exact hlt)
   obtain ⟨b,off,rfl,hbb,hc⟩:=HR.out (by intro e; rw [e] at hx; cases hx);have hc1:=(hc k (by rw [HS.out.1,HN.out]; exact hlt)).trans hx;have hf:=HM.out k (by rw [HN.out]; exact hlt);have hf2:=congrArg List.length hf;rw [List.length_append,HK.out] at hf2;have hsM2:=HL.out (k + 1);rw [hf2] at hsM2;have HF:=Zh hf2;generalize (P.getD k []).length = m at *;clear hc hx hf hf2;go_wp2;go_round
   case rel=>exact ⟨k + 1,s + m,by omega,by go_num,by go_num,HF⟩
   case measure=>simp [intOf]; omega
  ·have hkN:k = N:=by omega
   have HSZ:=Zh (show s = M by rw [<- HK.out,hkN,List.take_of_length_le (by rw [HN.out]; omega),HMM.out]);have hsz:s = M:=HSZ.out;subst hsz;go_wp2_with (go_at_call 96; refine (growF_nil _ s Zo Zo _).mono ?_; rintro e w1 ⟨G,gc,rfl,ho1,hb1⟩);have HO1:=Zh ho1;clear ho1;go_loopw [6,27] (fun v i wr=>∃ k:Nat,k <= N /\ i = .int .i64 k /\ Hid (OwnF w.heap.size wr v (P.take k).flatten) /\ Below w.heap.size w wr) (fun _ i _=>N - (intOf i).toNat)
   case atStart=>exact ⟨0,Nat.zero_le _,rfl,HO1,hb1⟩
   case round =>
    clear HO1 hb1;obtain ⟨k,hk,rfl,HO,hbr⟩:=hrel;have hszr:=hbr.size;by_cases hlt:k < N
    ·obtain ⟨A1,c1,hx,hr1,hz1⟩:=HS.out.2 k (by rw [HN.out]; exact hlt)
     obtain ⟨b,off,rfl,hbb,hc⟩:=HR.out (by intro e; rw [e] at hx; cases hx);have hc1:=(hc k (by rw [HS.out.1,HN.out]; exact hlt)).trans hx;rw [<- hbr.cell (p:=⟨b,_,none⟩) hbb] at hc1;have hf:=HM.out k (by rw [HN.out]; exact hlt);have HR1:=Zh (hr1.below hbr);have HZ1:=Zh hz1;have hsM2:=HL.out (k + 1);rw [hf,List.length_append] at hsM2;have HF:=Zh hf;obtain ⟨R,hR⟩:∃ R,P.getD k [] = R:=⟨_,rfl⟩;rw [hR] at hc1 HR1 hsM2 HF;obtain ⟨Q,hQ⟩:∃ Q,(P.take k).flatten = Q:=⟨_,rfl⟩;rw [hQ] at HO HF hsM2;obtain ⟨m,hm⟩:∃ m,R.length = m:=⟨_,rfl⟩;rw [hm] at hc1 hsM2;have HMN:=Zh hm;clear hc hx hf hr1 hz1 hR hQ hm;go_wp2_with (at_builtin; refine append_findC rfl _ _ rfl w.heap.size _ Q R rfl HO.out A1 m c1 rfl HMN.out HR1.out HZ1.out Zo hszr ?_; intro v' w' ho' hg');have HO2:=Zh ho';have HB2:=Zh (hbr.grown hg' hszr (fun k hk=>(World.ownsRow.lt HO.out k hk).1));clear ho' hg';go_wp2;go_roundw
     case rel=>exact ⟨k + 1,by omega,by go_num,Zh (by rw [HF.out]; exact HO2.out),HB2.out⟩
     case measure=>simp [intOf]; omega
    ·have HT:Hid ((P.take k).flatten = P.flatten):=Zh (by rw [List.take_of_length_le (by rw [HN.out]; omega)])
     rw [HT.out] at HO;go_wp2;go_ret;exact ⟨_,rfl,HO.out,hbr⟩
theorem RdN.getD {w:World} {A:Option Addr} {l:List Int} (h:RdN w A l) {k:Nat} (hk:k < l.length):∃ b off x,A = some ⟨b,off,none⟩ /\ b < w.heap.size /\ w.cell? ⟨b,off + k,none⟩ = some (.int .i64 x) /\ Hid (l.getD k 0 = x):=by
 obtain ⟨b,off,hA,hb,hc⟩:=h (nonnil hk);exact ⟨b,off,_,hA,hb,hc k hk,Zh rfl⟩
theorem append_apart {w:World} {base:Nat} {e:TypeId} {size:Nat} {t ty:TypeId} {i:TypeInfo} {z:Value} (ht:Tryz.prog.underlying t = some (.slice e)) (hi:Tryz.prog.info? e = some i) (hz:i.zero = some z) (hsize:i.size = size)
  {bytes:Nat} (hby:i.bytes = bytes) (hzs:z.cells.size = size) (hsz:0 < size)
  {v:Value} {n:Nat} {xs:List Value} (hown:w.ownsRow base e size v n xs) {a:Addr} {m c:Nat} {news:List Value} (hl:news.length = m * size) (hnews:∀ j u,news[j]? = some u -> w.cell? (a.add j) = some u) (h1:∀ u ∈ news,u.oneCell' = true)
  (h63:n + m <= maxLen) (hbytes:(n + m) * bytes <= 140737488355328) {v':Value} {w':World}
  (hr:(Builtin.append_ #[t,t] ty #[v,.slice (some a) m c]).run Tryz.prog w = .ok v' w'):∀ q,v'.ownBlock = some q -> v.ownBlock = some q ∨ w.heap.size <= q:=by
 intro q hq
 rcases hown.2 with ⟨rfl,rfl⟩ | ⟨g,cap,cur,rfl,hbg,hg,hnc,hcm,hcs,htake⟩
 ·obtain rfl:xs = []:=List.eq_nil_of_length_eq_zero (by simpa using hown.1)
  obtain ⟨v2,w2,hr2,ho2,_,_⟩:=run_append_own (P:=Tryz.prog) w w.heap.size t ty e i z size bytes ht hi hz hsize hby hzs hsz _ 0 [] (World.ownsRow_nil w w.heap.size e size) a m c news hl hnews h1 h63 hbytes Zl;rw [hr] at hr2;injection hr2 with e1 e2
  subst e1 e2;exact .inr (World.ownsRow.lt ho2 q hq).1
 ·by_cases hroom:n + m <= cap
  ·have hfit:n * i.size + news.length <= cur.size:=by rw [hl,hcs,hsize,<- Nat.add_mul]; exact Nat.mul_le_mul_right _ hroom
   have hr2:=run_append_room (P:=Tryz.prog) w t ty e i ht hi g n cap cur hg a m c news (by rw [hl,hsize]) hnews h1 hroom hfit;rw [hr] at hr2;injection hr2 with e1 e2
   subst e1;exact .inl hq
  ·subst hsize
   subst hby;have holds:∀ j u,xs[j]? = some u -> w.cell? ((⟨g,0,none⟩:Addr).add j) = some u:=hown.cells (g:=g) rfl;have hr2:=run_append_grow (P:=Tryz.prog) w t ty e i z ht hi hz ⟨g,0,none⟩ n cap xs hown.1 holds a m c news hl hnews Zo (by unfold maxLen at h63; omega) (growslice_fits Zo hbytes);rw [hr] at hr2;injection hr2 with e1 e2
   subst e1;simp [Value.ownBlock] at hq;exact .inr Zo
theorem wpList_snoc_int {ops:Array Oper} {rest:List Oper} {o:Oper} {a:Act} {w:World} {Q:Exit -> Act -> World -> Prop} (hgd:o.guard = none) (s x:Operand)
  (ho:o.op = .call { callee:=.builtin .append,args:=#[s,x],argTypes:=#[28,28] })
  (base:Nat) (v:Value) (l:List Int) (hs:a.eval s = v) (hown:OwnN base w v l) (b:Nat) (y:Int) (hx:a.eval x = .slice (some ⟨b,0,none⟩) 1 1) (hc:w.cell? ⟨b,0,none⟩ = some (.int .i64 y))
  (hb:l.length <= 1000000) (hbase:base <= w.heap.size)
  (h:∀ v' w',OwnN base w' v' (l ++ [y]) -> w.grownBy w' v.ownBlock -> (∀ q,v'.ownBlock = some q -> v.ownBlock = some q ∨ w.heap.size <= q) -> wpList Tryz.prog ops Q rest (a.put o.dst v') w'):wpList Tryz.prog ops Q (o :: rest) a w:=by
 obtain ⟨i1,hj,hy0,hy1,hy2⟩:=info_parts info_int
 have hn:∀ j u,([.int .i64 y]:List Value)[j]? = some u -> w.cell? ((⟨b,0,none⟩:Addr).add j) = some u:=by
  intro j u hj
  match j,hj with
  | 0,hj=>simp at hj; subst hj; simpa [Addr.add] using hc
  | j + 1,hj=>simp at hj
 refine wpList_plain hgd fun K hK=>?_
 obtain ⟨v',w',hr,h2,h3,_⟩:=run_append_own (P:=Tryz.prog) w base 28 o.type 3 i1 (.int .i64 0) 1 8 Tryz.underlying28 hj hy0 hy1 hy2 rfl Zd v l.length _ hown ⟨b,0,none⟩ 1 1 [.int .i64 y] rfl hn int_cells (by unfold maxLen; omega) Zo hbase;have h4:=append_apart Tryz.underlying28 hj hy0 hy1 hy2 rfl Zd hown rfl hn int_cells (by unfold maxLen; omega) Zo hr;unfold Oper.wp execOp;simp only [ho,resolve,invoke,builtin,Sem.run_bind,Sem.run_pure,Result.andThen_ok,List.map_toArray,List.map_cons,List.map_nil,hs,hx,hr];exact hK _ _ (h v' w' (OwnN.snoc h2) h3 h4)
theorem OwnN.grown {base:Nat} {w w':World} {v:Value} {l:List Int} (h:OwnN base w v l) {row:Option Nat} (hg:w.grownBy w' row) (hne:∀ q,v.ownBlock = some q -> row ≠ some q):OwnN base w' v l:=by
 refine World.ownsRow.kept h hg ?_
 cases hv:v.ownBlock with
 | none=>exact .inl rfl
 | some q=>exact .inr fun e=>hne q hv e.symm
theorem add_any (b off len cap:Nat) (l:List Int) (w:World) (hlen:l.length = len) (hl:len <= 9223372036854775807)
  (hc:∀ i,i < len -> w.cell? ⟨b,off + i,none⟩ = some (.int .i64 (l.getD i 0))) (hw:∀ n ∈ l,-9223372036854775808 <= n /\ n <= 9223372036854775807) :
  Calls Tryz.prog 113 #[.slice (some ⟨b,off,none⟩) len cap] w fun e w'=>e = .returned (.tuple #[.int .i64 (sums 0 l).1,.int .i64 (sums 0 l).2]) /\ w = w':=by
 have HC:=Zh hc;have HW:=Zh hw;have HL:=Zh hlen;clear hc hw hlen;go_enter Tryz.func113,Tryz.ntmps113;go_wp2;go_loop [4,10] (fun s i=>∃ (k:Nat) (acc:Int),k <= len /\ s = .int .i64 acc /\ i = .int .i64 k /\ -9223372036854775808 <= acc /\ acc <= 9223372036854775807 /\ Hid (sums 0 l = sums acc (l.drop k))) (fun _ i=>len - (intOf i).toNat)
 case atStart=>exact ⟨0,0,Nat.zero_le _,rfl,rfl,by decide,by decide,Zh rfl⟩
 case round =>
  obtain ⟨k,acc,hk,rfl,rfl,a0,a1,hs⟩:=hrel;by_cases hlt:k < len
  ·have hcell:=HC.out k hlt
   have hd:=Zh (drop_cons l k (by rw [HL.out]; exact hlt))
   have hz:-9223372036854775808 <= l.getD k 0 /\ l.getD k 0 <= 9223372036854775807:=HW.out _ (by
    have:k < l.length:=by rw [HL.out]; exact hlt
    simp [List.getD,this])
   generalize hzz:l.getD k 0 = z at *;clear hzz;obtain ⟨z0,z1⟩:=hz;by_cases h1:9223372036854775807 < acc + z
   ·have hwr:=(add_wrap_hi acc z a1 z1 h1).1
    have hout:=Zh (sums_out acc z (l.drop (k + 1)) Zo);have c1:0 < z:=by omega
    go_wp2;go_ret2;rw [hs.out,hd.out,hout.out];exact ⟨rfl,rfl⟩
   ·by_cases h2:acc + z < -9223372036854775808
    ·have hwr:=(add_wrap_lo acc z a0 z0 h2).1
     have hout:=Zh (sums_out acc z (l.drop (k + 1)) Zo);have c1:z < 0:=by omega
     go_wp2;go_ret2;rw [hs.out,hd.out,hout.out];exact ⟨rfl,rfl⟩
    ·have h3:acc + z <= 9223372036854775807:=by omega
     have h4:-9223372036854775808 <= acc + z:=by omega
     have hin:=Zh (sums_in acc z (l.drop (k + 1)) Zo);clear h1 h2;by_cases c1:0 < z
     ·go_wp2
      go_round
      case rel=>exact ⟨k + 1,acc + z,by omega,rfl,by go_num,h4,h3,Zh (by rw [hs.out,hd.out,hin.out])⟩
      case measure=>simp [intOf]; omega
     ·by_cases c2:z < 0
      all_goals
       go_wp2
       go_round
       case rel=>exact ⟨k + 1,acc + z,by omega,rfl,by go_num,h4,h3,Zh (by rw [hs.out,hd.out,hin.out])⟩
       case measure=>simp [intOf]; omega
  ·have hkl:l.length <= k:=by rw [HL.out]; omega
   have hd:=Zh (List.drop_eq_nil_of_le hkl);clear hkl;go_wp2;go_ret2;rw [hs.out,hd.out,sums_nil];exact ⟨rfl,rfl⟩
theorem add_nil (a:Option Addr) (cap:Nat) (w:World) :
  Calls Tryz.prog 113 #[.slice a 0 cap] w fun e w'=>e = .returned (.tuple #[.int .i64 0,.int .i64 0]) /\ w = w':=by
 go_enter Tryz.func113,Tryz.ntmps113;go_wp2;go_loop [4,10] (fun s i=>s = .int .i64 0 /\ i = .int .i64 0) (fun _ _=>0)
 case atStart=>exact ⟨rfl,rfl⟩
 case round =>
  obtain ⟨rfl,rfl⟩:=hrel;go_wp2;go_ret2;exact ⟨rfl,rfl⟩
theorem check21_any (A:Option Addr) (c n:Nat) (l:List Int) (w:World) (hn:Hid (l.length = n)) (hr:RdN w A l) :
  Calls Tryz.prog 111 #[.slice A n c] w fun e w'=>e = .returned (.int .i64 (chkL l)) /\ w = w':=by
 by_cases hmany:2000 < n
 ·have HM:=Zh (chkL_many (by rw [hn.out]; exact hmany))
  have HH:=Zh hmany;go_enter Tryz.func111,Tryz.ntmps111;go_wp2;go_ret;rw [HM.out];exact ⟨rfl,rfl⟩
 ·have hle:n <= 2000:=by omega
  clear hmany;have HR:=Zh hr;clear hr;go_enter Tryz.func111,Tryz.ntmps111;go_wp2;go_loop [10] (fun i=>∃ k:Nat,k <= n /\ i = .int .i64 k /\ Hid (∀ j,j < k -> Few21 (l.getD j 0))) (fun i=>n - (intOf i).toNat)
  case atStart=>exact ⟨0,Nat.zero_le _,rfl,Zh Zo⟩
  case round =>
   obtain ⟨k,hk,rfl,HF⟩:=hrel;by_cases hlt:k < n
   ·obtain ⟨b,off,x,rfl,hbb,hc0,hs⟩:=HR.out.getD (k:=k) (by rw [hn.out]; exact hlt)
    have HW:=Zh fun h:¬ Few21 x=>chkL_wrong (l:=l) (k:=k) (by rw [hn.out]; exact hle) (by rw [hn.out]; exact hlt) (by rw [hs.out]; exact h)
    by_cases h1:x < -1000000
    ·go_wp2
     go_ret;rw [HW.out (by unfold Few21; omega)];exact ⟨rfl,rfl⟩
    ·by_cases h2:1000000 < x
     ·go_wp2
      go_ret;rw [HW.out (by unfold Few21; omega)];exact ⟨rfl,rfl⟩
     ·go_wp2
      go_round
      case rel=>exact ⟨k + 1,by omega,by go_num,Zh (fun j hj=>by
       by_cases e:j = k
       ·subst e; rw [hs.out]; unfold Few21; omega
       ·exact HF.out j Zo)⟩
      case measure=>simp [intOf]; omega
   ·have HG:=Zh (chkL_right (l:=l) (by rw [hn.out]; exact hle) (fun j hj=>HF.out j (by rw [hn.out] at hj; omega)))
    go_wp2;go_ret;rw [HG.out];exact ⟨rfl,rfl⟩
theorem refcheck21_any (A:Option Addr) (c n:Nat) (l:List Int) (w:World) (hn:Hid (l.length = n)) (hr:RdN w A l) :
  Calls Tryz.prog 59 #[.slice A n c] w fun e w'=>e = .returned (.int .i64 (chkL l)) /\ w = w':=by
 by_cases hmany:2000 < n
 ·have HM:=Zh (chkL_many (by rw [hn.out]; exact hmany))
  have HH:=Zh hmany;go_enter Tryz.func59,Tryz.ntmps59;go_wp2;go_ret;rw [HM.out];exact ⟨rfl,rfl⟩
 ·have hle:n <= 2000:=by omega
  clear hmany;have HR:=Zh hr;clear hr;go_enter Tryz.func59,Tryz.ntmps59;go_wp2;go_loop [3] (fun i=>∃ k:Nat,k <= n /\ i = .int .i64 k /\ Hid (∀ j,j < k -> Few21 (l.getD j 0))) (fun i=>n - (intOf i).toNat)
  case atStart=>exact ⟨0,Nat.zero_le _,rfl,Zh Zo⟩
  case round =>
   obtain ⟨k,hk,rfl,HF⟩:=hrel;by_cases hlt:k < n
   ·obtain ⟨b,off,x,rfl,hbb,hc0,hs⟩:=HR.out.getD (k:=k) (by rw [hn.out]; exact hlt)
    have HW:=Zh fun h:¬ Few21 x=>chkL_wrong (l:=l) (k:=k) (by rw [hn.out]; exact hle) (by rw [hn.out]; exact hlt) (by rw [hs.out]; exact h)
    by_cases h1:x < -1000000
    ·go_wp2
     go_ret;rw [HW.out (by unfold Few21; omega)];exact ⟨rfl,rfl⟩
    ·by_cases h2:1000000 < x
     ·go_wp2
      go_ret;rw [HW.out (by unfold Few21; omega)];exact ⟨rfl,rfl⟩
     ·go_wp2
      go_round
      case rel=>exact ⟨k + 1,by omega,by go_num,Zh (fun j hj=>by
       by_cases e:j = k
       ·subst e; rw [hs.out]; unfold Few21; omega
       ·exact HF.out j Zo)⟩
      case measure=>simp [intOf]; omega
   ·have HG:=Zh (chkL_right (l:=l) (by rw [hn.out]; exact hle) (fun j hj=>HF.out j (by rw [hn.out] at hj; omega)))
    go_wp2;go_ret;rw [HG.out];exact ⟨rfl,rfl⟩
theorem max21_any (A:Option Addr) (c n:Nat) (l:List Int) (w:World) (hn:Hid (l.length = n)) (hr:RdN w A l) (h0:0 < n) (hbig:n <= 4611686018427387904) :
  Calls Tryz.prog 76 #[.slice A n c] w fun e w'=>e = .returned (.int .i64 (mxL l n)) /\ w = w':=by
 have HR:=Zh hr;clear hr;obtain ⟨b0,off0,x0,rfl,hbb0,hc00,hs0⟩:=HR.out.getD (k:=0) (by rw [hn.out]; exact h0);rw [Nat.add_zero] at hc00;have H1:=Zh ((mxL_one l).trans hs0.out);go_enter Tryz.func76,Tryz.ntmps76;go_wp2;go_loop [3,4] (fun m i=>∃ (k:Nat) (y:Int),0 < k /\ k <= n /\ i = .int .i64 k /\ m = .int .i64 y /\ Hid (mxL l k = y)) (fun _ i=>n - (intOf i).toNat)
 case atStart=>exact ⟨1,x0,Nat.one_pos,h0,rfl,rfl,H1⟩
 case round =>
  obtain ⟨k,y,hk0,hk,rfl,rfl,HY⟩:=hrel;by_cases hlt:k < n
  ·obtain ⟨b,off,x,e0,hbb,hc0,hs⟩:=HR.out.getD (k:=k) (by rw [hn.out]; exact hlt)
   injection e0 with e0
   injection e0 with e1 e2 _
   subst e1 e2;have HN:Hid (mxL l (k + 1) = max y x):=Zh (by show max (mxL l k) (l.getD k 0) = _; rw [HY.out,hs.out]);clear hc00;go_wp2;go_round
   case rel=>exact ⟨k + 1,max y x,by omega,by omega,by go_num,rfl,HN⟩
   case measure=>simp [intOf]; omega
  ·obtain rfl:k = n:=by omega
   clear hc00;go_wp2;go_ret;rw [HY.out];exact ⟨rfl,rfl⟩
theorem apart_more {w:World} {base:Nat} {v v5 u:Value} {l:List Int} (hu:OwnN base w u l) (h:∀ q,v.ownBlock = some q -> u.ownBlock ≠ some q) {o:Obj} (hq:∀ q,v5.ownBlock = some q -> v.ownBlock = some q ∨ (w.alloc o).heap.size <= q) :
  ∀ q,v5.ownBlock = some q -> u.ownBlock ≠ some q:=by
 intro q h5 hu5
 rcases hq q h5 with h6 | h6
 ·exact h q h6 hu5
 ·have:=(World.ownsRow.lt hu q hu5).2
  simp at h6;omega
theorem part21_any (A:Option Addr) (c n:Nat) (l:List Int) (w:World) (hn:Hid (l.length = n)) (hr:RdN w A l) (hl:n <= 1000000) :
  Calls Tryz.prog 112 #[.slice A n c] w fun e w'=>∃ v u,e = .returned (.tuple #[v,u]) /\ OwnN w.heap.size w' v (bro l) /\ OwnN w.heap.size w' u (oth l) /\ (∀ q,v.ownBlock = some q -> u.ownBlock ≠ some q) /\ Below w.heap.size w w':=by
 have HR:=Zh hr;clear hr;go_enter Tryz.func112,Tryz.ntmps112;go_wp2;go_loopw [2,3,8] (fun v u i wr=>∃ k:Nat,k <= n /\ i = .int .i64 k /\ Hid (OwnN w.heap.size wr v (bro (l.take k))) /\ Hid (OwnN w.heap.size wr u (oth (l.take k))) /\ Hid (∀ q,v.ownBlock = some q -> u.ownBlock ≠ some q) /\ Below w.heap.size w wr) (fun _ _ i _=>n - (intOf i).toNat)
 case atStart=>exact ⟨0,Nat.zero_le _,rfl,Zh (OwnN.nil _ _),Zh (OwnN.nil _ _),Zh (fun q h=>by cases h),Below.refl _ _⟩
 case round =>
  obtain ⟨k,hk,rfl,HV,HU,HQ,hb⟩:=hrel;obtain ⟨w3,rfl⟩:∃ w3:World,w3 = wr:=⟨_,rfl⟩;have hsz:=hb.size;by_cases hlt:k < n
  ·obtain ⟨b,off,x,rfl,hbb,hc0,hs⟩:=HR.out.getD (k:=k) (by rw [hn.out]; exact hlt)
   rw [<- hb.cell (p:=⟨b,_,none⟩) hbb] at hc0;have HL1:=Zh (Nat.le_trans (bro_len (l.take k)) (take_len l k));have HL2:=Zh (Nat.le_trans (oth_len (l.take k)) (take_len l k));by_cases hx:0 < x
   ·have HB:=Zh (bro_more l (k:=k) (by rw [hn.out]; exact hlt) (by rw [hs.out]; exact hx))
    rw [hs.out] at HB;go_wp2_with (at_builtin; refine wpList_snoc_int rfl _ _ rfl w.heap.size _ _ rfl (OwnN.alloc HV.out _) w3.heap.size x rfl (by simp) (by have:=HL1.out; omega) (by simp; omega) (fun v5 w5 ho5 hg5 hq5=>?_); have HS:=Zh ho5; have HU5:=Zh (OwnN.grown (OwnN.alloc HU.out _) hg5 (fun q h1 h2=>HQ.out q h2 h1)); have HQ5:=Zh (apart_more HU.out HQ.out hq5); have HB5:=Zh ((hb.alloc hb.size (.cells #[.int .i64 x] 3)).grown hg5 (by simp; omega) (fun q hq=>(World.ownsRow.lt HV.out q hq).1)); clear ho5 hg5 hq5);go_roundw
    case rel=>exact ⟨k + 1,by omega,by go_num,Zh (by rw [HB.out.1]; exact HS.out),Zh (by rw [HB.out.2]; exact HU5.out),HQ5,HB5.out⟩
    case measure=>simp [intOf]; omega
   ·have HB:=Zh (oth_more l (k:=k) (by rw [hn.out]; exact hlt) (by rw [hs.out]; exact hx))
    rw [hs.out] at HB;go_wp2_with (at_builtin; refine wpList_snoc_int rfl _ _ rfl w.heap.size _ _ rfl (OwnN.alloc HU.out _) w3.heap.size x rfl (by simp) (by have:=HL2.out; omega) (by simp; omega) (fun v5 w5 ho5 hg5 hq5=>?_); have HS:=Zh ho5; have HV5:=Zh (OwnN.grown (OwnN.alloc HV.out _) hg5 (fun q h1 h2=>HQ.out q h1 h2)); have HQ5:=Zh (fun q h1 h2=>apart_more HV.out (fun q h1 h2=>HQ.out q h2 h1) hq5 q h2 h1); have HB5:=Zh ((hb.alloc hb.size (.cells #[.int .i64 x] 3)).grown hg5 (by simp; omega) (fun q hq=>(World.ownsRow.lt HU.out q hq).1)); clear ho5 hg5 hq5);go_roundw
    case rel=>exact ⟨k + 1,by omega,by go_num,Zh (by rw [HB.out.1]; exact HV5.out),Zh (by rw [HB.out.2]; exact HS.out),HQ5,HB5.out⟩
    case measure=>simp [intOf]; omega
  ·have hkl:l.take k = l:=List.take_of_length_le (by rw [hn.out]; omega)
   rw [hkl] at HV HU;clear hkl;go_wp2;go_ret2;exact ⟨_,_,rfl,HV.out,HU.out,HQ.out,hb⟩
theorem add21_any (A:Option Addr) (c:Nat) (b:List Int) (w:World) (hr:RdN w A b) (hl:b.length <= 9223372036854775807) (hb:∀ x ∈ b,-9223372036854775808 <= x /\ x <= 9223372036854775807) :
  Calls Tryz.prog 113 #[.slice A b.length c] w fun e w'=>e = .returned (.tuple #[.int .i64 (sums 0 b).1,.int .i64 (sums 0 b).2]) /\ w = w':=by
 by_cases h:b = []
 ·subst h
  exact add_nil A c w
 ·obtain ⟨q,off,rfl,_,hc⟩:=hr h
  exact add_any q off b.length c b w rfl hl hc hb
theorem own_lit1 {base:Nat} {w:World} (hb:base <= w.heap.size) (a:Int):OwnN base (w.alloc (.cells #[.int .i64 a] 3)) (.slice (some ⟨w.heap.size,0,none⟩) 1 1) [a] :=
 World.ownsRow_lit w #[.int .i64 a] 1 hb (by unfold maxLen; omega) rfl
set_option maxHeartbeats 1600000 in
theorem legs21_any (A:Option Addr) (c n:Nat) (l:List Int) (w:World) (hn:Hid (l.length = n)) (hr:RdN w A l) :
  Calls Tryz.prog 75 #[.slice A n c] w fun e w'=>∃ v,e = .returned (.tuple #[v,.int .i64 (chkL l)]) /\ OwnN w.heap.size w' v (legsE l) /\ Below w.heap.size w w':=by
 have CK:=check21_any A c n l w hn hr;by_cases h0:chkL l = 0
 ·obtain ⟨hl,hF⟩:=chkL_ok h0
  have HL:=Zh hl;rw [hn.out] at hl;have HE:=Zh (legsE_ok h0);rw [h0] at CK ⊢;have PT:=part21_any A c n l w hn hr Zo;have HR:=Zh hr;have HS:=Zh (sums_bro hF HL.out);have HB:=Zh fun k=>And.intro (legAt_nonneg l k) (legAt_le hF HL.out k)
  have HD:=Zh fun x (hx:x ∈ bro l)=>(by have:=hF x (bro_pos hx).2; unfold Few21 at this; omega:-9223372036854775808 <= x /\ x <= 9223372036854775807)
  have HLB:=Zh (by have h1:=bro_len l; rw [hn.out] at h1; omega:(bro l).length <= 9223372036854775807);obtain ⟨u0,hu0⟩:∃ u0,upL l = u0:=⟨_,rfl⟩;rw [hu0] at HS;have HU:=Zh ((legAt_zero l).trans hu0);clear hr h0 hF hu0;go_enter Tryz.func75,Tryz.ntmps75
  go_wp2_with (first
   | (go_at_call 111; (with_reducible refine CK.mono ?_); rintro e w0 ⟨rfl,rfl⟩)
   | (go_at_call 112; (with_reducible refine PT.mono ?_); rintro e w1 ⟨v,u,rfl,hv,_,_,hb1⟩; have HB1:=Zh hb1; obtain ⟨A5,c5,rfl,hr5⟩:=hv.read; have HR5:=Zh hr5; clear hv hb1 hr5)
   | (go_at_call 113; (with_reducible refine (add21_any A5 c5 (bro l) w1 HR5.out HLB.out HD.out).mono ?_); rintro e w2 ⟨rfl,rfl⟩; rw [HS.out]))
  have hz1:=HB1.out.size;have HA1:=Zh (HB1.out.alloc HB1.out.size (.cells #[.int .i64 u0] 3));go_loopw [7,9,30] (fun y v i wr=>∃ (k:Nat) (a:Int),k <= n /\ i = .int .i64 k /\ y = .int .i64 a /\ Hid (legAt l k = a) /\ Hid (OwnN w.heap.size wr v (legsTo l (k + 1))) /\ Below w.heap.size w wr) (fun _ _ i _=>n - (intOf i).toNat)
  case atStart=>exact ⟨0,u0,Nat.zero_le _,rfl,rfl,HU,Zh (by have e:legsTo l (0 + 1) = [u0]:=(by rw [legsTo_more,HU.out]; rfl); rw [e]; exact own_lit1 hz1 u0),HA1.out⟩
  case round =>
   obtain ⟨k,a,hk,rfl,rfl,HLA,HO,hb⟩:=hrel;obtain ⟨w3,rfl⟩:∃ w3:World,w3 = wr:=⟨_,rfl⟩;have hsz:=hb.size;by_cases hlt:k < n
   ·obtain ⟨b,off,x,rfl,hbb,hc0,hs⟩:=HR.out.getD (k:=k) (by rw [hn.out]; exact hlt)
    rw [<- hb.cell (p:=⟨b,_,none⟩) hbb] at hc0;have HM:=legAt_more l (k:=k) (by rw [hn.out]; exact hlt);rw [HLA.out,hs.out] at HM;have hB:=HB.out (k + 1);rw [HM] at hB;obtain ⟨hb0,hb1⟩:=hB;have hb2:-9223372036854775808 <= a - x:=by omega
    have hb3:a - x <= 9223372036854775807:=by omega
    have HM2:=Zh HM;have HLT:=Zh (legsTo_len l (k + 1));have HMT:=Zh (legsTo_more l (k + 1));clear HM hb0 hb1;go_wp2_with (at_builtin; refine wpList_snoc_int rfl _ _ rfl w.heap.size _ _ rfl (OwnN.alloc HO.out _) w3.heap.size (a - x) rfl (by simp) (by rw [HLT.out]; omega) (by simp; omega) (fun v5 w5 ho5 hg5 hq5=>?_); have HS5:=Zh ho5; have HB5:=Zh ((hb.alloc hb.size (.cells #[.int .i64 (a - x)] 3)).grown hg5 (by simp; omega) (fun q hq=>(World.ownsRow.lt HO.out q hq).1)); clear ho5 hg5 hq5);go_roundw
    case rel=>exact ⟨k + 1,a - x,by omega,by go_num,rfl,HM2,Zh (by rw [HMT.out,HM2.out]; exact HS5.out),HB5.out⟩
    case measure=>simp [intOf]; omega
   ·obtain rfl:k = n:=by omega
    have HQ:Hid (legsTo l (k + 1) = legsE l):=Zh (by rw [HE.out,<- legsTo_all,hn.out]);rw [HQ.out] at HO;go_wp2;go_ret2;exact ⟨_,rfl,HO.out,hb⟩
 ·have HE:=Zh (legsE_no h0)
  obtain ⟨z,hz⟩:∃ z,chkL l = z:=⟨_,rfl⟩;rw [hz] at CK h0 ⊢;have e1:(z == 0) = false:=by simpa using h0
  have e2:(z != 0) = true:=by simpa using h0
  clear hr h0;go_enter Tryz.func75,Tryz.ntmps75
  go_wp2_with (first
   | (go_at_call 111; (with_reducible refine CK.mono ?_); rintro e w0 ⟨rfl,rfl⟩))
  go_ret2;exact ⟨_,rfl,by rw [HE.out]; exact OwnN.nil _ _,Below.refl _ _⟩
theorem peak21_any (A:Option Addr) (c n:Nat) (l:List Int) (w:World) (hn:Hid (l.length = n)) (hr:RdN w A l) :
  Calls Tryz.prog 36 #[.slice A n c] w fun e w'=>e = .returned (.tuple #[.int .i64 (peakE l),.int .i64 (chkL l)]) /\ Below w.heap.size w w':=by
 have LG:=legs21_any A c n l w hn hr;by_cases h0:chkL l = 0
 ·obtain ⟨hl,_⟩:=chkL_ok h0
  rw [hn.out] at hl;have HP:=Zh (peakE_ok h0);have HX:=Zh (peakV_mx l);have HN:Hid ((legsE l).length = n + 1):=Zh (by rw [legsE_ok h0,legsV_len,hn.out]);rw [hn.out,<- legsE_ok h0] at HX;rw [h0] at LG ⊢;generalize legsE l = L at *;clear hr h0;go_enter Tryz.func36,Tryz.ntmps36
  go_wp2_with (first
   | (go_at_call 75; (with_reducible refine LG.mono ?_); rintro e w1 ⟨v,rfl,hv,hb1⟩; have HB1:=Zh hb1; obtain ⟨A5,c5,rfl,hr5⟩:=hv.read; rw [HN.out]; have HR5:=Zh hr5; clear hv hb1 hr5)
   | (go_at_call 76; (with_reducible refine (max21_any A5 c5 (n + 1) L w1 HN HR5.out Zo Zo).mono ?_); rintro e w2 ⟨rfl,rfl⟩; rw [HX.out]))
  go_ret2;rw [HP.out];exact ⟨rfl,HB1.out⟩
 ·have HP:=Zh (peakE_no h0)
  have HE:=Zh (legsE_no h0);obtain ⟨z,hz⟩:∃ z,chkL l = z:=⟨_,rfl⟩;rw [hz] at LG h0 ⊢;have e1:(z == 0) = false:=by simpa using h0
  have e2:(z != 0) = true:=by simpa using h0
  clear hr h0;go_enter Tryz.func36,Tryz.ntmps36
  go_wp2_with (first
   | (go_at_call 75; (with_reducible refine LG.mono ?_); rintro e w1 ⟨v,rfl,hv,hb1⟩; have HB1:=Zh hb1; clear hv hb1))
  go_ret2;rw [HP.out];exact ⟨rfl,HB1.out⟩
theorem fits21_any (room:Int) (A:Option Addr) (c n:Nat) (l:List Int) (w:World) (hn:Hid (l.length = n)) (hr:RdN w A l) :
  Calls Tryz.prog 18 #[.int .i64 room,.slice A n c] w fun e w'=>e = .returned (.bool (fitsE room l)) /\ Below w.heap.size w w':=by
 have PK:=peak21_any A c n l w hn hr;by_cases h0:chkL l = 0
 ·have HF:Hid (fitsE room l = decide (peakE l <= room)):=Zh (by unfold fitsE; rw [peakE_ok h0]; simp [h0])
  rw [h0] at PK;generalize peakE l = p at *;clear hr h0;go_enter Tryz.func18,Tryz.ntmps18
  go_wp2_with (first
   | (go_at_call 36; (with_reducible refine PK.mono ?_); rintro e w1 ⟨rfl,hb1⟩; have HB1:=Zh hb1; clear hb1))
  go_ret;rw [HF.out];exact ⟨rfl,HB1.out⟩
 ·have HF:Hid (fitsE room l = false):=Zh (by unfold fitsE; simp [h0])
  obtain ⟨z,hz⟩:∃ z,chkL l = z:=⟨_,rfl⟩;rw [hz] at PK h0;have e1:(z == 0) = false:=by simpa using h0
  have e2:(z != 0) = true:=by simpa using h0
  generalize peakE l = p at *;clear hr h0;go_enter Tryz.func18,Tryz.ntmps18
  go_wp2_with (first
   | (go_at_call 36; (with_reducible refine PK.mono ?_); rintro e w1 ⟨rfl,hb1⟩; have HB1:=Zh hb1; clear hb1))
  go_ret;rw [HF.out];exact ⟨rfl,HB1.out⟩
theorem RdF.one (w:World) (a b c:Int):RdF (w.alloc (.cells #[.int .i64 a,.int .i64 b,.int .i64 c] 52)) (some ⟨w.heap.size,0,none⟩) [(a,b,c)]:=fun _=>⟨w.heap.size,0,rfl,by simp,fun k hk=>by
 obtain rfl:k = 0:=by simp at hk; exact hk
 simp⟩
set_option maxRecDepth 100000 in
set_option maxHeartbeats 2000000 in
theorem loads22_any (C:Cse) (w:World) (hR:C.Rd w) (hO:C.Ok) (hT:Tl (beg C.l2) C.l2) :
  Calls Tryz.prog 26 #[.agg C.cs] w fun e w'=>∃ A m c,e = .returned (.slice A m c) /\ C.ldF.length = m /\ RdF w' A C.ldF /\ (A = none -> c = 0) /\ Below w.heap.size w w':=by
 have CF:=fun W (h:RdN W C.L C.ns)=>fits21_any C.room C.L C.cl C.nl C.ns W (Zh hO.nl) h
 have hB0:Below w.heap.size w (w.alloc (.cells C.cs 37)):=b_al (Below.refl _ _) Zl _;have hX0:Bx (w.alloc (.cells C.cs 37)) w.heap.size 37 C.cs:=Bx.new (W:=w) _ _ rfl;have X0:=Zh hX0;have B0:=Zh hB0;have k25:=hX0.cell (k:=25) (v:=.slice C.L C.nl C.cl) rfl;have k26:=hX0.cell (k:=26) (v:=.int .i64 C.room) rfl;have HL:=Zh (hR.load.below hB0);have lt0:=hX0.lt
 cases hf:fitsE C.room C.ns with
 | true =>
  have HE:Hid (C.ldF = []):=Zh (by unfold Cse.ldF; rw [hf]; rfl);rw [hf] at CF;clear hR hO hT hf hX0 hB0;go_enter Tryz.func26,Tryz.ntmps26
  go_wp2_with (first
   | (go_at_call 18; (with_reducible refine (CF _ HL.out).mono ?_); rintro e w1 ⟨rfl,hb1⟩))
  go_ret;rw [HE.out];exact ⟨none,0,0,rfl,rfl,RdF.nil _ _,fun _=>rfl,b_cl B0.out Zl hb1⟩
 | false =>
  have HE:Hid (C.ldF = [(15,beg C.l2,beg C.l2 + 1)]):=Zh (by unfold Cse.ldF; rw [hf]; rfl);rw [hf] at CF;by_cases h0:C.n2 = 0
  ·have e0:C.l2 = []:=List.eq_nil_of_length_eq_zero (by rw [hO.n2]; exact h0)
   have HB:Hid (beg C.l2 = 0):=Zh (by rw [e0]; rfl);have k20:∀ W,Bx W w.heap.size 37 C.cs -> W.cell? ⟨w.heap.size,20,none⟩ = some (.slice C.A2 0 C.c2):=fun W h=>by rw [h.cell (k:=20) (v:=.slice C.A2 C.n2 C.c2) rfl,h0]
   clear hR hO hT hf hX0 hB0 h0 e0;go_enter Tryz.func26,Tryz.ntmps26
   go_wp2_with (first
    | (go_at_call 18; (with_reducible refine (CF _ HL.out).mono ?_); rintro e w1 ⟨rfl,hb1⟩; have q20:=k20 _ (X0.out.below hb1); have B1:=Zh (b_cl B0.out Zl hb1); clear hb1))
   go_ret;rw [HE.out,HB.out];exact ⟨_,1,1,rfl,rfl,RdF.one _ _ _ _,(fun h=>by cases h),B1.out.alloc B1.out.size _⟩
  ·obtain ⟨b,off,q,y,z,hA,hbb,hc0,hc1,hc2,hs⟩:=hR.plan.at_ (k:=0) (by rw [hO.n2]; omega)
   have HB:Hid (beg C.l2 = y):=Zh (beg_at16 (by rw [hO.n2]; omega) (by rw [hs.out]))
   have hy:0 <= y /\ y <= 40320:=by
    have:=hT.bd;rw [HB.out] at this;omega
   have k20:∀ W,Bx W w.heap.size 37 C.cs -> W.cell? ⟨w.heap.size,20,none⟩ = some (.slice (some ⟨b,off,none⟩) C.n2 C.c2):=fun W h=>by rw [h.cell (k:=20) (v:=.slice C.A2 C.n2 C.c2) rfl,hA]
   have p0:0 < C.n2:=by omega
   rw [Nat.zero_mul,Nat.add_zero] at hc1;clear hR hO hT hf hX0 h0 hA hs hc0 hc2;go_enter Tryz.func26,Tryz.ntmps26
   go_wp2_with (first
    | (go_at_call 18; (with_reducible refine (CF _ HL.out).mono ?_); rintro e w1 ⟨rfl,hb1⟩; have q20:=k20 _ (X0.out.below hb1); have B1:=Zh (b_cl B0.out Zl hb1); have lb1:b < w1.heap.size:=Nat.lt_of_lt_of_le hbb B1.out.size; have q1:=(B1.out.cell (p:=⟨b,off + 1,none⟩) hbb).trans hc1; clear hb1))
   go_ret;rw [HE.out,HB.out];exact ⟨_,1,1,rfl,rfl,RdF.one _ _ _ _,(fun h=>by cases h),B1.out.alloc B1.out.size _⟩
set_option maxHeartbeats 2000000 in
theorem together22_any (A:Option Addr) (c N:Nat) (vs:List Value) (P:List (List Rc)) (w:World) (hr:RdLr w A vs) (hs:SlrF w vs P) (hN:P.length = N) (hN2:N <= 1000) (ht:P.flatten.length <= 10000) :
  Calls Tryz.prog 25 #[.slice A N c] w fun e w'=>∃ A' m c' r,e = .returned (.slice A' m c') /\ r.length = m /\ SetF r P.flatten /\ RdF w' A' r /\ (A' = none -> c' = 0) /\ Below w.heap.size w w':=by
 have CC:=concatF_any A c N vs P w hr hs hN hN2 Zo;obtain ⟨f,hf⟩:∃ f,P.flatten = f:=⟨_,rfl⟩;rw [hf] at CC ht ⊢;obtain ⟨m,hm⟩:∃ m,f.length = m:=⟨_,rfl⟩;have HM:=Zh hm;rw [hm] at ht;clear hf hr hs hN hN2 hm;go_enter Tryz.func25,Tryz.ntmps25
 go_wp2_with (first
  | (go_at_call 54; (with_reducible refine CC.mono ?_); rintro e w1 ⟨v,rfl,ho,hb1⟩; obtain ⟨A1,c1,rfl,hr1,hz1⟩:=ho.read; rw [HM.out]; have HR1:=Zh hr1; have HZ1:=Zh hz1; have B1:=Zh hb1; clear ho hr1 hz1 hb1)
  | (go_at_call 48; (with_reducible refine (sort15_any A1 c1 m f w1 HM.out HR1.out HZ1.out ht).mono ?_); rintro e w2 ⟨A2,m2,c2,r2,rfl,hm2,hs2,hr2,hz2,hb2⟩))
 go_ret;exact ⟨A2,m2,c2,r2,rfl,hm2,hs2,hr2,hz2,b_cl B1.out Zl hb2⟩
set_option maxRecDepth 20000 in
set_option maxHeartbeats 2000000 in
theorem rightE19_any (A:Option Addr) (n c:Nat) (l:List Tk) (hn:l.length = n) (i x y:Int) (w:World) (h:RdK w A l) (hf:Few l) (hx:-9223372036854775808 <= x /\ x <= 9223372036854775807) (hy:-9223372036854775808 <= y /\ y <= 9223372036854775807) :
  Calls Tryz.prog 40 #[.slice A n c,.agg #[.int .i64 i,.int .i64 x,.int .i64 y]] w fun e w'=>e = .returned (.bool (decide (spotV l (i,x,y) = 0))) /\ Below w.heap.size w w':=by
 have CS:=fun W (h:RdK W A l)=>spot19_any A n c l hn i x y W h hf hx hy
 have HK:=Zh h;obtain ⟨e0,he⟩:∃ e0,spotV l (i,x,y) = e0:=⟨_,rfl⟩;rw [he] at CS ⊢;clear he h hf hn hx hy;by_cases c0:e0 = 0
 ·subst c0
  go_enter Tryz.func40,Tryz.ntmps40;go_wp2_with (go_at_call 81; refine (CS _ (HK.out.below Zq)).mono ?_; rintro e w1 ⟨rfl,hb1⟩);go_ret;exact ⟨rfl,Zq⟩
 ·rw [decide_eq_false c0]
  have hne:(e0 == 0) = false:=by simp [c0]
  clear c0;go_enter Tryz.func40,Tryz.ntmps40;go_wp2_with (go_at_call 81; refine (CS _ (HK.out.below Zq)).mono ?_; rintro e w1 ⟨rfl,hb1⟩);go_ret;exact ⟨rfl,Zq⟩
end Go.Proofs.YtiamnbddbmgffaaGreatDoor
