/- Texts of the proofs of VerdictAudits, VerdictAll, VerdictRising, pressed: ErrandChk, ErrandFits, ErrandSpot, ErrandLeftC, ErrandBrk, ErrandDrive. Conditions: as each theorem says. -/
import Derived.Test.YtiamnbddbmgffaaGreatDoorRows
import Derived.Test.YtiamnbddbmgffaaGreatDoorP26
import Derived.Test.YtiamnbddbmgffaaGreatDoorP25
namespace Go.Proofs.YtiamnbddbmgffaaGreatDoor
open Go.RowKit
set_option linter.unusedVariables false
set_option maxRecDepth 20000 in
set_option maxHeartbeats 2000000 in
theorem check19_any (A:Option Addr) (n c:Nat) (l:List Tk) (hn:l.length = n) (w:World) (h:RdK w A l) (hf:Few l) :
  Calls Tryz.prog 39 #[.slice A n c] w fun e w'=>e = .returned (.int .i64 (checkT l)) /\ Below w.heap.size w w':=by
 by_cases hm:2001 < n
 case pos =>
  rw [checkt_many Zo];have hm':(2001:Int) < (n:Int):=by omega
  clear h hf;go_enter Tryz.func39,Tryz.ntmps39;go_wp2;go_ret;exact ⟨rfl,Zq⟩
 have hm':(n:Int) <= 2001:=by omega
 obtain ⟨V,hV⟩:∃ V,checkT l = V:=⟨_,rfl⟩;have HV:=Zh hV;rw [hV];clear hV;have HN:=Zh hn;go_enter Tryz.func39,Tryz.ntmps39;go_wp2;go_loopw [11] (fun i wr=>∃ k:Nat,k <= n /\ i = .int .i64 k /\ Below w.heap.size w wr /\ Hid (∀ j,j < k -> taskV (l.getD j tz) = 0)) (fun i _=>n - (intOf i).toNat)
 case atStart=>exact ⟨0,Nat.zero_le _,rfl,Below.refl _ _,Zh (fun j hj=>by omega)⟩
 case round =>
  obtain ⟨k,hk,rfl,hb,hA⟩:=hrel;obtain ⟨w2,rfl⟩:∃ w2:World,w2 = wr:=⟨_,rfl⟩;have hsz:=hb.size;by_cases hlt:k < n
  ·obtain ⟨b,off,d,v,B,q,u,rfl,hbb,h0,h1,h2,hs⟩:=(h.below hb).at_ (k:=k) Zo
   obtain ⟨o,ho,hq,hr⟩:=hs.out;have hol:=hf.at_ Zo ho;have CT:=fun W (h:RdS W B o)=>task19_any d v B q u o hq W h Zo
   obtain ⟨x,hx⟩:∃ x,taskV (d,v,o) = x:=⟨_,rfl⟩;rw [hx] at CT;have HX:=Zh (show taskV (l.getD k tz) = x by rw [ho,hx]);have HR:=Zh hr;clear hs ho hq hr hol hx hn;by_cases h0x:x = 0
   ·subst h0x
    go_wp2_with (go_at_call 80; refine (CT _ (HR.out.below Zq)).mono ?_; rintro e w3 ⟨rfl,hb3⟩);go_roundw
    case rel=>exact ⟨k + 1,by omega,by go_num,Zq,Zh (fun j hj=>by
     by_cases e:j = k
     ·subst e; exact HX.out
     ·exact hA.out j Zo)⟩
    case measure=>simp [intOf]; omega
   ·have hne:(x != 0) = true:=by simp [h0x]
    have HE:=Zh (checkt_at (l:=l) (k:=k) (by have:=HN.out; omega) (by have:=HN.out; omega) hA.out HX.out h0x);go_wp2_with (go_at_call 80; refine (CT _ (HR.out.below Zq)).mono ?_; rintro e w3 ⟨rfl,hb3⟩);go_ret;refine ⟨?_,Zq⟩;rw [<- HV.out,HE.out]; rfl
  ·have HE:=Zh (checkt_none (l:=l) Zo (fun j hj=>hA.out j Zo))
   go_wp2;go_ret;refine ⟨?_,hb⟩;rw [<- HV.out,HE.out]; rfl
set_option maxRecDepth 20000 in
set_option maxHeartbeats 2000000 in
theorem refcheck19_any (A:Option Addr) (n c:Nat) (l:List Tk) (hn:l.length = n) (w:World) (h:RdK w A l) (hf:Few l) :
  Calls Tryz.prog 56 #[.slice A n c] w fun e w'=>e = .returned (.int .i64 (checkT l)) /\ Below w.heap.size w w':=by
 by_cases hm:2001 < n
 case pos =>
  rw [checkt_many Zo];have hm':(2001:Int) < (n:Int):=by omega
  clear h hf;go_enter Tryz.func56,Tryz.ntmps56;go_wp2;go_ret;exact ⟨rfl,Zq⟩
 have hm':(n:Int) <= 2001:=by omega
 obtain ⟨V,hV⟩:∃ V,checkT l = V:=⟨_,rfl⟩;have HV:=Zh hV;rw [hV];clear hV;have HN:=Zh hn;go_enter Tryz.func56,Tryz.ntmps56;go_wp2;go_loopw [3] (fun i wr=>∃ k:Nat,k <= n /\ i = .int .i64 k /\ Below w.heap.size w wr /\ Hid (∀ j,j < k -> taskV (l.getD j tz) = 0)) (fun i _=>n - (intOf i).toNat)
 case atStart=>exact ⟨0,Nat.zero_le _,rfl,Below.refl _ _,Zh (fun j hj=>by omega)⟩
 case round =>
  obtain ⟨k,hk,rfl,hb,hA⟩:=hrel;obtain ⟨w2,rfl⟩:∃ w2:World,w2 = wr:=⟨_,rfl⟩;have hsz:=hb.size;by_cases hlt:k < n
  ·obtain ⟨b,off,d,v,B,q,u,rfl,hbb,h0,h1,h2,hs⟩:=(h.below hb).at_ (k:=k) Zo
   obtain ⟨o,ho,hq,hr⟩:=hs.out;have hol:=hf.at_ Zo ho;have HO:=Zh ho;have HQ:=Zh hq;have HR:=Zh hr;have CW:=fun W (h:RdS W B o)=>refcheck18_any B u o W h Zo
   rw [hq] at CW;clear hs ho hq hr hol hn;by_cases c0:d < 0
   case pos =>
    clear CW;have HE:=Zh (checkt_at (l:=l) (k:=k) (by have:=HN.out; omega) (by have:=HN.out; omega) hA.out (show taskV (l.getD k tz) = 4 by rw [HO.out]; exact task_low Zo) (by first | decide | assumption));go_wp2;go_ret;refine ⟨?_,Zq⟩;rw [<- HV.out,HE.out]; rfl
   have m0:0 <= d:=by omega
   clear c0;by_cases c1:10080 < d
   case pos =>
    clear CW;have HE:=Zh (checkt_at (l:=l) (k:=k) (by have:=HN.out; omega) (by have:=HN.out; omega) hA.out (show taskV (l.getD k tz) = 4 by rw [HO.out]; exact task_low Zo) (by first | decide | assumption));go_wp2;go_ret;refine ⟨?_,Zq⟩;rw [<- HV.out,HE.out]; rfl
   have m1:d <= 10080:=by omega
   clear c1;by_cases c2:v < 0
   case pos =>
    clear CW;have HE:=Zh (checkt_at (l:=l) (k:=k) (by have:=HN.out; omega) (by have:=HN.out; omega) hA.out (show taskV (l.getD k tz) = 4 by rw [HO.out]; exact task_low Zo) (by first | decide | assumption));go_wp2;go_ret;refine ⟨?_,Zq⟩;rw [<- HV.out,HE.out]; rfl
   have m2:0 <= v:=by omega
   clear c2;by_cases c3:1440 < v
   case pos =>
    clear CW;have HE:=Zh (checkt_at (l:=l) (k:=k) (by have:=HN.out; omega) (by have:=HN.out; omega) hA.out (show taskV (l.getD k tz) = 4 by rw [HO.out]; exact task_low Zo) (by first | decide | assumption));go_wp2;go_ret;refine ⟨?_,Zq⟩;rw [<- HV.out,HE.out]; rfl
   have m3:v <= 1440:=by omega
   clear c3;by_cases c4:0 < v
   ·obtain ⟨x,hx⟩:∃ x,checkW o = x:=⟨_,rfl⟩
    rw [hx] at CW;have HX:=Zh (show taskV (l.getD k tz) = x by rw [HO.out,task_win Zo c4,hx]);clear hx;by_cases h0x:x = 0
    ·subst h0x
     go_wp2_with (go_at_call 98; refine (CW _ (HR.out.below Zq)).mono ?_; rintro e w3 ⟨rfl,hb3⟩);go_roundw
     case rel=>exact ⟨k + 1,by omega,by go_num,Zq,Zh (fun j hj=>by
      by_cases e:j = k
      ·subst e; exact HX.out
      ·exact hA.out j Zo)⟩
     case measure=>simp [intOf]; omega
    ·have hne:(x != 0) = true:=by simp [h0x]
     have HE:=Zh (checkt_at (l:=l) (k:=k) (by have:=HN.out; omega) (by have:=HN.out; omega) hA.out (show taskV (l.getD k tz) = x by exact HX.out) (by first | decide | assumption));go_wp2_with (go_at_call 98; refine (CW _ (HR.out.below Zq)).mono ?_; rintro e w3 ⟨rfl,hb3⟩);go_ret;refine ⟨?_,Zq⟩;rw [<- HV.out,HE.out]; rfl
   ·have m4:v <= 0:=by omega
    clear CW;by_cases c5:0 < q
    ·have c6:(0:Int) < (q:Int):=by omega
     have HE:=Zh (checkt_at (l:=l) (k:=k) (by have:=HN.out; omega) (by have:=HN.out; omega) hA.out (show taskV (l.getD k tz) = 1 by rw [HO.out]; exact task_arg Zo c4 (by have:=HQ.out; omega)) (by first | decide | assumption));clear c4;go_wp2;go_ret;refine ⟨?_,Zq⟩;rw [<- HV.out,HE.out]; rfl
    ·have c6:(q:Int) <= 0:=by omega
     have HX:=Zh (show taskV (l.getD k tz) = 0 by rw [HO.out]; exact task_ok Zo c4 (by have:=HQ.out; omega));clear c4;go_wp2;go_roundw
     case rel=>exact ⟨k + 1,by omega,by go_num,Zq,Zh (fun j hj=>by
      by_cases e:j = k
      ·subst e; exact HX.out
      ·exact hA.out j Zo)⟩
     case measure=>simp [intOf]; omega
  ·have HE:=Zh (checkt_none (l:=l) Zo (fun j hj=>hA.out j Zo))
   go_wp2;go_ret;refine ⟨?_,hb⟩;rw [<- HV.out,HE.out]; rfl
theorem fits_lo {l:List Tk} {i x y:Int} (h:i < 0):¬ Fits l (i,x,y):=fun c=>by have:=c.1; simp only at this; omega
theorem fits_hi {l:List Tk} {i x y:Int} (h:(l.length:Int) < i):¬ Fits l (i,x,y):=fun c=>by have:=c.2.1; simp only at this; omega
theorem fits_end {l:List Tk} {i x y:Int} (h:i = (l.length:Int)):Fits l (i,x,y) ↔ x = 0 /\ y = 0:=by
 subst h;exact ⟨fun c=>c.2.2.1 rfl,fun c=>⟨by simp,by simp,fun _=>c,fun k=>by simp at k⟩⟩
theorem fits_in {l:List Tk} {k:Nat} {x y d v:Int} (h:k < l.length) (hd:(tk l k).1 = d) (hv:(tk l k).2.1 = v):Fits l (k,x,y) ↔ (0 <= x /\ x <= d /\ 0 <= y /\ y <= v /\ (y = 0 ∨ x = d) /\ ¬ (x = d /\ y = v)):=by
 subst hd hv;exact ⟨fun c=>c.2.2.2 (by simp only; omega),fun c=>⟨by simp,by simp only; omega,fun k=>by simp only at k; omega,fun _=>c⟩⟩
set_option maxRecDepth 20000 in
set_option maxHeartbeats 2000000 in
theorem right19_any (A:Option Addr) (n c:Nat) (l:List Tk) (hn:l.length = n) (i x y:Int) (w:World) (h:RdK w A l) (ok:∀ t ∈ l,TkOk t) (hx:-9223372036854775808 <= x /\ x <= 9223372036854775807) (hy:-9223372036854775808 <= y /\ y <= 9223372036854775807) :
  Calls Tryz.prog 115 #[.slice A n c,.agg #[.int .i64 i,.int .i64 x,.int .i64 y]] w fun e w'=>e = .returned (.bool (decide (Fits l (i,x,y)))) /\ Below w.heap.size w w':=by
 by_cases c0:i < 0
 case pos =>
  rw [decide_eq_false (show ¬ Fits l _ from fits_lo c0)];have e0:(i == (n:Int)) = false:=by simp; omega
  clear h ok hn;go_enter Tryz.func115,Tryz.ntmps115;go_wp2;go_ret;exact ⟨rfl,Zq⟩
 have m0:0 <= i:=by omega
 clear c0;by_cases c1:(n:Int) <= i
 case pos =>
  by_cases c2:i = (n:Int)
  ·have FE:=fits_end (l:=l) (i:=i) (x:=x) (y:=y) (by rw [hn]; exact c2)
   have e0:(i == (n:Int)) = true:=by simp [c2]
   by_cases c3:x = 0
   ·have e1:(x == 0) = true:=by simp [c3]
    by_cases c4:y = 0
    ·have e2:(y == 0) = true:=by simp [c4]
     rw [decide_eq_true (show Fits l _ from (FE.2 ⟨c3,c4⟩))];clear FE c2 c3 c4;clear h ok hn;go_enter Tryz.func115,Tryz.ntmps115;go_wp2;go_ret;exact ⟨rfl,Zq⟩
    ·have e2:(y == 0) = false:=by simp [c4]
     rw [decide_eq_false (show ¬ Fits l _ from (fun k=>c4 (FE.1 k).2))];clear FE c2 c3 c4;clear h ok hn;go_enter Tryz.func115,Tryz.ntmps115;go_wp2;go_ret;exact ⟨rfl,Zq⟩
   ·have e1:(x == 0) = false:=by simp [c3]
    rw [decide_eq_false (show ¬ Fits l _ from (fun k=>c3 (FE.1 k).1))];clear FE c2 c3;clear h ok hn;go_enter Tryz.func115,Tryz.ntmps115;go_wp2;go_ret;exact ⟨rfl,Zq⟩
  ·rw [decide_eq_false (show ¬ Fits l _ from fits_hi Zo)]
   have e0:(i == (n:Int)) = false:=by simp [c2]
   clear c2;clear h ok hn;go_enter Tryz.func115,Tryz.ntmps115;go_wp2;go_ret;exact ⟨rfl,Zq⟩
 have m1:i < (n:Int):=by omega
 clear c1;obtain ⟨k,rfl⟩:∃ k:Nat,i = k:=⟨i.toNat,by omega⟩;have hk:k < n:=by omega
 have tok:TkOk (tk l k):=ok _ (tk_mem Zo Zo);obtain ⟨d,hd⟩:∃ d,(tk l k).1 = d:=⟨_,rfl⟩;obtain ⟨v,hv⟩:∃ v,(tk l k).2.1 = v:=⟨_,rfl⟩;have FI:=fits_in (l:=l) (k:=k) (x:=x) (y:=y) Zo hd hv;have CL:=fun W (h:RdK W A l)=>left19_in A n c l hn k x y W h hk
 rw [hd,hv] at CL;obtain ⟨z1,z2,z3,z4⟩:=tok;rw [hd] at z1 z2;rw [hv] at z3 z4;clear hd hv m0 ok;have HR:=Zh h;by_cases c2:x < 0
 case pos =>
  rw [decide_eq_false (show ¬ Fits l _ from (fun k=>by have:=FI.1 k; omega))];generalize wrap64 (d - x) = p at CL;generalize wrap64 (v - y) = q at CL;clear FI;clear h;go_enter Tryz.func115,Tryz.ntmps115;go_wp2_with (go_at_call 141; refine (CL _ (HR.out.below Zq)).mono ?_; rintro e w1 ⟨rfl,hb1⟩; obtain ⟨hc1,hf1⟩:=bcell hb1; have hz1:=hb1.size; (try simp at hz1); have:w.heap.size < w1.heap.size:=Zo);go_ret;exact ⟨rfl,Zq⟩
 have m2:0 <= x:=by omega
 clear c2;by_cases c3:y < 0
 case pos =>
  rw [decide_eq_false (show ¬ Fits l _ from (fun k=>by have:=FI.1 k; omega))];generalize wrap64 (d - x) = p at CL;generalize wrap64 (v - y) = q at CL;clear FI;clear h;go_enter Tryz.func115,Tryz.ntmps115;go_wp2_with (go_at_call 141; refine (CL _ (HR.out.below Zq)).mono ?_; rintro e w1 ⟨rfl,hb1⟩; obtain ⟨hc1,hf1⟩:=bcell hb1; have hz1:=hb1.size; (try simp at hz1); have:w.heap.size < w1.heap.size:=Zo);go_ret;exact ⟨rfl,Zq⟩
 have m3:0 <= y:=by omega
 clear c3;rw [IntWalk.wrap64_in _ Zo,IntWalk.wrap64_in _ Zo] at CL;obtain ⟨p,hp⟩:∃ p,d - x = p:=⟨_,rfl⟩;obtain ⟨q,hq⟩:∃ q,v - y = q:=⟨_,rfl⟩;rw [hp,hq] at CL;by_cases c4:0 < p
 case pos =>
  by_cases c5:y = 0
  ·have e1:(y == 0) = true:=by simp [c5]
   rw [decide_eq_true (show Fits l _ from (FI.2 Zo))];clear FI c5 hp hq;clear h;go_enter Tryz.func115,Tryz.ntmps115;go_wp2_with (go_at_call 141; refine (CL _ (HR.out.below Zq)).mono ?_; rintro e w1 ⟨rfl,hb1⟩; obtain ⟨hc1,hf1⟩:=bcell hb1; have hz1:=hb1.size; (try simp at hz1); have:w.heap.size < w1.heap.size:=Zo);go_ret;exact ⟨rfl,Zq⟩
  ·have e1:(y == 0) = false:=by simp [c5]
   rw [decide_eq_false (show ¬ Fits l _ from (fun k=>by have:=FI.1 k; omega))];clear FI c5 hp hq;clear h;go_enter Tryz.func115,Tryz.ntmps115;go_wp2_with (go_at_call 141; refine (CL _ (HR.out.below Zq)).mono ?_; rintro e w1 ⟨rfl,hb1⟩; obtain ⟨hc1,hf1⟩:=bcell hb1; have hz1:=hb1.size; (try simp at hz1); have:w.heap.size < w1.heap.size:=Zo);go_ret;exact ⟨rfl,Zq⟩
 have m4:p <= 0:=by omega
 clear c4;by_cases c5:p = 0
 case neg =>
  have e1:(p == 0) = false:=by simp [c5]
  rw [decide_eq_false (show ¬ Fits l _ from (fun k=>by have:=FI.1 k; omega))];clear FI c5 hp hq;clear h;go_enter Tryz.func115,Tryz.ntmps115;go_wp2_with (go_at_call 141; refine (CL _ (HR.out.below Zq)).mono ?_; rintro e w1 ⟨rfl,hb1⟩; obtain ⟨hc1,hf1⟩:=bcell hb1; have hz1:=hb1.size; (try simp at hz1); have:w.heap.size < w1.heap.size:=Zo);go_ret;exact ⟨rfl,Zq⟩
 have e1:(p == 0) = true:=by simp [c5]
 by_cases c6:0 < q
 case pos =>
  rw [decide_eq_true (show Fits l _ from (FI.2 Zo))];have e2:decide (0 < q) = true:=decide_eq_true c6;clear FI c5 hp hq;clear h;go_enter Tryz.func115,Tryz.ntmps115;go_wp2_with (go_at_call 141; refine (CL _ (HR.out.below Zq)).mono ?_; rintro e w1 ⟨rfl,hb1⟩; obtain ⟨hc1,hf1⟩:=bcell hb1; have hz1:=hb1.size; (try simp at hz1); have:w.heap.size < w1.heap.size:=Zo);go_ret;exact ⟨rfl,Zq⟩
 rw [decide_eq_false (show ¬ Fits l _ from (fun k=>by have:=FI.1 k; omega))];have e2:decide (0 < q) = false:=decide_eq_false c6;clear FI c5 hp hq;clear h;go_enter Tryz.func115,Tryz.ntmps115;go_wp2_with (go_at_call 141; refine (CL _ (HR.out.below Zq)).mono ?_; rintro e w1 ⟨rfl,hb1⟩; obtain ⟨hc1,hf1⟩:=bcell hb1; have hz1:=hb1.size; (try simp at hz1); have:w.heap.size < w1.heap.size:=Zo);go_ret;exact ⟨rfl,Zq⟩
set_option maxRecDepth 20000 in
set_option maxHeartbeats 2000000 in
theorem spot19_any (A:Option Addr) (n c:Nat) (l:List Tk) (hn:l.length = n) (i x y:Int) (w:World) (h:RdK w A l) (hf:Few l) (hx:-9223372036854775808 <= x /\ x <= 9223372036854775807) (hy:-9223372036854775808 <= y /\ y <= 9223372036854775807) :
  Calls Tryz.prog 81 #[.slice A n c,.agg #[.int .i64 i,.int .i64 x,.int .i64 y]] w fun e w'=>e = .returned (.int .i64 (spotV l (i,x,y))) /\ Below w.heap.size w w':=by
 have CC:=fun W (h:RdK W A l)=>check19_any A n c l hn W h hf
 have HK:=Zh h;by_cases c0:checkT l = 0
 ·rw [c0] at CC
  have CR:=fun W (h:RdK W A l)=>right19_any A n c l hn i x y W h (checkt_zero c0).1 hx hy
  obtain ⟨g,hg⟩:∃ g,decide (Fits l (i,x,y)) = g:=⟨_,rfl⟩;rw [hg] at CR
  have HV:=Zh (show spotV l (i,x,y) = if g = true then 0 else 1 by
   cases g with
   | true=>rw [spot_yes c0 (of_decide_eq_true hg)]; rfl
   | false=>rw [spot_no c0 (of_decide_eq_false hg)]; rfl)
  clear hg c0 h hf hx hy hn;rw [HV.out]
  cases g with
  | true =>
   go_enter Tryz.func81,Tryz.ntmps81;go_wp2_with (first | (go_at_call 39; refine (CC _ (HK.out.below Zq)).mono ?_; rintro e w1 ⟨rfl,hb1⟩; obtain ⟨hc1,hf1⟩:=bcell hb1; have hz1:=hb1.size; (try simp at hz1); have:w.heap.size < w1.heap.size:=Zo) | (go_at_call 115; refine (CR _ (HK.out.below Zq)).mono ?_; rintro e w2 ⟨rfl,hb2⟩));go_ret;exact ⟨rfl,Zq⟩
  | false =>
   go_enter Tryz.func81,Tryz.ntmps81;go_wp2_with (first | (go_at_call 39; refine (CC _ (HK.out.below Zq)).mono ?_; rintro e w1 ⟨rfl,hb1⟩; obtain ⟨hc1,hf1⟩:=bcell hb1; have hz1:=hb1.size; (try simp at hz1); have:w.heap.size < w1.heap.size:=Zo) | (go_at_call 115; refine (CR _ (HK.out.below Zq)).mono ?_; rintro e w2 ⟨rfl,hb2⟩));go_ret;exact ⟨rfl,Zq⟩
 ·obtain ⟨e0,he⟩:∃ e0,checkT l = e0:=⟨_,rfl⟩
  rw [he] at CC c0;rw [spot_bad he c0];have hne:(e0 != 0) = true:=by simp [c0]
  clear he c0 h hf hx hy hn;go_enter Tryz.func81,Tryz.ntmps81;go_wp2_with (go_at_call 39; refine (CC _ (HK.out.below Zq)).mono ?_; rintro e w1 ⟨rfl,hb1⟩; obtain ⟨hc1,hf1⟩:=bcell hb1; have hz1:=hb1.size; (try simp at hz1); have:w.heap.size < w1.heap.size:=Zo);go_ret;exact ⟨rfl,Zq⟩
set_option maxRecDepth 20000 in
set_option maxHeartbeats 2000000 in
theorem reffits19_any (A:Option Addr) (n c:Nat) (l:List Tk) (hn:l.length = n) (i x y:Int) (w:World) (h:RdK w A l) :
  Calls Tryz.prog 57 #[.slice A n c,.agg #[.int .i64 i,.int .i64 x,.int .i64 y]] w fun e w'=>e = .returned (.bool (decide (Fits l (i,x,y)))) /\ Below w.heap.size w w':=by
 by_cases c0:i < 0
 case pos =>
  rw [decide_eq_false (show ¬ Fits l _ from fits_lo c0)];clear h hn;go_enter Tryz.func57,Tryz.ntmps57;go_wp2;go_ret;exact ⟨rfl,Zq⟩
 have m0:0 <= i:=by omega
 clear c0;by_cases c1:(n:Int) < i
 case pos =>
  rw [decide_eq_false (show ¬ Fits l _ from fits_hi Zo)];clear h hn;go_enter Tryz.func57,Tryz.ntmps57;go_wp2;go_ret;exact ⟨rfl,Zq⟩
 have m1:i <= (n:Int):=by omega
 clear c1;by_cases c2:i = (n:Int)
 case pos =>
  have FE:=fits_end (l:=l) (i:=i) (x:=x) (y:=y) (by rw [hn]; exact c2);have e0:(i == (n:Int)) = true:=by simp [c2]
  by_cases c3:x = 0
  ·have e1:(x == 0) = true:=by simp [c3]
   by_cases c4:y = 0
   ·have e2:(y == 0) = true:=by simp [c4]
    rw [decide_eq_true (show Fits l _ from (FE.2 ⟨c3,c4⟩))];clear FE c2 c3 c4;clear h hn;go_enter Tryz.func57,Tryz.ntmps57;go_wp2;go_ret;exact ⟨rfl,Zq⟩
   ·have e2:(y == 0) = false:=by simp [c4]
    rw [decide_eq_false (show ¬ Fits l _ from (fun k=>c4 (FE.1 k).2))];clear FE c2 c3 c4;clear h hn;go_enter Tryz.func57,Tryz.ntmps57;go_wp2;go_ret;exact ⟨rfl,Zq⟩
  ·have e1:(x == 0) = false:=by simp [c3]
   rw [decide_eq_false (show ¬ Fits l _ from (fun k=>c3 (FE.1 k).1))];clear FE c2 c3;clear h hn;go_enter Tryz.func57,Tryz.ntmps57;go_wp2;go_ret;exact ⟨rfl,Zq⟩
 obtain ⟨k,rfl⟩:∃ k:Nat,i = k:=⟨i.toNat,by omega⟩;have hk:k < n:=by omega
 have e0:((k:Int) == (n:Int)) = false:=by simp; omega
 obtain ⟨b,off,d,v,B,m,q,rfl,hb,h0,h1,h2,hs⟩:=h.at_ (k:=k) Zo;obtain ⟨o,ho,_,_⟩:=hs.out;have hd:(tk l k).1 = d:=by rw [show tk l (k:Int) = (d,v,o) from ho]
 have hv:(tk l k).2.1 = v:=by rw [show tk l (k:Int) = (d,v,o) from ho]
 have FI:=fits_in (l:=l) (k:=k) (x:=x) (y:=y) Zo hd hv;clear hd hv ho hs c2;by_cases q0:x < 0
 case pos =>
  rw [decide_eq_false (show ¬ Fits l _ from (fun k=>by have:=FI.1 k; omega))];clear FI;clear h hn;go_enter Tryz.func57,Tryz.ntmps57;go_wp2;go_ret;exact ⟨rfl,Zq⟩
 have n0:0 <= x:=by omega
 clear q0;by_cases q1:d < x
 case pos =>
  rw [decide_eq_false (show ¬ Fits l _ from (fun k=>by have:=FI.1 k; omega))];clear FI;clear h hn;go_enter Tryz.func57,Tryz.ntmps57;go_wp2;go_ret;exact ⟨rfl,Zq⟩
 have n1:x <= d:=by omega
 clear q1;by_cases q2:y < 0
 case pos =>
  rw [decide_eq_false (show ¬ Fits l _ from (fun k=>by have:=FI.1 k; omega))];clear FI;clear h hn;go_enter Tryz.func57,Tryz.ntmps57;go_wp2;go_ret;exact ⟨rfl,Zq⟩
 have n2:0 <= y:=by omega
 clear q2;by_cases q3:v < y
 case pos =>
  rw [decide_eq_false (show ¬ Fits l _ from (fun k=>by have:=FI.1 k; omega))];clear FI;clear h hn;go_enter Tryz.func57,Tryz.ntmps57;go_wp2;go_ret;exact ⟨rfl,Zq⟩
 have n3:y <= v:=by omega
 clear q3;by_cases q5:x = d
 ·have e5:(x == d) = true:=by simp [q5]
  by_cases q6:y = v
  ·have e6:(y == v) = true:=by simp [q6]
   by_cases q4:y = 0
   ·have e4:(y == 0) = true:=by simp [q4]
    rw [decide_eq_false (show ¬ Fits l _ from (fun k=>by have:=FI.1 k; omega))];clear FI
    try clear q4
    try clear q5
    try clear q6
    clear h hn;go_enter Tryz.func57,Tryz.ntmps57;go_wp2;go_ret;exact ⟨rfl,Zq⟩
   ·have e4:(y == 0) = false:=by simp [q4]
    rw [decide_eq_false (show ¬ Fits l _ from (fun k=>by have:=FI.1 k; omega))];clear FI
    try clear q4
    try clear q5
    try clear q6
    clear h hn;go_enter Tryz.func57,Tryz.ntmps57;go_wp2;go_ret;exact ⟨rfl,Zq⟩
  ·have e6:(y == v) = false:=by simp [q6]
   by_cases q4:y = 0
   ·have e4:(y == 0) = true:=by simp [q4]
    rw [decide_eq_true (show Fits l _ from (FI.2 Zo))];clear FI
    try clear q4
    try clear q5
    try clear q6
    clear h hn;go_enter Tryz.func57,Tryz.ntmps57;go_wp2;go_ret;exact ⟨rfl,Zq⟩
   ·have e4:(y == 0) = false:=by simp [q4]
    rw [decide_eq_true (show Fits l _ from (FI.2 Zo))];clear FI
    try clear q4
    try clear q5
    try clear q6
    clear h hn;go_enter Tryz.func57,Tryz.ntmps57;go_wp2;go_ret;exact ⟨rfl,Zq⟩
 ·have e5:(x == d) = false:=by simp [q5]
  by_cases q4:y = 0
  ·have e4:(y == 0) = true:=by simp [q4]
   rw [decide_eq_true (show Fits l _ from (FI.2 Zo))];clear FI
   try clear q4
   try clear q5
   try clear q6
   clear h hn;go_enter Tryz.func57,Tryz.ntmps57;go_wp2;go_ret;exact ⟨rfl,Zq⟩
  ·have e4:(y == 0) = false:=by simp [q4]
   rw [decide_eq_false (show ¬ Fits l _ from (fun k=>by have:=FI.1 k; omega))];clear FI
   try clear q4
   try clear q5
   try clear q6
   clear h hn;go_enter Tryz.func57,Tryz.ntmps57;go_wp2;go_ret;exact ⟨rfl,Zq⟩
set_option maxRecDepth 20000 in
set_option maxHeartbeats 2000000 in
theorem refpast19_any (A:Option Addr) (n c:Nat) (l:List Tk) (hn:l.length = n) (i x y:Int) (w:World) (h:RdK w A l) (hl:n <= 4611686018427387904) (ok:∀ t ∈ l,TkOk t) (hs:Near l (i,x,y)) :
  Calls Tryz.prog 106 #[.slice A n c,.agg #[.int .i64 i,.int .i64 x,.int .i64 y]] w fun e w'=>e = .returned (.agg (sp3 (pastT l (i,x,y)))) /\ Below w.heap.size w w':=by
 obtain ⟨P,hP⟩:∃ P,pastT l (i,x,y) = P:=⟨_,rfl⟩;rw [hP];have OK:=Zh ok;have HN:=Zh hn;have h0:0 <= i:=hs.1;have h1:i <= n:=by have:=hs.2.1; rw [hn] at this; exact this
 obtain ⟨k,rfl⟩:∃ k:Nat,i = k:=⟨i.toNat,by omega⟩;have HS:=Zh hs;have HP:=Zh hP;have HK:=Zh h;clear h0 hs hP ok h hn;have X1:Bx ((w.alloc (.cells #[.int .i64 k,.int .i64 x,.int .i64 y] 27)).alloc (.cells #[.int .i64 0,.int .i64 0,.int .i64 0] 27)) w.heap.size 27 #[.int .i64 k,.int .i64 x,.int .i64 y]:=(Bx.new (W:=w) _ _ rfl).alloc _;have X2:Bx ((w.alloc (.cells #[.int .i64 k,.int .i64 x,.int .i64 y] 27)).alloc (.cells #[.int .i64 0,.int .i64 0,.int .i64 0] 27)) (w.heap.size + 1) 27 #[.int .i64 0,.int .i64 0,.int .i64 0]:=Bx.new (W:=w.alloc (.cells #[.int .i64 k,.int .i64 x,.int .i64 y] 27)) _ _ (by simp);have HX1:=Zh X1;have HX2:=Zh X2;clear X1 X2;go_enter Tryz.func106,Tryz.ntmps106;go_wp2;go_loopg [5] (n - k) (fun g s5 wr=>∃ (k:Nat) (x y:Int),k + g = n /\ Hid (Near l (k,x,y)) /\ Hid (pastT l (k,x,y) = P) /\ Bx wr w.heap.size 27 #[.int .i64 k,.int .i64 x,.int .i64 y] /\ Bx wr (w.heap.size + 1) 27 #[.int .i64 0,.int .i64 0,.int .i64 0] /\ Below w.heap.size w wr)
 case atStart=>exact ⟨k,x,y,by omega,HS,HP,HX1.out,HX2.out,Zq⟩
 case round =>
  clear HS HP HX1 HX2 h1;obtain ⟨k,x,y,hg,HS,HP,B1,B2,hb⟩:=hrel;have hsz:=hb.size;have p0:=B1.cell (k:=0) rfl;have p1:=B1.cell (k:=1) rfl;have p2:=B1.cell (k:=2) rfl;have lt1:=B1.lt;have lt2:=B2.lt;by_cases hk:k < n
  ·obtain ⟨b,off,d,v,B,m,q,rfl,hbb,r0,r1,r2,hs⟩:=(HK.out.below hb).at_ (k:=k) (by rw [HN.out]; exact hk)
   obtain ⟨o,ho,_,_⟩:=hs.out
   have HF:=Zh (show Full l (k,x,y) ↔ x = d /\ y = v by
    have:=HN.out;unfold Full; dsimp only;rw [show tk l (k:Int) = (d,v,o) from ho]
    exact ⟨fun c=>c.2,fun c=>⟨by omega,c⟩⟩)
   have d0:decide ((k:Int) < (n:Int)) = true:=decide_eq_true Zo;clear hs ho r2;by_cases hx:x = d
   ·have e1:(x == d) = true:=by simp [hx]
    by_cases hy:y = v
    ·have e2:(y == v) = true:=by simp [hy]
     have NS:=Zh (HS.out.move OK.out (HF.out.2 ⟨hx,hy⟩));have NP:=Zh ((pastT_move (HF.out.2 ⟨hx,hy⟩)).symm.trans HP.out);clear HF HS HP hx hy;go_wp2;go_quiet (fail);have D1:=B1.drewN (n:=nq);have D2:=B2.drewN (n:=nq);go_wp2_with (refine wpList_store_box rfl 27 _ _ rfl (w.heap.size) #[.int .i64 ((k:Int) + 1),.int .i64 0,.int .i64 0] rfl rfl 27 _ (D1) size_spot rfl (one3 _ _ _) (fun w4 u4=>?_));go_roundg (n - (k + 1))
     case measure=>omega
     case rel=>exact ⟨k + 1,0,0,by omega,NS,NP,u4.box,u4.bx D2 Zo,(b_dn hb).trans (u4.bel _ Zl)⟩
    ·have e2:(y == v) = false:=by simp [hy]
     have NP:=Zh ((pastT_still (fun c=>hy (HF.out.1 c).2)).symm.trans HP.out);clear HF HS HP hx hy;go_wp2;go_quiet (fail);have D1:=B1.drewN (n:=nq);have D2:=B2.drewN (n:=nq);clear p0 p1 p2
     go_wp2_with (first
      | refine wpList_load_box Zv 27 _ rfl (w.heap.size) rfl 27 #[.int .i64 k,.int .i64 x,.int .i64 y] _ (D1) Tryz.underlying27 rfl size_spot ?_
      | (refine wpList_store_box rfl 27 _ _ rfl (w.heap.size + 1) #[.int .i64 k,.int .i64 x,.int .i64 y] rfl rfl 27 _ (D2) size_spot rfl (one3 _ _ _) (fun w4 u4=>?_)))
     refine bodyPost_ret (v:=.agg #[.int .i64 k,.int .i64 x,.int .i64 y]) (results_box1 Tryz.results106 _ _ (w.heap.size + 1) 27 #[.int .i64 k,.int .i64 x,.int .i64 y] _ rfl u4.box Tryz.underlying27 rfl size_spot) rfl ⟨?_,?_⟩
     ·rw [<- NP.out]; rfl
     ·exact (b_dn hb).trans (u4.bel _ Zo)
   ·have e1:(x == d) = false:=by simp [hx]
    have NP:=Zh ((pastT_still (fun c=>hx (HF.out.1 c).1)).symm.trans HP.out);clear HF HS HP hx;go_wp2;go_quiet (fail);have D1:=B1.drewN (n:=nq);have D2:=B2.drewN (n:=nq);clear p0 p1 p2
    go_wp2_with (first
     | refine wpList_load_box Zv 27 _ rfl (w.heap.size) rfl 27 #[.int .i64 k,.int .i64 x,.int .i64 y] _ (D1) Tryz.underlying27 rfl size_spot ?_
     | (refine wpList_store_box rfl 27 _ _ rfl (w.heap.size + 1) #[.int .i64 k,.int .i64 x,.int .i64 y] rfl rfl 27 _ (D2) size_spot rfl (one3 _ _ _) (fun w4 u4=>?_)))
    refine bodyPost_ret (v:=.agg #[.int .i64 k,.int .i64 x,.int .i64 y]) (results_box1 Tryz.results106 _ _ (w.heap.size + 1) 27 #[.int .i64 k,.int .i64 x,.int .i64 y] _ rfl u4.box Tryz.underlying27 rfl size_spot) rfl ⟨?_,?_⟩
    ·rw [<- NP.out]; rfl
    ·exact (b_dn hb).trans (u4.bel _ Zo)
  ·obtain rfl:k = n:=by omega
   have NP:=Zh ((pastT_still (fun c:Full l (k,x,y)=>by have:=c.1; have:=HN.out; simp only at *; omega)).symm.trans HP.out);have d0:decide ((k:Int) < (k:Int)) = false:=decide_eq_false Zo;clear HS HP;go_wp2;go_quiet (fail);have D1:=B1.drewN (n:=nq);have D2:=B2.drewN (n:=nq);clear p0 p1 p2
   go_wp2_with (first
    | refine wpList_load_box Zv 27 _ rfl (w.heap.size) rfl 27 #[.int .i64 k,.int .i64 x,.int .i64 y] _ (D1) Tryz.underlying27 rfl size_spot ?_
    | (refine wpList_store_box rfl 27 _ _ rfl (w.heap.size + 1) #[.int .i64 k,.int .i64 x,.int .i64 y] rfl rfl 27 _ (D2) size_spot rfl (one3 _ _ _) (fun w4 u4=>?_)))
   refine bodyPost_ret (v:=.agg #[.int .i64 k,.int .i64 x,.int .i64 y]) (results_box1 Tryz.results106 _ _ (w.heap.size + 1) 27 #[.int .i64 k,.int .i64 x,.int .i64 y] _ rfl u4.box Tryz.underlying27 rfl size_spot) rfl ⟨?_,?_⟩
   ·rw [<- NP.out]; rfl
   ·exact (b_dn hb).trans (u4.bel _ Zo)
theorem sum_take {l:List Tk} {j:Nat} (hj:j < l.length):sumD (l.take (j + 1)) = sumD (l.take j) + (l.getD j tz).1 /\ sumS (l.take (j + 1)) = sumS (l.take j) + (l.getD j tz).2.1:=by
 have e:l.take (j + 1) = l.take j ++ [l.getD j tz]:=by
  rw [List.take_add_one,List.getElem?_eq_getElem hj,List.getD_eq_getElem?_getD,List.getElem?_eq_getElem hj]; rfl
 rw [e];unfold sumD sumS;simp
theorem sum_top {l:List Tk} (ok:∀ t ∈ l,TkOk t):0 <= sumD l /\ sumD l <= 10080 * (l.length:Int) /\ 0 <= sumS l /\ sumS l <= 1440 * (l.length:Int):=by
 induction l with
 | nil=>simp [sumD,sumS]
 | cons t l ih =>
  have h1:=ok t (List.mem_cons_self ..);have h2:=ih fun u hu=>ok u (List.mem_cons_of_mem _ hu)
  unfold sumD sumS at *;simp only [List.map_cons,List.sum_cons,List.length_cons];unfold TkOk at h1;omega
theorem sum_part {l:List Tk} (ok:∀ t ∈ l,TkOk t) (hl:l.length <= 2001) (k j:Nat):0 <= sumD ((l.drop k).take j) /\ sumD ((l.drop k).take j) <= 20170080 /\ 0 <= sumS ((l.drop k).take j) /\ sumS ((l.drop k).take j) <= 2881440:=by
 have h:=sum_top (l:=(l.drop k).take j) fun u hu=>ok u (List.mem_of_mem_drop (List.mem_of_mem_take hu))
 have hz:((l.drop k).take j).length <= 2001:=by rw [List.length_take,List.length_drop]; omega
 omega
def leftV (l:List Tk) (s:Pt):Int × Int × Int:=if spotV l s = 0 then ((leftT l s).1,(leftT l s).2,0) else (0,0,spotV l s)
theorem leftv_bad {l:List Tk} {s:Pt} {e:Int} (h:spotV l s = e) (hne:e ≠ 0):leftV l s = (0,0,e):=by unfold leftV; rw [h,if_neg hne]
theorem leftv_ok {l:List Tk} {s:Pt} (h:spotV l s = 0):leftV l s = ((leftT l s).1,(leftT l s).2,0):=by unfold leftV; rw [if_pos h]
theorem left_sum {l:List Tk} {k j n:Nat} {x y:Int} (hn:l.length = n) (hj:n - k <= j):leftT l ((k:Int),x,y) = (-x + sumD ((l.drop k).take j),-y + sumS ((l.drop k).take j)):=by
 rw [List.take_of_length_le (by rw [List.length_drop]; omega)];unfold leftT;simp only [Int.toNat_natCast];ext <;> simp only <;> omega
theorem drop_at19 {l:List Tk} {k j:Nat}:(l.drop k).getD j tz = l.getD (k + j) tz:=by rw [List.getD_eq_getElem?_getD,List.getD_eq_getElem?_getD,List.getElem?_drop]
theorem fits_cells {l:List Tk} (ok:∀ t ∈ l,TkOk t) {i x y:Int} (h:Fits l (i,x,y)):0 <= i /\ i <= l.length /\ 0 <= x /\ x <= 10080 /\ 0 <= y /\ y <= 1440:=by
 obtain ⟨h1,h2,h3,h4⟩:=h;simp only at h1 h2 h3 h4;by_cases he:i = l.length
 ·have:=h3 he; omega
 ·have hlt:i < l.length:=by omega
  have a:=h4 hlt;have b:=ok _ (tk_mem h1 hlt);unfold TkOk at b;omega
set_option maxRecDepth 20000 in
set_option maxHeartbeats 2000000 in
theorem leftL19_any (A:Option Addr) (n c:Nat) (l:List Tk) (hn:l.length = n) (i x y:Int) (w:World) (h:RdK w A l) (hf:Few l) (hcn:n <= c) (hz:A = none -> c = 0) (hx:-9223372036854775808 <= x /\ x <= 9223372036854775807) (hy:-9223372036854775808 <= y /\ y <= 9223372036854775807) :
  Calls Tryz.prog 93 #[.slice A n c,.agg #[.int .i64 i,.int .i64 x,.int .i64 y]] w fun e w'=>e = .returned (.tuple #[.int .i64 (leftV l (i,x,y)).1,.int .i64 (leftV l (i,x,y)).2.1,.int .i64 (leftV l (i,x,y)).2.2]) /\ Below w.heap.size w w':=by
 have CS:=fun W (h:RdK W A l)=>spot19_any A n c l hn i x y W h hf hx hy
 have HK:=Zh h;clear hx hy;by_cases c0:spotV l (i,x,y) = 0
 case neg =>
  obtain ⟨e0,he⟩:∃ e0,spotV l (i,x,y) = e0:=⟨_,rfl⟩;rw [he] at CS c0;rw [leftv_bad he c0];have hne:(e0 != 0) = true:=by simp [c0]
  clear he c0 h hf hn hz;go_enter Tryz.func93,Tryz.ntmps93;go_wp2_with (go_at_call 81; refine (CS _ (HK.out.below Zq)).mono ?_; rintro e w1 ⟨rfl,hb1⟩; have bx1:=(Bx.new (W:=w) 27 #[.int .i64 i,.int .i64 x,.int .i64 y] rfl).below hb1; have p0:=bx1.cell (k:=0) rfl; have p1:=bx1.cell (k:=1) rfl; have p2:=bx1.cell (k:=2) rfl; have hz1:=hb1.size; (try simp at hz1));go_ret3;exact ⟨rfl,Zq⟩
 rw [c0] at CS;rw [leftv_ok c0];obtain ⟨ck,fit⟩:=spot_zero c0;obtain ⟨ok,hl⟩:=checkt_zero ck;obtain ⟨i0,i1,x0,x1,y0,y1⟩:=fits_cells ok fit;rw [hn] at i1;obtain ⟨k,rfl⟩:∃ k:Nat,i = k:=⟨i.toNat,by omega⟩;have SP:=Zh (fun j=>sum_part ok hl k j)
 have ST:=Zh (fun j (hj:k + j < n)=>(by
  have:=sum_take (l:=l.drop k) (j:=j) (by rw [List.length_drop]; omega);rw [drop_at19] at this
  exact this:sumD ((l.drop k).take (j + 1)) = sumD ((l.drop k).take j) + (l.getD (k + j) tz).1 /\ sumS ((l.drop k).take (j + 1)) = sumS ((l.drop k).take j) + (l.getD (k + j) tz).2.1))
 have SE:=Zh (fun j (hj:n - k <= j)=>left_sum (x:=x) (y:=y) hn hj);have OK:=Zh ok;have HN:=Zh hn;have hl2:n <= 2001:=by omega
 have nx:IntKind.i64.wrap (-x) = -x:=IntWalk.i64_in _ ⟨by omega,by omega⟩;have ny:IntKind.i64.wrap (-y) = -y:=IntWalk.i64_in _ ⟨by omega,by omega⟩;clear c0 ck fit hl ok hf i0 hn;have k0:(0:Int) <= (k:Int):=by omega
 by_cases hk:k < n
 case neg =>
  obtain rfl:k = n:=by omega
  have HE:=Zh (SE.out 0 Zo);have E1:(leftT l (((k:Nat):Int),x,y)).1 = -x:=by rw [HE.out]; simp [sumD]
  have E2:(leftT l (((k:Nat):Int),x,y)).2 = -y:=by rw [HE.out]; simp [sumS]
  rw [E1,E2];clear E1 E2 SP ST SE;have lp:¬ ((0:Int) < ((k:Int) - (k:Int))):=by omega
  have z0:(k:Int) - (k:Int) = 0:=by omega
  have fin:∀ c:Nat,(k:Int) <= (c:Int) -> (A = none -> c = k) -> (c = k ∨ ¬ c = k):=fun c _ _=>by omega
  clear h
  rcases Nat.lt_or_ge k c with h1 | h1
  ·have hne:¬ c = k:=by omega
   have c1:(k:Int) <= (c:Int):=by omega
   go_enter Tryz.func93,Tryz.ntmps93;go_upto_region 4 with (go_at_call 81; refine (CS _ (HK.out.below Zq)).mono ?_; rintro e w1 ⟨rfl,hb1⟩; have bx1:=(Bx.new (W:=w) 27 #[.int .i64 (k:Int),.int .i64 x,.int .i64 y] rfl).below hb1; have p0:=bx1.cell (k:=0) rfl; have p1:=bx1.cell (k:=1) rfl; have p2:=bx1.cell (k:=2) rfl; have hz1:=hb1.size; (try simp at hz1))
   go_quiet (fail);have p0':(w1.drewN nq).cell? ⟨w.heap.size,0,none⟩ = some (.int .i64 (k:Int)):=p0;clear p0 p1 p2;go_wp2;refine wp_loop_rounds 1 ?_;rw [rounds_succ];go_wp2;go_ret3;exact ⟨rfl,Zq⟩
  ·obtain rfl:k = c:=by omega
   go_enter Tryz.func93,Tryz.ntmps93;go_upto_region 4 with (go_at_call 81; refine (CS _ (HK.out.below Zq)).mono ?_; rintro e w1 ⟨rfl,hb1⟩; have bx1:=(Bx.new (W:=w) 27 #[.int .i64 (k:Int),.int .i64 x,.int .i64 y] rfl).below hb1; have p0:=bx1.cell (k:=0) rfl; have p1:=bx1.cell (k:=1) rfl; have p2:=bx1.cell (k:=2) rfl; have hz1:=hb1.size; (try simp at hz1))
   go_quiet (fail);have p0':(w1.drewN nq).cell? ⟨w.heap.size,0,none⟩ = some (.int .i64 (k:Int)):=p0;clear p0 p1 p2;go_wp2;refine wp_loop_rounds 1 ?_;rw [rounds_succ];go_wp2;go_ret3;exact ⟨rfl,Zq⟩
 obtain ⟨b,off,rfl,hbb,_⟩:=h (by intro e; subst e; have:=HN.out; simp at this; omega);have hne:¬ c = k:=by omega
 have k1:(k:Int) <= (n:Int):=by omega
 have c1:(n:Int) <= (c:Int):=by omega
 have hnk:(n:Int) - (k:Int) = ((n - k:Nat):Int):=by omega
 clear h;go_enter Tryz.func93,Tryz.ntmps93;go_upto_region 4 with (go_at_call 81; refine (CS _ (HK.out.below Zq)).mono ?_; rintro e w1 ⟨rfl,hb1⟩; have bx1:=(Bx.new (W:=w) 27 #[.int .i64 (k:Int),.int .i64 x,.int .i64 y] rfl).below hb1; have p0:=bx1.cell (k:=0) rfl; have p1:=bx1.cell (k:=1) rfl; have p2:=bx1.cell (k:=2) rfl; have hz1:=hb1.size; (try simp at hz1))
 go_quiet (fail);have p0':(w1.drewN nq).cell? ⟨w.heap.size,0,none⟩ = some (.int .i64 (k:Int)):=p0;clear p0 p1 p2;go_wp2;obtain ⟨m,hm⟩:∃ m,n - k = m:=⟨_,rfl⟩;rw [hm] at SE;rw [hm];have HB1:=Zh (show Below w.heap.size w (w1.drewN nq) from Zq);go_loopw [8,9,29] (fun s8 s9 s29 wr=>∃ (j:Nat) (D V:Int),j <= m /\ s29 = .int .i64 j /\ s8 = .int .i64 D /\ s9 = .int .i64 V /\ Below w.heap.size w wr /\ -10080 <= D /\ D <= 20170080 /\ -1440 <= V /\ V <= 2881440 /\ Hid (D = -x + sumD ((l.drop k).take j) /\ V = -y + sumS ((l.drop k).take j))) (fun _ _ s29 _=>m - (intOf s29).toNat)
 case atStart=>exact ⟨0,-x,-y,Nat.zero_le _,rfl,rfl,rfl,HB1.out,by omega,by omega,by omega,by omega,Zh (by simp [sumD,sumS])⟩
 case round =>
  obtain ⟨j,D,V,hj,rfl,rfl,rfl,hb,D0,D1,V0,V1,HD⟩:=hrel;have hsz:=hb.size;by_cases hlt:j < m
  ·obtain ⟨b',off',d,v,B,q,u,hA,hbb',h0,h1,h2,hs⟩:=(HK.out.below hb).at_ (k:=k + j) (by rw [HN.out]; omega)
   simp only [Option.some.injEq,Addr.mk.injEq,and_true] at hA;obtain ⟨rfl,rfl⟩:=hA;obtain ⟨o,ho,_,_⟩:=hs.out;have e:off + (k + j) * 3 = off + k * 3 + j * 3:=by omega
   rw [e] at h0 h1 h2;have tok:TkOk (l.getD (k + j) tz):=OK.out _ (tk_mem (i:=((k + j:Nat):Int)) Zo (by rw [HN.out]; omega));rw [ho] at tok;obtain ⟨d0,d1,v0,v1⟩:=tok;simp only at d0 d1 v0 v1;have st:=ST.out j Zo;rw [ho] at st;have sp:=SP.out (j + 1)
   have HD2:=Zh (show D + d = -x + sumD ((l.drop k).take (j + 1)) /\ V + v = -y + sumS ((l.drop k).take (j + 1)) by
    have:=HD.out;simp only at st
    constructor <;> omega)
   have b1:-10080 <= D + d /\ D + d <= 20170080 /\ -1440 <= V + v /\ V + v <= 2881440:=by
    have:=HD2.out; omega
   obtain ⟨b1,b2,b3,b4⟩:=b1;clear hs ho st sp e;go_wp2;go_roundw
   case rel=>exact ⟨j + 1,D + d,V + v,by omega,by go_num,rfl,rfl,Zq,b1,b2,b3,b4,HD2⟩
   case measure=>simp [intOf]; omega
  ·have HE:=Zh (SE.out j Zo)
   have E1:(leftT l ((k:Int),x,y)).1 = D:=by rw [HE.out,HD.out.1]
   have E2:(leftT l ((k:Int),x,y)).2 = V:=by rw [HE.out,HD.out.2]
   have HE2:=Zh (⟨E1,E2⟩:(leftT l ((k:Int),x,y)).1 = D /\ (leftT l ((k:Int),x,y)).2 = V);clear E1 E2 HE HD;go_wp2;go_ret3;refine ⟨?_,hb⟩;rw [HE2.out.1,HE2.out.2]; rfl
def wk (A:Option Addr) (n c:Nat) (s:Pt) (f0 f1 f2 f3:Int):Array Value :=
 #[.slice A n c,.int .i64 s.1,.int .i64 s.2.1,.int .i64 s.2.2,.int .i64 f0,.int .i64 f1,.int .i64 f2,.int .i64 f3]
theorem note_yes {f m:Int} (h:f < 0):noteF f true m = m:=if_pos ⟨rfl,h⟩
set_option maxRecDepth 20000 in
set_option maxHeartbeats 2000000 in
theorem breaks19_0 (g:Nat) (A:Option Addr) (n c:Nat) (s:Pt) (f0 f1 f2 f3 m:Int) (w:World) (hB:Bx w g 215 (wk A n c s f0 f1 f2 f3)) :
  Calls Tryz.prog 163 #[.pointer (some ⟨g,0,none⟩),.int .i64 10,.int .i64 m] w fun e w'=>e = .returned (.tuple #[]) /\ Upd w g 215 (wk A n c s (noteF f0 true m) f1 f2 f3) w':=by
 have p:w.cell? ⟨g,4,none⟩ = some (.int .i64 f0):=hB.cell (k:=4) rfl;have hlt:=hB.lt;by_cases h:f0 < 0
 ·rw [note_yes h]
  go_enter Tryz.func163,Tryz.ntmps163;go_wp2_with (refine wpList_store_fld Zv 3 _ _ rfl g 4 (.int .i64 m) rfl rfl rfl 215 (wk A n c s f0 f1 f2 f3) hB (show 4 < 8 by decide) Zk (fun w1 u=>?_));refine bodyPost_end (results_none Tryz.results163 _ _ _) rfl ⟨rfl,u⟩
 ·have h':0 <= f0:=by omega
  rw [note_old h'];clear h;go_enter Tryz.func163,Tryz.ntmps163;go_wp2;refine bodyPost_end (results_none Tryz.results163 _ _ _) rfl ⟨rfl,Upd.same hB⟩
set_option maxRecDepth 20000 in
set_option maxHeartbeats 2000000 in
theorem breaks19_1 (g:Nat) (A:Option Addr) (n c:Nat) (s:Pt) (f0 f1 f2 f3 m:Int) (w:World) (hB:Bx w g 215 (wk A n c s f0 f1 f2 f3)) :
  Calls Tryz.prog 163 #[.pointer (some ⟨g,0,none⟩),.int .i64 11,.int .i64 m] w fun e w'=>e = .returned (.tuple #[]) /\ Upd w g 215 (wk A n c s f0 (noteF f1 true m) f2 f3) w':=by
 have p:w.cell? ⟨g,5,none⟩ = some (.int .i64 f1):=hB.cell (k:=5) rfl;have hlt:=hB.lt;by_cases h:f1 < 0
 ·rw [note_yes h]
  go_enter Tryz.func163,Tryz.ntmps163;go_wp2_with (refine wpList_store_fld Zv 3 _ _ rfl g 5 (.int .i64 m) rfl rfl rfl 215 (wk A n c s f0 f1 f2 f3) hB (show 5 < 8 by decide) Zk (fun w1 u=>?_));refine bodyPost_end (results_none Tryz.results163 _ _ _) rfl ⟨rfl,u⟩
 ·have h':0 <= f1:=by omega
  rw [note_old h'];clear h;go_enter Tryz.func163,Tryz.ntmps163;go_wp2;refine bodyPost_end (results_none Tryz.results163 _ _ _) rfl ⟨rfl,Upd.same hB⟩
set_option maxRecDepth 20000 in
set_option maxHeartbeats 2000000 in
theorem breaks19_2 (g:Nat) (A:Option Addr) (n c:Nat) (s:Pt) (f0 f1 f2 f3 m:Int) (w:World) (hB:Bx w g 215 (wk A n c s f0 f1 f2 f3)) :
  Calls Tryz.prog 163 #[.pointer (some ⟨g,0,none⟩),.int .i64 12,.int .i64 m] w fun e w'=>e = .returned (.tuple #[]) /\ Upd w g 215 (wk A n c s f0 f1 (noteF f2 true m) f3) w':=by
 have p:w.cell? ⟨g,6,none⟩ = some (.int .i64 f2):=hB.cell (k:=6) rfl;have hlt:=hB.lt;by_cases h:f2 < 0
 ·rw [note_yes h]
  go_enter Tryz.func163,Tryz.ntmps163;go_wp2_with (refine wpList_store_fld Zv 3 _ _ rfl g 6 (.int .i64 m) rfl rfl rfl 215 (wk A n c s f0 f1 f2 f3) hB (show 6 < 8 by decide) Zk (fun w1 u=>?_));refine bodyPost_end (results_none Tryz.results163 _ _ _) rfl ⟨rfl,u⟩
 ·have h':0 <= f2:=by omega
  rw [note_old h'];clear h;go_enter Tryz.func163,Tryz.ntmps163;go_wp2;refine bodyPost_end (results_none Tryz.results163 _ _ _) rfl ⟨rfl,Upd.same hB⟩
set_option maxRecDepth 20000 in
set_option maxHeartbeats 2000000 in
theorem breaks19_3 (g:Nat) (A:Option Addr) (n c:Nat) (s:Pt) (f0 f1 f2 f3 m:Int) (w:World) (hB:Bx w g 215 (wk A n c s f0 f1 f2 f3)) :
  Calls Tryz.prog 163 #[.pointer (some ⟨g,0,none⟩),.int .i64 13,.int .i64 m] w fun e w'=>e = .returned (.tuple #[]) /\ Upd w g 215 (wk A n c s f0 f1 f2 (noteF f3 true m)) w':=by
 have p:w.cell? ⟨g,7,none⟩ = some (.int .i64 f3):=hB.cell (k:=7) rfl;have hlt:=hB.lt;by_cases h:f3 < 0
 ·rw [note_yes h]
  go_enter Tryz.func163,Tryz.ntmps163;go_wp2_with (refine wpList_store_fld Zv 3 _ _ rfl g 7 (.int .i64 m) rfl rfl rfl 215 (wk A n c s f0 f1 f2 f3) hB (show 7 < 8 by decide) Zk (fun w1 u=>?_));refine bodyPost_end (results_none Tryz.results163 _ _ _) rfl ⟨rfl,u⟩
 ·have h':0 <= f3:=by omega
  rw [note_old h'];clear h;go_enter Tryz.func163,Tryz.ntmps163;go_wp2;refine bodyPost_end (results_none Tryz.results163 _ _ _) rfl ⟨rfl,Upd.same hB⟩
def wkS (A:Option Addr) (n c:Nat) (st:Pt × Fs):Array Value:=wk A n c st.1 st.2.1 st.2.2.1 st.2.2.2.1 st.2.2.2.2
set_option maxRecDepth 20000 in
set_option maxHeartbeats 2000000 in
theorem drive19_any (n0 g:Nat) (A:Option Addr) (n c:Nat) (l:List Tk) (hn:l.length = n) (s:Pt) (f0 f1 f2 f3 a b:Int) (w:World) (hB:Bx w g 215 (wk A n c s f0 f1 f2 f3)) (hK:RdKn n0 w A l) (hg:n0 <= g) (hl:n <= 2001)
  (ok:∀ t ∈ l,TkOk t) (fit:Fits l s) (ha:0 <= a) (hab:a <= b) (hb:b <= 40320) (h3:0 < s.2.2 -> 0 <= f3) :
  Calls Tryz.prog 164 #[.pointer (some ⟨g,0,none⟩),.int .i64 a,.int .i64 b] w fun e w'=>e = .returned (.tuple #[]) /\ Chg w g 215 (wkS A n c (runK l 3 (b - a).toNat a (s,f0,f1,f2,f3))) w':=by
 obtain ⟨V,hV⟩:∃ V,runK l 3 (b - a).toNat a (s,f0,f1,f2,f3) = V:=⟨_,rfl⟩;rw [hV];have HV:=Zh hV;have HN:=Zh hn;have OK:=Zh ok;have HK:=Zh hK;have HFT:=Zh fit;have HB:=Zh (Chg.refl hB);have H3:=Zh h3;have hlt:=hB.lt;have hn0:n0 <= w.heap.size:=by omega
 clear hV hn ok hK fit hB h3;go_enter Tryz.func164,Tryz.ntmps164;go_wp2;go_loopw [1] (fun s1 wr=>∃ (m:Int) (t:Pt),s1 = .int .i64 m /\ a <= m /\ m <= b /\ Hid (runK l 3 (m - a).toNat a (s,f0,f1,f2,f3) = (t,f0,f1,f2,f3)) /\ Hid (Fits l t) /\ Hid (0 < t.2.2 -> 0 <= f3) /\ Chg w g 215 (wk A n c t f0 f1 f2 f3) wr) (fun s1 _=>(b - intOf s1).toNat)
 case atStart=>exact ⟨a,s,rfl,by omega,by omega,Zh (by rw [Int.sub_self]; rfl),HFT,H3,HB.out⟩
 case round =>
  clear HFT HB H3;obtain ⟨m,⟨i,x,y⟩,rfl,m0,m1,HR,FT,H3,C⟩:=hrel;have hsz:=C.size;have B1:=C.box;have HK1:=Zh (HK.out.below (C.bel n0 hg hn0));have q0:∀ p:BelowOf wr,p.world.cell? ⟨g,0,none⟩ = some (.slice A n c):=fun p=>p.cell (B1.cell (k:=0) rfl)
  have q1:∀ p:BelowOf wr,p.world.cell? ⟨g,1,none⟩ = some (.int .i64 i):=fun p=>p.cell (B1.cell (k:=1) rfl)
  have q2:∀ p:BelowOf wr,p.world.cell? ⟨g,2,none⟩ = some (.int .i64 x):=fun p=>p.cell (B1.cell (k:=2) rfl)
  have q3:∀ p:BelowOf wr,p.world.cell? ⟨g,3,none⟩ = some (.int .i64 y):=fun p=>p.cell (B1.cell (k:=3) rfl)
  have hglt:=B1.lt;by_cases hm:m < b
  case neg =>
   obtain rfl:m = b:=by omega
   have HE:=Zh (HV.out.symm.trans HR.out);clear q0 q1 q2 q3;go_wp2;refine bodyPost_end (results_none Tryz.results164 _ _ _) rfl ⟨rfl,?_⟩;rw [HE.out]; exact C
  obtain ⟨r,hr⟩:∃ r:Nat,b - m = (r:Int) + 1:=⟨(b - m - 1).toNat,by omega⟩
  have HR2:=Zh (show runK l 3 (r + 1) m ((i,x,y),f0,f1,f2,f3) = V by
   rw [<- HV.out,<- HR.out,show (b - a).toNat = (m - a).toNat + (r + 1) by omega,runK_add l _ (m - a).toNat (r + 1) a,show a + ((m - a).toNat:Int) = m by omega])
  by_cases hi:i = (n:Int)
  case pos =>
   have HE:=Zh (HR2.out.symm.trans (runK_nodrive FT.out (fun c=>by have:=c.1; have:=HN.out; simp only at *; omega) H3.out Zo r));have CL:=fun W=>left19_end A n c i x y W hi
   clear hi;go_wp2;refine wp_region_bel Zk Zk ?_
   repeat (go_big_quiet_step ((go_at_call 141; (with_reducible exact Calls.bel_of (CL _)))))
   refine wpQuiet_nil ?_;refine bel_all fun wq hbq=>?_
   clear q0 q1 q2 q3;have Bq:=Zh (C.below hbq);go_wp2_with (go_at_call 163; refine (breaks19_0 g A n c (i,x,y) f0 f1 f2 f3 m _ Bq.out.box).mono ?_; rintro e w4 ⟨rfl,u4⟩);refine bodyPost_ret (results_none Tryz.results164 _ _ _) rfl ⟨rfl,?_⟩;rw [HE.out]; exact Bq.out.upd u4
  obtain ⟨i0,i1,_,_⟩:=FT.out;simp only at i0 i1;rw [HN.out] at i1;obtain ⟨k,rfl⟩:∃ k:Nat,i = k:=⟨i.toNat,by omega⟩;have hk:k < n:=by omega
  obtain ⟨tok,t1,t2,t3,t4⟩:=near_task OK.out FT.out.near (by rw [HN.out]; exact hk);have CL:=fun W (h:RdK W A l)=>left19_in A n c l HN.out k x y W h hk
  obtain ⟨d,hd⟩:∃ d,(tk l k).1 = d:=⟨_,rfl⟩;obtain ⟨v,hv⟩:∃ v,(tk l k).2.1 = v:=⟨_,rfl⟩;have z1:=tok.1;have z2:=tok.2.1;have z3:=tok.2.2.1;have z4:=tok.2.2.2;rw [hd] at z1 z2 t2 CL;rw [hv] at z3 z4 t4 CL;rw [IntWalk.wrap64_in _ Zo,IntWalk.wrap64_in _ Zo] at CL;obtain ⟨p,hp⟩:∃ p,d - x = p:=⟨_,rfl⟩;obtain ⟨q,hq⟩:∃ q,v - y = q:=⟨_,rfl⟩;rw [hp,hq] at CL;have CLp:∀ P:BelowOf wr,Calls Tryz.prog 141 #[.slice A n c,.agg #[.int .i64 (k:Int),.int .i64 x,.int .i64 y]] P.world fun e w'=>e = .returned (.tuple #[.int .i64 p,.int .i64 q]) /\ Below P.world.heap.size P.world w':=fun P=>CL _ (HK1.out.below (P.ok.mono Zo)).rd
  by_cases hp0:p = 0
  case pos =>
   have HE:=Zh (HR2.out.symm.trans (runK_nodrive FT.out (fun c=>by have:=c.2; simp only at this; omega) H3.out Zo r));have e1:(p == 0) = true:=by simp [hp0]
   clear tok t1 t2 t3 t4 z1 z2 z3 z4 hp hq hp0 CL hd hv i0 i1 hi;go_wp2;refine wp_region_bel Zk Zk ?_
   repeat (go_big_quiet_step ((go_at_call 141; (with_reducible exact Calls.bel_of (CLp _)))))
   refine wpQuiet_nil ?_;refine bel_all fun wq hbq=>?_
   clear q0 q1 q2 q3;have Bq:=Zh (C.below hbq);go_wp2_with (go_at_call 163; refine (breaks19_0 g A n c (k,x,y) f0 f1 f2 f3 m _ Bq.out.box).mono ?_; rintro e w4 ⟨rfl,u4⟩);refine bodyPost_ret (results_none Tryz.results164 _ _ _) rfl ⟨rfl,?_⟩;rw [HE.out]; exact Bq.out.upd u4
  have e1:(p == 0) = false:=by simp [hp0]
  have can:CanD l ((k:Int),x,y):=⟨by have:=HN.out; simp only; omega,by simp only; omega⟩;obtain ⟨u,hu⟩:∃ u:Nat,min p (b - m) = (u:Int) + 1:=⟨(min p (b - m) - 1).toNat,by omega⟩;have HS:=Zh (runK_drive OK.out u FT.out can m f0 f1 f2 f3 (by simp only; omega));have y0:=fits_undriven FT.out can;simp only at y0;subst y0;have NR:=Zh (show Near l ((k:Int),x + min p (b - m),0) from ⟨by simp,by have:=HN.out; simp only; omega,fun e=>by have:=HN.out; simp only at e; omega,fun _=>show 0 <= x + min p (b - m) /\ x + min p (b - m) <= (tk l (k:Int)).1 /\ (0:Int) <= 0 /\ (0:Int) <= (tk l (k:Int)).2.1 /\ ((0:Int) = 0 ∨ x + min p (b - m) = (tk l (k:Int)).1) by rw [hd,hv]; exact ⟨by omega,by omega,by omega,by omega,Or.inl rfl⟩⟩);have NF:=Zh (pastT_fits OK.out NR.out);have N0:=Zh (pastT_unserved (l:=l) (s:=((k:Int),x + min p (b - m),0)) rfl)
  have NX:=Zh (show runK l 3 (m + min p (b - m) - a).toNat a (s,f0,f1,f2,f3) = (pastT l ((k:Int),x + min p (b - m),0),f0,f1,f2,f3) by
   rw [show (m + min p (b - m) - a).toNat = (m - a).toNat + (u + 1) by omega,runK_add l _ (m - a).toNat (u + 1) a,show a + ((m - a).toNat:Int) = m by omega,HR.out,HS.out,hu])
  have CP:=fun W (h:RdK W A l)=>past19_any A n c l HN.out k (x + min p (b - m)) 0 W h Zo OK.out NR.out
  obtain ⟨⟨i2,x2,y2⟩,hP⟩:∃ P,pastT l ((k:Int),x + min p (b - m),0) = P:=⟨_,rfl⟩;rw [hP] at NF N0 NX CP;unfold sp3 at CP;simp only at CP;have m2:m + min p (b - m) <= b:=by omega
  have m3:m < m + min p (b - m):=by omega
  have m4:x + min p (b - m) <= 10080:=by omega
  have m5:0 <= x + min p (b - m):=by omega
  have hsub:b - m <= 40320 /\ 0 <= b - m:=by omega
  obtain ⟨hs1,hs2⟩:=hsub;clear hp hq hP hu HS NR can tok t2 t3 t4 z1 z2 z3 z4 hd hv i0 i1 hi hp0 CL hr;go_wp2;refine wp_region_bel Zk Zk ?_
  repeat (go_big_quiet_step ((go_at_call 141; (with_reducible exact Calls.bel_of (CLp _)))))
  refine wpQuiet_nil ?_;refine bel_all fun wq hbq=>?_
  clear q0 q1 q2 q3 CLp;have Cq:=C.below hbq;have r2:wq.cell? ⟨g,2,none⟩ = some (.int .i64 x):=Cq.box.cell (k:=2) rfl;have HCq:=Zh Cq;have lq:=Cq.box.lt;clear Cq;go_upto_region 6 with (refine wpList_store_fld Zv 3 _ _ rfl g 2 (.int .i64 (x + min p (b - m))) rfl rfl rfl 215 (wk A n c (k,x,0) f0 f1 f2 f3) HCq.out.box (show 2 < 8 by decide) Zk (fun w5 u5=>?_))
  have C5:=HCq.out.upd u5;have HC5:=Zh C5;have HK5:=Zh (HK.out.below (C5.bel n0 hg hn0));have HB5:=Zh (show Bx w5 g 215 (wk A n c (k,x + min p (b - m),0) f0 f1 f2 f3) from C5.box);have v0:w5.cell? ⟨g,0,none⟩ = some (.slice A n c):=HB5.out.cell (k:=0) rfl;have v1:w5.cell? ⟨g,1,none⟩ = some (.int .i64 k):=HB5.out.cell (k:=1) rfl;have v2:w5.cell? ⟨g,2,none⟩ = some (.int .i64 (x + min p (b - m))):=HB5.out.cell (k:=2) rfl;have v3:w5.cell? ⟨g,3,none⟩ = some (.int .i64 0):=HB5.out.cell (k:=3) rfl;have l5:=C5.box.lt;clear C5 u5 r2;go_region_with (go_at_call 175; refine (CP _ ?_).mono ?_; (focus exact (HK5.out.below (b_dr (Below.refl _ _))).rd); rintro e w6 ⟨rfl,hb6⟩; have B6:=HB5.out.drew.below hb6; have c1:=B6.cell (k:=1) rfl; have c2:=B6.cell (k:=2) rfl; have c3:=B6.cell (k:=3) rfl; have e1:=B6.free 1; have e2:=B6.free 2; have e3:=B6.free 3; have l6:=B6.lt)
  all_goals
   have U1:=B6.setOne (k:=1) (v:=.int .i64 i2)
   have U2:=U1.trans (U1.box.setOne (k:=2) (v:=.int .i64 x2))
   have U3:=U2.trans (U2.box.setOne (k:=3) (v:=.int .i64 y2))
   have C8:=Zh (show Chg w g 215 (wk A n c (i2,x2,y2) f0 f1 f2 f3) _ from (HC5.out.drew.below hb6).upd U3)
   clear U1 U2 U3 c1 c2 c3 e1 e2 e3 v0 v1 v2 v3 B6
   go_wp2
   go_roundw
   case rel=>exact ⟨m + min p (b - m),(i2,x2,y2),rfl,by omega,by omega,NX,NF,Zh (fun h=>by have:=N0.out; simp only at this h; omega),C8.out⟩
   case measure=>simp [intOf]; omega
end Go.Proofs.YtiamnbddbmgffaaGreatDoor
