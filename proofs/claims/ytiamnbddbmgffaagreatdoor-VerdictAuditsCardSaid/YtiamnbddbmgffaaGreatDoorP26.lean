/- Texts of the proofs of VerdictAudits, VerdictAll, VerdictRising, pressed: IvalsRight, WindowRef. Conditions: as each theorem says. -/
import Derived.Test.YtiamnbddbmgffaaGreatDoorRows
import Derived.Test.YtiamnbddbmgffaaGreatDoorP15
namespace Go.Proofs.YtiamnbddbmgffaaGreatDoor
open Go.RowKit
set_option linter.unusedVariables false
set_option maxHeartbeats 400000 in
theorem refrightl_any (A:Option Addr) (c:Nat) (l:List Sp) (w:World) (h:RdS w A l) (hl:l.length <= 4611686018427387904) :
  Calls Tryz.prog 133 #[.slice A l.length c] w fun e w'=>e = .returned (.bool (rightB l)) /\ Below w.heap.size w w':=by
 go_enter Tryz.func133,Tryz.ntmps133;go_wp2;go_loopw [3] (fun i wr=>∃ k:Nat,k <= l.length /\ i = .int .i64 k /\ Below w.heap.size w wr /\ Hid (∀ j,j < k -> okAt l j = true)) (fun i _=>l.length - (intOf i).toNat)
 case atStart=>exact ⟨0,Nat.zero_le _,rfl,Below.refl _ _,Zh Zo⟩
 case round =>
  obtain ⟨k,hk,rfl,hb,hn⟩:=hrel;have hsz:=hb.size;by_cases hlt:k < l.length
  ·obtain ⟨b,off,x,y,rfl,hbb,hc1,hc2,hs⟩:=h.at_ hlt
   rw [<- hb.cell (p:=⟨b,_,none⟩) hbb] at hc1 hc2;have q1:∀ p:BelowOf wr,p.world.cell? ⟨b,off + k * 2,none⟩ = some (.int .i64 x):=fun p=>p.cell hc1
   have q2:∀ p:BelowOf wr,p.world.cell? ⟨b,off + k * 2 + 1,none⟩ = some (.int .i64 y):=fun p=>p.cell hc2
   by_cases hxy:x < y
   ·by_cases h0:k = 0
    ·subst h0
     have hg:decide ((0:Int) < 0) = false:=by decide
     simp only [Nat.zero_mul,Nat.add_zero] at q1 q2;go_wp2;refine wp_region_bel Zk Zk ?_
     repeat (go_big_quiet_step (first | (go_at_call 132; exact Calls.bel_of (refright_yes _ _ _ hxy))))
     refine wpQuiet_nil ?_;rintro _ ⟨⟨wq,hbq⟩,rfl⟩;clear q1 q2;go_wp2;go_roundw
     case rel=>exact ⟨0 + 1,by omega,by go_num,hb.trans (hbq.mono hsz),Zh (fun j hj=>by
      have:j = 0:=by omega
      subst this
      unfold okAt; rw [hs.out]; simp [hxy])⟩
     case measure=>simp [intOf]; omega
    ·obtain ⟨j,rfl⟩:∃ j,k = j + 1:=⟨k - 1,by omega⟩
     obtain ⟨b',off',x',y',hA,hbb',hc1',hc2',hs'⟩:=h.at_ (show j < l.length by omega);obtain ⟨rfl,rfl⟩:b = b' /\ off = off':=by simpa using hA
     clear hA;rw [<- hb.cell (p:=⟨b,_,none⟩) hbb'] at hc1' hc2';have q3:∀ p:BelowOf wr,p.world.cell? ⟨b,off + j * 2 + 1,none⟩ = some (.int .i64 y'):=fun p=>p.cell hc2'
     have hg:decide ((0:Int) < (j:Int) + 1) = true:=decide_eq_true Zo
     have ok:okAt l (j + 1) = decide (y' < x):=by
      unfold okAt; rw [hs.out,show j + 1 - 1 = j from rfl,hs'.out]; simp [hxy]
     have OK:=Zh ok;clear ok;by_cases hp:x <= y'
     ·go_wp2
      refine wp_region_bel Zk Zk ?_
      repeat (go_big_quiet_step (first | (go_at_call 132; exact Calls.bel_of (refright_yes _ _ _ hxy))))
      refine wpQuiet_nil ?_;rintro _ ⟨⟨wq,hbq⟩,rfl⟩;clear q1 q2 q3;go_wp2;go_ret;refine ⟨?_,hb.trans (hbq.mono hsz)⟩;rw [rightB_no hlt (by rw [OK.out]; simp; omega)]; rfl
     ·have hp':y' < x:=by omega
      go_wp2;refine wp_region_bel Zk Zk ?_
      repeat (go_big_quiet_step (first | (go_at_call 132; exact Calls.bel_of (refright_yes _ _ _ hxy))))
      refine wpQuiet_nil ?_;rintro _ ⟨⟨wq,hbq⟩,rfl⟩;clear q1 q2 q3;go_wp2;go_roundw
      case rel=>exact ⟨j + 1 + 1,by omega,by go_num,hb.trans (hbq.mono hsz),Zh (fun i hi=>by
       by_cases e:i = j + 1
       ·subst e; rw [OK.out]; simpa using hp'
       ·exact hn.out i Zo)⟩
      case measure=>simp [intOf]; omega
   ·go_wp2
    refine wp_region_bel Zk Zk ?_
    repeat (go_big_quiet_step (first | (go_at_call 132; exact Calls.bel_of (refright_no _ _ _ Zo))))
    refine wpQuiet_nil ?_;rintro _ ⟨⟨wq,hbq⟩,rfl⟩;clear q1 q2;go_wp2;go_ret;refine ⟨?_,hb.trans (hbq.mono hsz)⟩;rw [rightB_no hlt (by unfold okAt; rw [hs.out]; simp; omega)]; rfl
  ·go_wp2
   go_ret;refine ⟨?_,hb⟩;rw [rightB_yes fun j hj=>hn.out j Zo]; rfl
set_option maxHeartbeats 1600000 in
theorem refcheck18_any (A:Option Addr) (c:Nat) (l:List Sp) (w:World) (h:RdS w A l) (hl:l.length <= 4611686018427387904) :
  Calls Tryz.prog 98 #[.slice A l.length c] w fun e w'=>e = .returned (.int .i64 (checkW l)) /\ Below w.heap.size w w':=by
 by_cases h0:l.length = 0
 ·have h0':((l.length:Int) == 0) = true:=by simp [h0]
  rw [check_none h0];go_enter Tryz.func98,Tryz.ntmps98;go_wp2;go_ret;exact ⟨rfl,Below.refl _ _⟩
 ·have h0':((l.length:Int) == 0) = false:=by simp [h0]
  by_cases h8:8 < l.length
  ·have h8':(8:Int) < (l.length:Int):=by omega
   rw [check_many h8];go_enter Tryz.func98,Tryz.ntmps98;go_wp2;go_ret;exact ⟨rfl,Below.refl _ _⟩
  ·have h8':¬ (8:Int) < (l.length:Int):=by omega
   go_enter Tryz.func98,Tryz.ntmps98;go_wp2;go_loopw [3] (fun i wr=>∃ k:Nat,k <= l.length /\ i = .int .i64 k /\ Below w.heap.size w wr /\ Hid (∀ j,j < k -> wrongS (l.getD j (0,0)) = false)) (fun i _=>l.length - (intOf i).toNat)
   case atStart=>exact ⟨0,Nat.zero_le _,rfl,Below.refl _ _,Zh Zo⟩
   case round =>
    obtain ⟨k,hk,rfl,hb,hn⟩:=hrel;have hsz:=hb.size;by_cases hlt:k < l.length
    ·obtain ⟨b,off,x,y,rfl,hbb,hc1,hc2,hs⟩:=h.at_ hlt
     rw [<- hb.cell (p:=⟨b,_,none⟩) hbb] at hc1 hc2;have hbr:b < wr.heap.size:=by omega
     by_cases hxy:x < y
     ·have HW:=Zh (show wrongS (l.getD k (0,0)) = false by rw [hs.out]; unfold wrongS; simp [hxy])
      go_wp2_with (go_at_call 132; refine (refright_yes _ _ _ hxy).mono ?_; rintro e w1 ⟨rfl,hb1⟩; obtain ⟨hc1,hf1⟩:=bcell hb1; have hz1:=hb1.size; (try simp at hz1));go_roundw
      case rel=>exact ⟨k + 1,by omega,by go_num,Zq,Zh (fun j hj=>by
       by_cases e:j = k
       ·subst e; exact HW.out
       ·exact hn.out j Zo)⟩
      case measure=>simp [intOf]; omega
     ·have HW:=Zh (show wrongS (l.getD k (0,0)) = true by rw [hs.out]; unfold wrongS; simp [hxy])
      go_wp2_with (go_at_call 132; refine (refright_no _ _ _ hxy).mono ?_; rintro e w1 ⟨rfl,hb1⟩; obtain ⟨hc1,hf1⟩:=bcell hb1; have hz1:=hb1.size; (try simp at hz1));go_ret;refine ⟨?_,Zq⟩;rw [check_wrong h0 h8 (any_at hlt HW.out)]; rfl
    ·have HA:=Zh (any_none (p:=wrongS) Zo hn.out)
     obtain ⟨w1,rfl⟩:∃ w1:World,w1 = wr:=⟨_,rfl⟩;clear hn;go_wp2;go_loopw [4] (fun i wr=>∃ k:Nat,k <= l.length /\ i = .int .i64 k /\ Below w.heap.size w wr /\ Hid (∀ j,j < k -> rangeS (l.getD j (0,0)) = false)) (fun i _=>l.length - (intOf i).toNat)
     case atStart=>exact ⟨0,Nat.zero_le _,rfl,hb,Zh Zo⟩
     case round =>
      clear hb hsz;obtain ⟨k,hk,rfl,hb,hn⟩:=hrel;have hsz:=hb.size;by_cases hlt:k < l.length
      ·obtain ⟨b,off,x,y,rfl,hbb,hc1,hc2,hs⟩:=h.at_ hlt
       rw [<- hb.cell (p:=⟨b,_,none⟩) hbb] at hc1 hc2;have hbr:b < wr.heap.size:=by omega
       by_cases hx:x < 0
       ·have HW:=Zh (show rangeS (l.getD k (0,0)) = true by rw [hs.out]; unfold rangeS; simp [hx])
        have hd:decide (x < 0) = true:=decide_eq_true hx;go_wp2;go_ret;refine ⟨?_,Zq⟩;rw [check_range h0 h8 HA.out (any_at hlt HW.out)]; rfl
       ·have hd:decide (x < 0) = false:=decide_eq_false hx
        by_cases hy:40320 < y
        ·have HW:=Zh (show rangeS (l.getD k (0,0)) = true by rw [hs.out]; unfold rangeS; simp [hy])
         have hd2:decide (40320 < y) = true:=decide_eq_true hy;go_wp2;go_ret;refine ⟨?_,Zq⟩;rw [check_range h0 h8 HA.out (any_at hlt HW.out)]; rfl
        ·have HW:=Zh (show rangeS (l.getD k (0,0)) = false by rw [hs.out]; unfold rangeS; simp; omega)
         have hd2:decide (40320 < y) = false:=decide_eq_false hy;go_wp2;go_roundw
         case rel=>exact ⟨k + 1,by omega,by go_num,Zq,Zh (fun j hj=>by
          by_cases e:j = k
          ·subst e; exact HW.out
          ·exact hn.out j Zo)⟩
         case measure=>simp [intOf]; omega
      ·have HA2:=Zh (any_none (p:=rangeS) Zo hn.out)
       have CR:=fun W (h:RdS W A l)=>refrightl_any A c l W h hl
       obtain ⟨g,hg⟩:∃ g,rightB l = g:=⟨_,rfl⟩;rw [hg] at CR;have HG:=Zh hg;clear hg
       cases g with
       | false =>
        go_wp2_with (go_at_call 133; refine (CR _ (h.below (hb.mono Zl))).mono ?_; rintro e w2 ⟨rfl,hb2⟩);go_ret;refine ⟨?_,Zq⟩;rw [check_over h0 h8 HA.out HA2.out HG.out]; rfl
       | true =>
        go_wp2_with (go_at_call 133; refine (CR _ (h.below (hb.mono Zl))).mono ?_; rintro e w2 ⟨rfl,hb2⟩);go_ret;refine ⟨?_,Zq⟩;rw [check_right h0 h8 HA.out HA2.out HG.out]; rfl
end Go.Proofs.YtiamnbddbmgffaaGreatDoor
