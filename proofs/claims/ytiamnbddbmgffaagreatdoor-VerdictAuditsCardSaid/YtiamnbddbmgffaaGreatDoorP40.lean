/- Texts of the proofs of VerdictAudits, VerdictAll, VerdictRising, pressed: WordLeaf, FindSame, ClauseFind, LoadRef, DutyLook, DutyLook2. Conditions: as each theorem says. -/
import Derived.Test.YtiamnbddbmgffaaGreatDoorRows
import Derived.Test.YtiamnbddbmgffaaGreatDoorP34
namespace Go.Proofs.YtiamnbddbmgffaaGreatDoor
open Go.RowKit
set_option linter.unusedVariables false
theorem not_empty {s:ByteArray} (h:s.size ≠ 0):s.toList.isEmpty = false:=by
 have:=(Lib.bytes_beq_false_iff s ⟨#[]⟩).2 (by rintro rfl; exact h rfl);simpa using this
theorem samef_go {a b:List Rc} {k:Nat} (h:a.length = b.length) (hk:a.length <= k) (hn:∀ j,j < k -> a.getD j rz = b.getD j rz):decide (a = b) = true:=by
 refine decide_eq_true (List.ext_getElem h fun i h1 h2=>?_);have:=hn i Zo;simpa [List.getD,h1,h2] using this
theorem samef_no {a b:List Rc} {k:Nat} (h:a.getD k rz ≠ b.getD k rz):decide (a = b) = false:=by
 refine decide_eq_false fun e=>h (by rw [e])
set_option maxHeartbeats 1600000 in
theorem sameF_even (A B:Option Addr) (c d n:Nat) (a b:List Rc) (w:World) (hna:Hid (a.length = n)) (hnb:Hid (b.length = n)) (ha:RdF w A a) (hb:RdF w B b) (hl:n <= 4611686018427387904) :
  Calls Tryz.prog 12 #[.slice A n c,.slice B n d] w fun e w'=>e = .returned (.bool (decide (a = b))) /\ Below w.heap.size w w':=by
 go_enter Tryz.func12,Tryz.ntmps12;go_wp2;go_loopw [5] (fun i wr=>∃ k:Nat,k <= n /\ i = .int .i64 k /\ Below w.heap.size w wr /\ Hid (∀ j,j < k -> a.getD j rz = b.getD j rz)) (fun i _=>n - (intOf i).toNat)
 case atStart=>exact ⟨0,Nat.zero_le _,rfl,Below.refl _ _,Zh Zo⟩
 case round =>
  obtain ⟨k,hk,rfl,hbw,hn⟩:=hrel;have hsz:=hbw.size;by_cases hlt:k < n
  ·obtain ⟨b1,off,x,y,z,rfl,hbb,hc0,hc1,hc2,hs⟩:=ha.at_ (k:=k) (by rw [hna.out]; exact hlt)
   obtain ⟨b2,off2,x2,y2,z2,rfl,hbb2,hd0,hd1,hd2,hs2⟩:=hb.at_ (k:=k) (by rw [hnb.out]; exact hlt);rw [<- hbw.cell (p:=⟨b1,_,none⟩) hbb] at hc0 hc1 hc2;rw [<- hbw.cell (p:=⟨b2,_,none⟩) hbb2] at hd0 hd1 hd2;have q0:∀ p:BelowOf wr,p.world.cell? ⟨b1,off + k * 3,none⟩ = some (.int .i64 x):=fun p=>p.cell hc0
   have q1:∀ p:BelowOf wr,p.world.cell? ⟨b1,off + k * 3 + 1,none⟩ = some (.int .i64 y):=fun p=>p.cell hc1
   have q2:∀ p:BelowOf wr,p.world.cell? ⟨b1,off + k * 3 + 2,none⟩ = some (.int .i64 z):=fun p=>p.cell hc2
   have q3:∀ p:BelowOf wr,p.world.cell? ⟨b2,off2 + k * 3,none⟩ = some (.int .i64 x2):=fun p=>p.cell hd0
   have q4:∀ p:BelowOf wr,p.world.cell? ⟨b2,off2 + k * 3 + 1,none⟩ = some (.int .i64 y2):=fun p=>p.cell hd1
   have q5:∀ p:BelowOf wr,p.world.cell? ⟨b2,off2 + k * 3 + 2,none⟩ = some (.int .i64 z2):=fun p=>p.cell hd2
   by_cases hx:x = x2
   ·subst hx
    by_cases hy:y = y2
    ·subst hy
     by_cases hz:z = z2
     ·subst hz
      go_wp2;refine wp_region_bel Zk Zk ?_
      repeat (go_big_quiet_step (first | (fail)))
      refine wpQuiet_nil ?_;refine bel_all fun wq hbq=>?_
      clear q0 q1 q2 q3 q4 q5;go_wp2;go_roundw
      case rel=>exact ⟨k + 1,by omega,by go_num,hbw.trans (hbq.mono hsz),Zh (fun j hj=>by
       by_cases e:j = k
       ·subst e; rw [hs.out,hs2.out]
       ·exact hn.out j Zo)⟩
      case measure=>simp [intOf]; omega
     ·have e1:(z == z2) = false:=by simpa using hz
      have H:=Zh hz;clear hz;go_wp2;refine wp_region_bel Zk Zk ?_
      repeat (go_big_quiet_step (first | (fail)))
      refine wpQuiet_nil ?_;refine bel_all fun wq hbq=>?_
      clear q0 q1 q2 q3 q4 q5;go_wp2;go_ret;refine ⟨?_,hbw.trans (hbq.mono hsz)⟩;rw [samef_no (k:=k) (by rw [hs.out,hs2.out]; intro e; simp only [Prod.mk.injEq] at e; exact H.out (by first | exact e.1 | exact e.2.1 | exact e.2.2))]; rfl
    ·have e1:(y == y2) = false:=by simpa using hy
     have H:=Zh hy;clear hy;go_wp2;refine wp_region_bel Zk Zk ?_
     repeat (go_big_quiet_step (first | (fail)))
     refine wpQuiet_nil ?_;refine bel_all fun wq hbq=>?_
     clear q0 q1 q2 q3 q4 q5;go_wp2;go_ret;refine ⟨?_,hbw.trans (hbq.mono hsz)⟩;rw [samef_no (k:=k) (by rw [hs.out,hs2.out]; intro e; simp only [Prod.mk.injEq] at e; exact H.out (by first | exact e.1 | exact e.2.1 | exact e.2.2))]; rfl
   ·have e1:(x == x2) = false:=by simpa using hx
    have H:=Zh hx;clear hx;go_wp2;refine wp_region_bel Zk Zk ?_
    repeat (go_big_quiet_step (first | (fail)))
    refine wpQuiet_nil ?_;refine bel_all fun wq hbq=>?_
    clear q0 q1 q2 q3 q4 q5;go_wp2;go_ret;refine ⟨?_,hbw.trans (hbq.mono hsz)⟩;rw [samef_no (k:=k) (by rw [hs.out,hs2.out]; intro e; simp only [Prod.mk.injEq] at e; exact H.out (by first | exact e.1 | exact e.2.1 | exact e.2.2))]; rfl
  ·go_wp2
   go_ret;refine ⟨?_,hbw⟩;rw [samef_go (hna.out.trans hnb.out.symm) (by rw [hna.out]; omega) hn.out]; rfl
theorem sameF_any (A B:Option Addr) (c d n m:Nat) (a b:List Rc) (w:World) (hn:Hid (a.length = n)) (hm:Hid (b.length = m)) (ha:RdF w A a) (hb:RdF w B b) (hl:n <= 4611686018427387904) :
  Calls Tryz.prog 12 #[.slice A n c,.slice B m d] w fun e w'=>e = .returned (.bool (decide (a = b))) /\ Below w.heap.size w w':=by
 by_cases hlen:m = n
 ·subst hlen
  exact sameF_even A B c d m a b w hn hm ha hb hl
 ·have e:decide (a = b) = false:=decide_eq_false fun e=>hlen (by rw [<- hn.out,<- hm.out,e])
  have hbl:((n:Int) == (m:Int)) = false:=by simp; omega
  rw [e];have H:=Zh hlen;clear hlen e;go_enter Tryz.func12,Tryz.ntmps12;go_wp2;go_ret;exact ⟨rfl,Below.refl _ _⟩
theorem nm_cell (w:World) (T:TypeId):∀ k,k < 16 -> (w.alloc (.cells #[.string ⟨#[98,114,101,97,107]⟩,.string ⟨#[108,111,110,103,101,114]⟩,.string ⟨#[108,111,110,103,101,114,115]⟩,.string ⟨#[119,101,101,107]⟩,.string ⟨#[102,111,114,116,110,105,103,104,116]⟩,.string ⟨#[100,97,105,108,121]⟩,.string ⟨#[114,101,100,117,99,101,115]⟩,.string ⟨#[119,101,101,107,108,121]⟩,.string ⟨#[98,114,105,101,102]⟩,.string ⟨#[108,97,98,111,117,114]⟩,.string ⟨#[100,114,105,118,101]⟩,.string ⟨#[119,111,114,107]⟩,.string ⟨#[111,112,101,110]⟩,.string ⟨#[115,101,114,118,101]⟩,.string ⟨#[108,101,102,116]⟩,.string ⟨#[108,111,97,100]⟩] T)).cell? ⟨w.heap.size,k,none⟩ = some (.string (nmB k)):=by
 intro k hk;rw [cell_of_row _ _ _ _ _ _ (heap_alloc_new w _)];have:k = 0 ∨ k = 1 ∨ k = 2 ∨ k = 3 ∨ k = 4 ∨ k = 5 ∨ k = 6 ∨ k = 7 ∨ k = 8 ∨ k = 9 ∨ k = 10 ∨ k = 11 ∨ k = 12 ∨ k = 13 ∨ k = 14 ∨ k = 15:=by omega
 rcases this with rfl | rfl | rfl | rfl | rfl | rfl | rfl | rfl | rfl | rfl | rfl | rfl | rfl | rfl | rfl | rfl <;> rfl
theorem refnm_yes (k:Nat) (w:World) (hk:k < 16) :
  Calls Tryz.prog 72 #[.int .i64 (k:Nat)] w fun e w'=>e = .returned (.string (nmB k)) /\ Below w.heap.size w w':=by
 have q:=nm_cell w 9 k hk;have k0:¬ (k:Int) < 0:=by omega
 have k1:(k:Int) < 16:=by omega
 have k2:(0:Int) <= (k:Int):=by omega
 generalize nmB k = a at q;go_enter Tryz.func72,Tryz.ntmps72;go_wp2;go_ret;exact ⟨rfl,(Below.refl _ _).alloc Zl _⟩
theorem refnm_any (c:Int) (w:World) :
  Calls Tryz.prog 72 #[.int .i64 c] w fun e w'=>e = .returned (.string (nameV c)) /\ Below w.heap.size w w':=by
 by_cases h:isC c
 ·obtain ⟨k,hk,rfl⟩:=isC_of h
  rw [name_yes hk];exact refnm_yes k w hk
 ·rw [name_no h]
  by_cases h0:c < 0
  ·clear h
   go_enter Tryz.func72,Tryz.ntmps72;go_wp2;go_ret;exact ⟨rfl,(Below.refl _ _).alloc Zl _⟩
  ·have h1:16 <= c:=by
    rcases Int.lt_or_le c 16 with h2 | h2
    ·exact absurd ⟨by omega,h2⟩ h
    ·exact h2
   clear h
   go_enter Tryz.func72,Tryz.ntmps72
   go_wp2
   go_ret
   exact ⟨rfl,(Below.refl _ _).alloc Zl _⟩
theorem ar_cell (w:World) (T:TypeId):∀ k,k < 16 -> (w.alloc (.cells #[.string ⟨#[55]⟩,.string ⟨#[54,40,49,41]⟩,.string ⟨#[54,40,49,41]⟩,.string ⟨#[54,40,50,41]⟩,.string ⟨#[54,40,51,41]⟩,.string ⟨#[56,40,50,41]⟩,.string ⟨#[56,40,52,41]⟩,.string ⟨#[56,40,54,41]⟩,.string ⟨#[56,40,54,41]⟩,.string ⟨#[68,52]⟩,.string ⟨#[82,49]⟩,.string ⟨#[82,49]⟩,.string ⟨#[82,50]⟩,.string ⟨#[82,51]⟩,.string ⟨#[82,52]⟩,.string ⟨#[82,53]⟩] T)).cell? ⟨w.heap.size,k,none⟩ = some (.string (arB k)):=by
 intro k hk;rw [cell_of_row _ _ _ _ _ _ (heap_alloc_new w _)];have:k = 0 ∨ k = 1 ∨ k = 2 ∨ k = 3 ∨ k = 4 ∨ k = 5 ∨ k = 6 ∨ k = 7 ∨ k = 8 ∨ k = 9 ∨ k = 10 ∨ k = 11 ∨ k = 12 ∨ k = 13 ∨ k = 14 ∨ k = 15:=by omega
 rcases this with rfl | rfl | rfl | rfl | rfl | rfl | rfl | rfl | rfl | rfl | rfl | rfl | rfl | rfl | rfl | rfl <;> rfl
theorem refar_yes (k:Nat) (w:World) (hk:k < 16) :
  Calls Tryz.prog 73 #[.int .i64 (k:Nat)] w fun e w'=>e = .returned (.string (arB k)) /\ Below w.heap.size w w':=by
 have q:=ar_cell w 9 k hk;have k0:¬ (k:Int) < 0:=by omega
 have k1:(k:Int) < 16:=by omega
 have k2:(0:Int) <= (k:Int):=by omega
 generalize arB k = a at q;go_enter Tryz.func73,Tryz.ntmps73;go_wp2;go_ret;exact ⟨rfl,(Below.refl _ _).alloc Zl _⟩
theorem refar_any (c:Int) (w:World) :
  Calls Tryz.prog 73 #[.int .i64 c] w fun e w'=>e = .returned (.string (artV c)) /\ Below w.heap.size w w':=by
 by_cases h:isC c
 ·obtain ⟨k,hk,rfl⟩:=isC_of h
  rw [art_yes hk];exact refar_yes k w hk
 ·rw [art_no h]
  by_cases h0:c < 0
  ·clear h
   go_enter Tryz.func73,Tryz.ntmps73;go_wp2;go_ret;exact ⟨rfl,(Below.refl _ _).alloc Zl _⟩
  ·have h1:16 <= c:=by
    rcases Int.lt_or_le c 16 with h2 | h2
    ·exact absurd ⟨by omega,h2⟩ h
    ·exact h2
   clear h
   go_enter Tryz.func73,Tryz.ntmps73
   go_wp2
   go_ret
   exact ⟨rfl,(Below.refl _ _).alloc Zl _⟩
theorem rv_up {leg j:Nat} {x:Int} (h:0 < x) (h1:leg <= j):rv leg j x = x:=by unfold rv; rw [if_pos ⟨h,h1⟩]
theorem rv_dn {leg j:Nat} {x:Int} (h:x < 0) (h1:j < leg):rv leg j x = -x:=by unfold rv; rw [if_neg Zo,if_pos ⟨h,h1⟩]
theorem rv_no {leg j:Nat} {x:Int} (h:¬ (0 < x /\ leg <= j)) (h1:¬ (x < 0 /\ j < leg)):rv leg j x = 0:=by unfold rv; rw [if_neg h,if_neg h1]
theorem refN_more (l:List Int) (leg i:Nat):refN l leg (i + 1) = refN l leg i + rv leg i (l.getD i 0):=rfl
set_option maxHeartbeats 1600000 in
theorem reflegs21_any (A:Option Addr) (c n:Nat) (l:List Int) (w:World) (hn:Hid (l.length = n)) (hr:RdN w A l) (h0:chkL l = 0) :
  Calls Tryz.prog 67 #[.slice A n c] w fun e w'=>∃ v,e = .returned v /\ OwnN w.heap.size w' v (legsV l) /\ Below w.heap.size w w':=by
 obtain ⟨hl,hF⟩:=chkL_ok h0;rw [hn.out] at hl;have HR:=Zh hr;have HB:=Zh fun leg i=>refN_bd hF leg i
 have HFW:=Zh fun k=>few_getD hF k
 clear hr h0 hF;go_enter Tryz.func67,Tryz.ntmps67;go_wp2;go_loopw [3,4] (fun v i wr=>∃ leg:Nat,leg <= n + 1 /\ i = .int .i64 leg /\ Hid (OwnN w.heap.size wr v (legsTo l leg)) /\ Below w.heap.size w wr) (fun _ i _=>n + 1 - (intOf i).toNat)
 case atStart=>exact ⟨0,Nat.zero_le _,rfl,Zh (OwnN.nil _ _),Below.refl _ _⟩
 case round =>
  obtain ⟨leg,hk,rfl,HO,hb⟩:=hrel;obtain ⟨w3,rfl⟩:∃ w3:World,w3 = wr:=⟨_,rfl⟩;have hsz:=hb.size;by_cases hlt:leg <= n
  ·have HLT:=Zh (legsTo_len l leg)
   have HMT:=Zh (legsTo_more l leg);have HAL:=Zh (refN_all l (leg:=leg) (by rw [hn.out]; exact hlt));go_wp2;go_loop [5,6] (fun m i=>∃ (k:Nat) (a:Int),k <= n /\ i = .int .i64 k /\ m = .int .i64 a /\ 0 <= a /\ a <= 1000000 * (k:Int) /\ Hid (refN l leg k = a)) (fun _ i=>n - (intOf i).toNat)
   case atStart=>exact ⟨0,0,Nat.zero_le _,rfl,rfl,Int.le_refl _,by simp,Zh rfl⟩
   case round =>
    obtain ⟨k,a,hk2,rfl,rfl,ha0,ha1,HA⟩:=hrel;by_cases hlt2:k < n
    ·obtain ⟨b,off,x,rfl,hbb,hc0,hs⟩:=HR.out.getD (k:=k) (by rw [hn.out]; exact hlt2)
     rw [<- hb.cell (p:=⟨b,_,none⟩) hbb] at hc0;have HM:=Zh (refN_more l leg k);rw [HA.out,hs.out] at HM;have hB:=HB.out leg (k + 1);have hfx:=HFW.out k;rw [hs.out] at hfx;unfold Few21 at hfx;obtain ⟨hf0,hf1⟩:=hfx;have hi0:(k:Int) < (n:Int):=by omega
     by_cases hx:0 < x
     ·by_cases hge:leg <= k
      ·have e:=rv_up hx hge
       rw [e] at HM;rw [HM.out] at hB;obtain ⟨hB0,hB1⟩:=hB;have hg:(leg:Int) <= (k:Int):=by omega
       clear e;go_wp2;go_round
       case rel=>exact ⟨k + 1,a + x,by omega,by go_num,rfl,hB0,hB1,HM⟩
       case measure=>simp [intOf]; omega
      ·have e:=rv_no (leg:=leg) (j:=k) (x:=x) Zo Zo
       rw [e] at HM;rw [HM.out] at hB;obtain ⟨hB0,hB1⟩:=hB;have hg:(k:Int) < (leg:Int):=by omega
       clear e;go_wp2;go_round
       case rel=>exact ⟨k + 1,a + 0,by omega,by go_num,by simp,hB0,hB1,HM⟩
       case measure=>simp [intOf]; omega
     ·by_cases hx2:x < 0
      ·by_cases hge:k < leg
       ·have e:=rv_dn hx2 hge
        rw [e] at HM;rw [HM.out] at hB;obtain ⟨hB0,hB1⟩:=hB;have hg:(k:Int) < (leg:Int):=by omega
        clear e;go_wp2;go_round
        case rel=>exact ⟨k + 1,a + -x,by omega,by go_num,by (congr 1),hB0,hB1,HM⟩
        case measure=>simp [intOf]; omega
       ·have e:=rv_no (leg:=leg) (j:=k) (x:=x) Zo Zo
        rw [e] at HM;rw [HM.out] at hB;obtain ⟨hB0,hB1⟩:=hB;have hg:(leg:Int) <= (k:Int):=by omega
        clear e;go_wp2;go_round
        case rel=>exact ⟨k + 1,a + 0,by omega,by go_num,by simp,hB0,hB1,HM⟩
        case measure=>simp [intOf]; omega
      ·have e:=rv_no (leg:=leg) (j:=k) (x:=x) Zo Zo
       rw [e] at HM;rw [HM.out] at hB;obtain ⟨hB0,hB1⟩:=hB;clear e;go_wp2;go_round
       case rel=>exact ⟨k + 1,a + 0,by omega,by go_num,by simp,hB0,hB1,HM⟩
       case measure=>simp [intOf]; omega
    ·obtain rfl:k = n:=by omega
     have HQ:=Zh (by have h1:=HAL.out; rw [hn.out,HA.out] at h1; exact h1:a = legAt l leg);go_wp2_with (at_builtin; refine wpList_snoc_int rfl _ _ rfl w.heap.size _ _ rfl (OwnN.alloc HO.out _) w3.heap.size a rfl (by simp) (by rw [HLT.out]; omega) (by simp; omega) (fun v5 w5 ho5 hg5 hq5=>?_); have HS5:=Zh ho5; have HB5:=Zh ((hb.alloc hb.size (.cells #[.int .i64 a] 3)).grown hg5 (by simp; omega) (fun q hq=>(World.ownsRow.lt HO.out q hq).1)); clear ho5 hg5 hq5);go_roundw
     case rel=>exact ⟨leg + 1,by omega,by go_num,Zh (by rw [HMT.out,<- HQ.out]; exact HS5.out),HB5.out⟩
     case measure=>simp [intOf]; omega
  ·obtain rfl:leg = n + 1:=by omega
   have HQ:Hid (legsTo l (n + 1) = legsV l):=Zh (by rw [<- legsTo_all,hn.out]);rw [HQ.out] at HO;have hg:(n:Int) < ((n + 1:Nat):Int):=by omega
   go_wp2;go_ret;exact ⟨_,rfl,HO.out,hb⟩
theorem refpeak21_any (A:Option Addr) (c n:Nat) (l:List Int) (w:World) (hn:Hid (l.length = n)) (hr:RdN w A l) (h0:chkL l = 0) :
  Calls Tryz.prog 30 #[.slice A n c] w fun e w'=>e = .returned (.int .i64 (peakV l)) /\ Below w.heap.size w w':=by
 have LG:=reflegs21_any A c n l w hn hr h0;obtain ⟨hl,_⟩:=chkL_ok h0;rw [hn.out] at hl;have HN:Hid ((legsV l).length = n + 1):=Zh (by rw [legsV_len,hn.out]);have HP:Hid (peakV l = pk (legsV l) (n + 1)):=Zh (by unfold peakV; rw [hn.out]);generalize legsV l = L at *;clear hr h0;go_enter Tryz.func30,Tryz.ntmps30
 go_wp2_with (first
  | (go_at_call 67; (with_reducible refine LG.mono ?_); rintro e w1 ⟨v,rfl,hv,hb1⟩; have HB1:=Zh hb1; obtain ⟨A5,c5,rfl,hr5⟩:=hv.read; rw [HN.out]; have HR5:=Zh hr5; clear hv hb1 hr5))
 go_loop [3,5] (fun m i=>∃ (k:Nat) (y:Int),k <= n + 1 /\ i = .int .i64 k /\ m = .int .i64 y /\ Hid (pk L k = y)) (fun _ i=>n + 1 - (intOf i).toNat)
 case atStart=>exact ⟨0,0,Nat.zero_le _,rfl,rfl,Zh rfl⟩
 case round =>
  obtain ⟨k,y,hk,rfl,rfl,HY⟩:=hrel;by_cases hlt:k < n + 1
  ·obtain ⟨b,off,x,rfl,hbb,hc0,hs⟩:=HR5.out.getD (k:=k) (by rw [HN.out]; exact hlt)
   have HM:Hid (pk L (k + 1) = max y x):=Zh (by show max (pk L k) (L.getD k 0) = _; rw [HY.out,hs.out]);have hi:(k:Int) < ((n + 1:Nat):Int):=by omega
   by_cases hx:y < x
   ·rw [Int.max_eq_right (Int.le_of_lt hx)] at HM
    go_wp2;go_round
    case rel=>exact ⟨k + 1,x,by omega,by go_num,rfl,HM⟩
    case measure=>simp [intOf]; omega
   ·rw [Int.max_eq_left (Int.not_lt.1 hx)] at HM
    go_wp2;go_round
    case rel=>exact ⟨k + 1,y,by omega,by go_num,rfl,HM⟩
    case measure=>simp [intOf]; omega
  ·obtain rfl:k = n + 1:=by omega
   go_wp2;go_ret;rw [HP.out,HY.out];exact ⟨rfl,HB1.out⟩
theorem snoc_ind16 {α:Type} {P:List α -> Prop} (h0:P []) (h1:∀ l a,P l -> P (l ++ [a])) (l:List α):P l:=by
 rw [<- List.reverse_reverse l]
 induction l.reverse with
 | nil=>exact h0
 | cons a l ih=>rw [List.reverse_cons]; exact h1 _ _ ih
def kAt (ks:List Int) (i:Nat):Int:=ks.getD i 0
def fullR (E:List (Int × Int)) (r i:Nat):List (Int × Int):=if 0 < r then E ++ [((i:Int) - r,(i:Int))] else E
def eR (ks:List Int):Nat -> List (Int × Int) × Nat
 | 0=>([],0)
 | i + 1=>if kAt ks i = 0 then ((eR ks i).1,(eR ks i).2 + 1) else (fullR (eR ks i).1 (eR ks i).2 i,0)
theorem eR_rest {ks:List Int} {i:Nat} (h:kAt ks i = 0):eR ks (i + 1) = ((eR ks i).1,(eR ks i).2 + 1):=if_pos h
theorem eR_awake {ks:List Int} {i:Nat} (h:¬ kAt ks i = 0):eR ks (i + 1) = (fullR (eR ks i).1 (eR ks i).2 i,0):=if_neg h
structure Lk (E:List (Int × Int)) (hi:Int):Prop where
 each:∀ q ∈ E,0 <= q.1 /\ q.1 < q.2 /\ q.2 < hi
 ord:E.Pairwise fun a b=>a.2 < b.1
theorem Lk.nil (hi:Int):Lk [] hi:=⟨by simp,List.Pairwise.nil⟩
theorem Lk.more {E:List (Int × Int)} {hi hi':Int} (h:Lk E hi) (hh:hi <= hi'):Lk E hi':=⟨fun q hq=>by have:=h.each q hq; omega,h.ord⟩
theorem Lk.snoc {E:List (Int × Int)} {f t:Int} (h:Lk E f) (h0:0 <= f) (h1:f < t):Lk (E ++ [(f,t)]) (t + 1) where
 each q hq:=by
  rcases List.mem_append.1 hq with hq | hq
  ·have:=h.each q hq; omega
  ·obtain rfl:=List.mem_singleton.1 hq
   dsimp only; omega
 ord:=List.pairwise_append.2 ⟨h.ord,List.pairwise_singleton _ _,fun a ha b hb=>by
  obtain rfl:=List.mem_singleton.1 hb
  exact (h.each a ha).2.2⟩
theorem eR_le (ks:List Int):∀ i,(eR ks i).2 <= i
 | 0=>Nat.le_refl _
 | i + 1=>by
  have:=eR_le ks i;by_cases h:kAt ks i = 0
  ·rw [eR_rest h]; dsimp only; omega
  ·rw [eR_awake h]; exact Nat.zero_le _
theorem eR_ok (ks:List Int):∀ i,Lk (eR ks i).1 ((i:Int) - ((eR ks i).2:Nat))
 | 0=>Lk.nil _
 | i + 1=>by
  have ih:=eR_ok ks i;have hl:=eR_le ks i;by_cases h:kAt ks i = 0
  ·rw [eR_rest h]
   exact ih.more (by dsimp only; omega)
  ·rw [eR_awake h]
   dsimp only;unfold fullR;split
   ·rename_i hr
    exact (ih.snoc (t:=(i:Int)) Zo Zo).more Zo
   ·exact ih.more Zo
theorem full_ok (ks:List Int) (i:Nat):Lk (fullR (eR ks i).1 (eR ks i).2 i) ((i:Int) + 1):=by
 have ih:=eR_ok ks i;have hl:=eR_le ks i;unfold fullR;split
 ·exact ih.snoc (t:=(i:Int)) Zo Zo
 ·exact ih.more Zo
def cntK (ks:List Int) (a b lo:Int):Nat -> Int
 | 0=>0
 | h + 1=>cntK ks a b lo h + if lo <= (h:Int) /\ (kAt ks h = a ∨ kAt ks h = b) then 1 else 0
theorem cnt_succ (ks:List Int) (a b lo:Int) (h:Nat):cntK ks a b lo (h + 1) = cntK ks a b lo h + if lo <= (h:Int) /\ (kAt ks h = a ∨ kAt ks h = b) then 1 else 0:=rfl
theorem cnt_none {ks:List Int} {a b lo:Int}:∀ {h:Nat},(h:Int) <= lo -> cntK ks a b lo h = 0
 | 0,_=>rfl
 | h + 1,hh=>by
  unfold cntK;rw [cnt_none Zo,if_neg Zo];rfl
theorem cnt_nn {ks:List Int} {a b lo:Int}:∀ (h:Nat),0 <= cntK ks a b lo h
 | 0=>Int.le_refl _
 | h + 1=>by
  have:=cnt_nn (ks:=ks) (a:=a) (b:=b) (lo:=lo) h;unfold cntK;split <;> omega
theorem cnt_split {ks:List Int} {a b lo mid:Int} (hm:lo <= mid):∀ {h:Nat},mid <= (h:Int) -> 0 <= mid -> cntK ks a b lo h = cntK ks a b lo mid.toNat + cntK ks a b mid h
 | 0,h1,h0=>by
  have:mid = 0:=by omega
  subst this;rfl
 | h + 1,h1,h0=>by
  by_cases he:mid = (h:Int) + 1
  ·rw [cnt_none (lo:=mid) Zo,he,show ((h:Int) + 1).toNat = h + 1 by omega]
   omega
  ·rw [cnt_succ,cnt_succ]
   rw [cnt_split hm (h:=h) Zo h0];by_cases hk:kAt ks h = a ∨ kAt ks h = b
   ·rw [if_pos ⟨by omega,hk⟩,if_pos ⟨by omega,hk⟩]; omega
   ·rw [if_neg (fun q=>hk q.2),if_neg (fun q=>hk q.2)]; omega
theorem cnt_next {ks:List Int} {a b lo:Int} {h:Nat} (hl:lo <= (h:Int)):cntK ks a b lo (h + 1) = cntK ks a b lo h + if kAt ks h = a ∨ kAt ks h = b then 1 else 0:=by
 show _ + _ = _
 by_cases hk:kAt ks h = a ∨ kAt ks h = b
 ·rw [if_pos ⟨hl,hk⟩,if_pos hk]
 ·rw [if_neg (fun q=>hk q.2),if_neg hk]
structure Ef where
 brk:Int
 half:Bool
 dawn:Int
 split:Bool
 sab:Int
 red:Int
 brief:Bool
 lon:Int
def Ef.zero:Ef:=⟨0,false,0,false,0,0,false,0⟩
def Ef.worth (x:Nat -> Int) (s:Ef) (q:Int × Int):Wo:=ofV x q.1 q.2 s.dawn s.half s.split
def Ef.fin (x:Nat -> Int) (ks:List Int) (s:Ef) (q:Int × Int):Ef :=
 let w:=s.worth x q
 {brk:=if w.brk then q.2 else s.brk
  half:=if w.daily then false else w.half
  dawn:=if w.daily then q.2 else s.dawn
  split:=if w.daily then false else s.split || w.part
  sab:=if w.weekly then q.2 else s.sab
  red:=if w.weekly then 0 else s.red + if w.red then 1 else 0
  brief:=if w.weekly then w.brief else s.brief
  lon:=if w.weekly then 0 else if w.daily then s.lon + (if x 4 < cntK ks 3 3 s.dawn q.2.toNat then 1 else 0) else s.lon }
def EF (x:Nat -> Int) (ks:List Int) (E:List (Int × Int)):Ef:=E.foldl (Ef.fin x ks) Ef.zero
theorem EF_snoc (x:Nat -> Int) (ks:List Int) (E:List (Int × Int)) (q:Int × Int):EF x ks (E ++ [q]) = (EF x ks E).fin x ks q:=by unfold EF; rw [List.foldl_append]; rfl
theorem worth_red (x:Nat -> Int) (s:Ef) (q:Int × Int):(s.worth x q).red = true -> (s.worth x q).weekly = false /\ (s.worth x q).daily = true:=by
 unfold Ef.worth ofV ofW;dsimp only;intro h;simp only [Bool.and_eq_true,Bool.not_eq_true'] at h;exact ⟨h.1.1.2,h.1.1.1⟩
theorem worth_daily {x:Nat -> Int} (hx:May x) (s:Ef) (q:Int × Int):((s.worth x q).daily = true -> (s.worth x q).brk = true) /\ ((s.worth x q).weekly = true -> (s.worth x q).daily = true):=by
 have:=may_ord hx;unfold Ef.worth ofV ofW;dsimp only;simp only [lastB,Bool.or_eq_true,decide_eq_true_eq];constructor
 ·intro h; left; omega
 ·intro h; omega
theorem EF_le {x:Nat -> Int} (ks:List Int):∀ (E:List (Int × Int)) (hi:Int),0 < hi -> Lk E hi -> (0 <= (EF x ks E).dawn /\ (EF x ks E).dawn < hi) /\ (0 <= (EF x ks E).sab /\ (EF x ks E).sab < hi) /\ (0 <= (EF x ks E).brk /\ (EF x ks E).brk < hi):=by
 intro E;refine snoc_ind16 (P:=fun E=>∀ (hi:Int),0 < hi -> Lk E hi -> (0 <= (EF x ks E).dawn /\ (EF x ks E).dawn < hi) /\ (0 <= (EF x ks E).sab /\ (EF x ks E).sab < hi) /\ (0 <= (EF x ks E).brk /\ (EF x ks E).brk < hi)) ?_ ?_ E
 ·intro hi h0 _; exact ⟨⟨Int.le_refl _,h0⟩,⟨Int.le_refl _,h0⟩,⟨Int.le_refl _,h0⟩⟩
 ·intro E q ih hi h0 h
  have hq:=h.each q (by simp);have hE:Lk E hi:=⟨fun p hp=>h.each p (by simp [hp]),(List.pairwise_append.1 h.ord).1⟩;have:=ih hi h0 hE;rw [EF_snoc];unfold Ef.fin;dsimp only;refine ⟨?_,?_,?_⟩
  ·split
   ·omega
   ·exact this.1
  ·split
   ·omega
   ·exact this.2.1
  ·split
   ·omega
   ·exact this.2.2
def wsV (L:Int) (i:Int):Int:=i - i % L
structure Rl (x:Nat -> Int) (ks:List Int) (i:Nat) (a:Au):Prop where
 now:a.m.now = (i:Int)
 lie:a.m.lie = ((eR ks i).2:Nat)
 p:a.p = (EF x ks (eR ks i).1).brk
 half:a.m.half = (EF x ks (eR ks i).1).half
 dawn:a.m.dawn = (EF x ks (eR ks i).1).dawn
 split:a.m.split = (EF x ks (eR ks i).1).split
 sab:a.m.sabbath = (EF x ks (eR ks i).1).sab
 red:a.m.reduces = (EF x ks (eR ks i).1).red
 brief:a.m.brief = (EF x ks (eR ks i).1).brief
 acc:a.m.acc = cntK ks 3 3 (EF x ks (eR ks i).1).brk i
 day:a.m.day = cntK ks 3 3 (EF x ks (eR ks i).1).dawn i
 lon:a.m.longers = (EF x ks (eR ks i).1).lon + if x 4 < a.m.day then 1 else 0
 week:a.m.week = if i = 0 then 0 else cntK ks 3 3 (wsV (x 18) ((i:Int) - 1)) i
 last:a.m.last = if i = 0 then 0 else cntK ks 3 3 (wsV (x 18) ((i:Int) - 1) - x 18) (wsV (x 18) ((i:Int) - 1)).toNat
 labour:a.m.labour = if i = 0 then 0 else cntK ks 3 2 (wsV (x 18) ((i:Int) - 1)) i
theorem Rl.zero {x:Nat -> Int} (ks:List Int) (h4:0 <= x 4):Rl x ks 0 Au.zero:=by
 constructor <;> first | rfl | skip
 show (0:Int) = 0 + if x 4 < 0 then 1 else 0
 rw [if_neg Zo];rfl
structure Ul (x:Nat -> Int) (ks:List Int) (i:Nat) (u:Mt) (s:Ef):Prop where
 now:u.now = (i:Int)
 lie:u.lie = 0
 half:u.half = s.half
 dawn:u.dawn = s.dawn
 split:u.split = s.split
 sab:u.sabbath = s.sab
 red:u.reduces = s.red
 brief:u.brief = s.brief
 acc:u.acc = cntK ks 3 3 s.brk i
 day:u.day = cntK ks 3 3 s.dawn i
 lon:u.longers = s.lon + if x 4 < u.day then 1 else 0
 week:u.week = cntK ks 3 3 (wsV (x 18) i) i
 last:u.last = cntK ks 3 3 (wsV (x 18) i - x 18) (wsV (x 18) i).toNat
 labour:u.labour = cntK ks 3 2 (wsV (x 18) i) i
theorem ws_facts {L:Int} (hL:1 <= L) {i:Int} (hi:0 < i):(i % L = 0 -> wsV L i = i /\ wsV L (i - 1) = i - L) /\ (¬ i % L = 0 -> wsV L i = wsV L (i - 1)) /\ 0 <= wsV L (i - 1) /\ wsV L (i - 1) <= i - 1:=by
 have h:=emod_next (p:=i) hL;have h0:=Int.emod_nonneg (i - 1) (show L ≠ 0 by omega);have h2:=Int.mul_ediv_add_emod (i - 1) L;have h3:0 <= (i - 1) / L:=Int.ediv_nonneg Zo Zo;have h4:0 <= L * ((i - 1) / L):=Int.mul_nonneg Zo h3;unfold wsV;refine ⟨fun hh=>?_,fun hh=>?_,by omega,by omega⟩
 ·omega
 ·omega
theorem wrap_rel {x:Nat -> Int} {ks:List Int} {i:Nat} {a:Au} (hL:1 <= x 18) (h:Rl x ks i a) :
  (wrapM x a.m).week = cntK ks 3 3 (wsV (x 18) i) i /\ (wrapM x a.m).last = cntK ks 3 3 (wsV (x 18) i - x 18) (wsV (x 18) i).toNat /\ (wrapM x a.m).labour = cntK ks 3 2 (wsV (x 18) i) i /\
   (wrapM x a.m) = { a.m with week:=(wrapM x a.m).week,last:=(wrapM x a.m).last,labour:=(wrapM x a.m).labour }:=by
 have hw:=h.week; have hl:=h.last; have hb:=h.labour; have hn:=h.now;have hlast:(wrapM x a.m) = { a.m with week:=(wrapM x a.m).week,last:=(wrapM x a.m).last,labour:=(wrapM x a.m).labour }:=by unfold wrapM; split <;> rfl
 suffices hs:(wrapM x a.m).week = cntK ks 3 3 (wsV (x 18) i) i /\ (wrapM x a.m).last = cntK ks 3 3 (wsV (x 18) i - x 18) (wsV (x 18) i).toNat /\ (wrapM x a.m).labour = cntK ks 3 2 (wsV (x 18) i) i from ⟨hs.1,hs.2.1,hs.2.2,hlast⟩
 clear hlast;by_cases h0:i = 0
 ·subst h0
  rw [if_pos rfl] at hw hl hb;have e:wrapM x a.m = a.m:=by unfold wrapM; rw [if_neg Zo]
  have ez:wsV (x 18) ((0:Nat):Int) = 0:=by unfold wsV; simp
  rw [e,ez,hw,hl,hb];exact ⟨rfl,rfl,rfl⟩
 ·rw [if_neg h0] at hw hl hb
  obtain ⟨f1,f2,f3,f4⟩:=ws_facts hL (i:=(i:Int)) Zo;by_cases hc:(i:Int) % x 18 = 0
  ·obtain ⟨g1,g2⟩:=f1 hc
   have e:wrapM x a.m = { a.m with last:=a.m.week,week:=0,labour:=0 }:=by unfold wrapM; rw [if_pos ⟨by omega,by rw [hn]; exact hc⟩]
   rw [e,g1];dsimp only;rw [cnt_none (Int.le_refl _),cnt_none (Int.le_refl _),hw,g2];exact ⟨rfl,by rw [Int.toNat_natCast],rfl⟩
  ·have g:=f2 hc
   have e:wrapM x a.m = a.m:=by unfold wrapM; rw [if_neg (fun q=>hc (by rw [hn] at q; exact q.2))]
   rw [e,g,hw,hl,hb];exact ⟨rfl,rfl,rfl⟩
def sUp (x:Nat -> Int) (ks:List Int) (i:Nat):Ef:=EF x ks (fullR (eR ks i).1 (eR ks i).2 i)
theorem up_rel {x:Nat -> Int} {ks:List Int} {i:Nat} {a:Au} {k:Int} (hx:May x) (hL:1 <= x 18) (h:Rl x ks i a) (hok:a.Ok i) (hk:¬ k = 0) :
  Ul x ks i (upR x (wrapM x a.m)) (sUp x ks i) /\ pauseV x a.m a.p k = (sUp x ks i).brk /\
   (0 < (eR ks i).2 -> endW x (wrapM x a.m) = (EF x ks (eR ks i).1).worth x ((i:Int) - ((eR ks i).2:Nat),(i:Int))):=by
 obtain ⟨w1,w2,w3,w4⟩:=wrap_rel hL h;have hd:=hok.lie;have hl:=h.lie;have hn:=h.now;have h4:=(may_time hx 4 Zo).1;have hEW:endW x (wrapM x a.m) = endW x a.m:=by rw [w4]; rfl
 have q1:=h.half; have q2:=h.dawn; have q3:=h.split; have q4:=h.sab; have q5:=h.red; have q6:=h.brief; have q7:=h.acc; have q8:=h.day; have q9:=h.lon; have q10:=h.p;clear h;unfold sUp fullR;generalize hE:(eR ks i).1 = E at *;generalize hr:(eR ks i).2 = r at *
 have hS:(0 < r -> endW x a.m = (EF x ks E).worth x ((i:Int) - (r:Nat),(i:Int))):=fun hr0=>by
  unfold endW Ef.worth;rw [hn,hl,q1,q3]
  have e:min a.m.dawn ((i:Int) - (r:Nat)) = (EF x ks E).dawn:=by
   rw [<- q2];exact Int.min_eq_left Zo
  rw [e]
 rw [hEW];by_cases hr0:0 < r
 ·rw [if_pos hr0,EF_snoc]
  have hw:=hS hr0;have wd:=worth_daily hx (EF x ks E) ((i:Int) - (r:Nat),(i:Int));have wr:=worth_red x (EF x ks E) ((i:Int) - (r:Nat),(i:Int));have hlt:0 < (wrapM x a.m).lie:=by rw [w4]; show 0 < a.m.lie; omega
  have hp:pauseV x a.m a.p k = if ((EF x ks E).worth x ((i:Int) - (r:Nat),(i:Int))).brk then (i:Int) else (EF x ks E).brk:=by
   unfold pauseV;rw [hw];by_cases hb:((EF x ks E).worth x ((i:Int) - (r:Nat),(i:Int))).brk = true
   ·rw [if_pos ⟨hk,by omega,hb⟩,if_pos hb,hn]
   ·rw [if_neg (fun q=>hb q.2.2),if_neg hb,q10]
  refine ⟨?_,?_,fun _=>hw⟩
  ·unfold upR
   rw [if_pos hlt,hEW,hw];unfold Ef.fin;dsimp only;generalize (EF x ks E).worth x ((i:Int) - (r:Nat),(i:Int)) = v at *;obtain ⟨v1,v2,v3,v4,v5,v6,v7⟩:=v;dsimp only at wd wr;rw [w4];generalize (wrapM x a.m).week = wk at *;generalize (wrapM x a.m).last = wl at *;generalize (wrapM x a.m).labour = wb at *;generalize EF x ks E = s at *;have c1:cntK ks 3 3 (i:Int) i = 0:=cnt_none (Int.le_refl _);unfold endM e3 e2 e1;dsimp only
   cases v6 with
   | true =>
    have hv4:=wd.2 rfl;subst hv4;have hv1:=wd.1 rfl;subst hv1
    cases v5 with
    | true=>exact absurd (wr rfl).1 (by simp)
    | false =>
     constructor <;> simp_all
   | false =>
    cases v4 with
    | true =>
     have hv1:=wd.1 rfl;subst hv1
     cases v5 with
     | true =>
      constructor <;> simp_all
      rw [if_neg (show ¬ x 4 < 0 by omega),Int.add_zero]
     | false =>
      constructor <;> simp_all
      rw [if_neg (show ¬ x 4 < 0 by omega),Int.add_zero]
    | false =>
     cases v5 with
     | true=>exact absurd (wr rfl).2 (by simp)
     | false =>
      cases v1 with
      | true=>constructor <;> simp_all
      | false=>constructor <;> simp_all
  ·rw [hp]
   unfold Ef.fin;dsimp only
 ·rw [if_neg hr0]
  have hr1:r = 0:=by omega
  have hu:upR x (wrapM x a.m) = wrapM x a.m:=(upR_none (by rw [wrap_lie,hl]; omega)).1;refine ⟨?_,?_,fun q=>absurd q hr0⟩
  ·rw [hu]
   refine ⟨?_,?_,?_,?_,?_,?_,?_,?_,?_,?_,?_,w1,w2,w3⟩
   ·rw [w4]; exact hn
   ·rw [w4]; show a.m.lie = 0; omega
   ·rw [w4]; exact q1
   ·rw [w4]; exact q2
   ·rw [w4]; exact q3
   ·rw [w4]; exact q4
   ·rw [w4]; exact q5
   ·rw [w4]; exact q6
   ·rw [w4]; exact q7
   ·rw [w4]; exact q8
   ·rw [w4]; exact q9
  ·unfold pauseV
   rw [if_neg (fun q=>by have:=q.2.1; omega),q10]
theorem step_rel {x:Nat -> Int} {ks:List Int} {i:Nat} {a:Au} (hx:May x) (hL:1 <= x 18) (h:Rl x ks i a) (hok:a.Ok i):Rl x ks (i + 1) (a.step x (kAt ks i)):=by
 have hi1:((i + 1:Nat):Int) - 1 = (i:Int):=by omega
 by_cases hk:kAt ks i = 0
 ·obtain ⟨w1,w2,w3,w4⟩:=wrap_rel hL h
  have he:=eR_rest hk;rw [hk]
  have hst:(a.step x 0).m = { a.m with week:=(wrapM x a.m).week,last:=(wrapM x a.m).last,labour:=(wrapM x a.m).labour,lie:=a.m.lie + 1,now:=a.m.now + 1 }:=by
   show stepM x a.m 0 = _
   unfold stepM;rw [if_pos rfl];dsimp only;rw [w4]
  have hpp:(a.step x 0).p = a.p:=by
   show pauseV x a.m a.p 0 = _
   unfold pauseV;rw [if_neg (fun q=>q.1 rfl)]
  have hne:∀ c lo,cntK ks 3 c lo (i + 1) = cntK ks 3 c lo i + if lo <= (i:Int) /\ c = 0 then 1 else 0:=fun c lo=>by
   rw [cnt_succ,hk];congr 1;by_cases hc:c = 0
   ·subst hc; simp
   ·have:¬ ((0:Int) = 3 ∨ (0:Int) = c):=by omega
    rw [if_neg (fun q=>this q.2),if_neg (fun q=>hc q.2)]
  have n3:∀ lo,cntK ks 3 3 lo (i + 1) = cntK ks 3 3 lo i:=fun lo=>by rw [hne,if_neg Zo,Int.add_zero]
  have n2:∀ lo,cntK ks 3 2 lo (i + 1) = cntK ks 3 2 lo i:=fun lo=>by rw [hne,if_neg Zo,Int.add_zero]
  constructor
  ·rw [hst]; show a.m.now + 1 = _; rw [h.now]; omega
  ·rw [hst,he]; show a.m.lie + 1 = _; rw [h.lie]; dsimp only; omega
  ·rw [hpp,he]; exact h.p
  ·rw [hst,he]; exact h.half
  ·rw [hst,he]; exact h.dawn
  ·rw [hst,he]; exact h.split
  ·rw [hst,he]; exact h.sab
  ·rw [hst,he]; exact h.red
  ·rw [hst,he]; exact h.brief
  ·rw [hst,he,n3]; exact h.acc
  ·rw [hst,he,n3]; exact h.day
  ·rw [hst,he]; exact h.lon
  ·rw [hst,if_neg Zo,hi1,n3]; exact w1
  ·rw [hst,if_neg Zo,hi1]; exact w2
  ·rw [hst,if_neg Zo,hi1,n2]; exact w3
 ·obtain ⟨u,up,-⟩:=up_rel hx hL h hok hk
  have he:=eR_awake hk;have h4:=(may_time hx 4 Zo).1;have hE:EF x ks (eR ks (i + 1)).1 = sUp x ks i:=by rw [he]; rfl
  have hs:=full_ok ks i;have hsl:=EF_le (x:=x) ks _ _ Zo hs;have hsl:(0 <= (sUp x ks i).dawn /\ (sUp x ks i).dawn < (i:Int) + 1) /\ (0 <= (sUp x ks i).sab /\ (sUp x ks i).sab < (i:Int) + 1) /\ (0 <= (sUp x ks i).brk /\ (sUp x ks i).brk < (i:Int) + 1):=hsl
  have hm:(a.step x (kAt ks i)).m = { upM x (wrapM x a.m) (kAt ks i) with now:=(upM x (wrapM x a.m) (kAt ks i)).now + 1 }:=by
   show stepM x a.m (kAt ks i) = _
   unfold stepM;rw [if_neg hk]
  have hp:(a.step x (kAt ks i)).p = (sUp x ks i).brk:=up;have hr2:(eR ks (i + 1)).2 = 0:=by rw [he]
  have wsl:wsV (x 18) i <= (i:Int):=by
   have:=Int.emod_nonneg (i:Int) (show x 18 ≠ 0 by omega);unfold wsV; omega
  have wsn:0 <= wsV (x 18) i:=(mod_le Zo hL).1;have m1:∀ lo,lo <= (i:Int) -> cntK ks 3 3 lo (i + 1) = cntK ks 3 3 lo i + if kAt ks i = 3 then 1 else 0:=fun lo hl=>by rw [cnt_next hl]; simp
  have m2:∀ lo,lo <= (i:Int) -> cntK ks 3 2 lo (i + 1) = cntK ks 3 2 lo i + if kAt ks i = 3 ∨ kAt ks i = 2 then 1 else 0:=fun lo hl=>cnt_next hl
  have a1:=m1 _ (show (sUp x ks i).brk <= (i:Int) by omega);have a2:=m1 _ (show (sUp x ks i).dawn <= (i:Int) by omega);have a3:=m1 _ wsl;have a4:=m2 _ wsl;obtain ⟨u1,u2,u3,u4,u5,u6,u7,u8,u9,u10,u11,u12,u13,u14⟩:=u;unfold upM at hm;generalize upR x (wrapM x a.m) = r at *;generalize sUp x ks i = s at *;generalize kAt ks i = k at *
  have hmm:(a.step x k).m = { r with now:=(i:Int) + 1,acc:=r.acc + (if k = 3 then 1 else 0),day:=r.day + (if k = 3 then 1 else 0),longers:=r.longers + (if k = 3 /\ r.day + 1 = x 4 + 1 then 1 else 0),week:=r.week + (if k = 3 then 1 else 0),labour:=r.labour + (if k = 3 ∨ k = 2 then 1 else 0) }:=by
   rw [hm];unfold driveM d2 d1 workM;by_cases h3:k = 3
   ·subst h3
    simp only [if_true,true_or,true_and];by_cases hd:r.day + 1 = x 4 + 1
    ·simp only [hd,if_true]; rw [u1]
    ·simp only [hd,if_false,Int.add_zero]; rw [u1]
   ·by_cases h2:k = 2
    ·subst h2
     simp only [if_false,or_true,if_true,false_and,Int.add_zero,show ¬ ((2:Int) = 3) by decide]; rw [u1]
    ·simp only [h3,h2,if_false,or_self,false_and,Int.add_zero]; rw [u1]
  constructor
  ·rw [hmm]; show (i:Int) + 1 = _; omega
  ·rw [hmm,hr2]; exact u2
  ·rw [hp,hE]
  ·rw [hmm,hE]; exact u3
  ·rw [hmm,hE]; exact u4
  ·rw [hmm,hE]; exact u5
  ·rw [hmm,hE]; exact u6
  ·rw [hmm,hE]; exact u7
  ·rw [hmm,hE]; exact u8
  ·rw [hmm,hE,a1]; show r.acc + _ = _; rw [u9]
  ·rw [hmm,hE,a2]; show r.day + _ = _; rw [u10]
  ·rw [hmm,hE]
   show r.longers + _ = s.lon + if x 4 < r.day + _ then 1 else 0
   rw [u11];by_cases h3:k = 3
   ·simp only [h3,if_true,true_and]
    split <;> split <;> split <;> omega
   ·simp only [h3,if_false,false_and,Int.add_zero]
  ·rw [hmm,if_neg (show ¬ (i + 1 = 0) by omega),hi1,a3]; show r.week + _ = _; rw [u12]
  ·rw [hmm,if_neg (show ¬ (i + 1 = 0) by omega),hi1]; exact u13
  ·rw [hmm,if_neg (show ¬ (i + 1 = 0) by omega),hi1,a4]; show r.labour + _ = _; rw [u14]
theorem run_rel {x:Nat -> Int} {ks:List Int} (hx:May x) (hL:1 <= x 18) (hn:ks.length <= 40320):∀ i,i <= ks.length -> Rl x ks i (Au.zero.run x (ks.take i)) /\ (Au.zero.run x (ks.take i)).Ok i
 | 0,_=>⟨Rl.zero ks (may_time hx 4 Zo).1,Au.ok_zero⟩
 | i + 1,h=>by
  obtain ⟨h1,h2⟩:=run_rel hx hL hn i Zo
  have e:Au.zero.run x (ks.take (i + 1)) = (Au.zero.run x (ks.take i)).step x (kAt ks i):=by
   rw [List.take_succ_eq_append_getElem Zo,Au.run_snoc];congr 1;unfold kAt;simp [List.getD,(by omega:i < ks.length)]
  rw [e];exact ⟨step_rel hx hL h1 h2,Au.ok_step _ hL h2 Zo⟩
end Go.Proofs.YtiamnbddbmgffaaGreatDoor
