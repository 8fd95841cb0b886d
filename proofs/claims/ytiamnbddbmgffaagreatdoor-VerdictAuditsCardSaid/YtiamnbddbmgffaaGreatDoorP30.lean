/- Texts of the proofs of VerdictAudits, VerdictAll, VerdictRising, pressed: TrailMath, TrailMath2, TrailKeep, TrailLeaf, TrailNote, TrailRun. Conditions: as each theorem says. -/
import Derived.Test.YtiamnbddbmgffaaGreatDoorRows
import Derived.Test.YtiamnbddbmgffaaGreatDoorP27
namespace Go.Proofs.YtiamnbddbmgffaaGreatDoor
set_option linter.unusedVariables false
def runS (l:List Tk):List Int -> Int -> Pt × Fs -> Pt × Fs
 | [],_,st=>st
 | k :: ks,m,st=>runS l ks (m + 1) (minT l k m st)
theorem runS_append (l:List Tk):∀ (a b:List Int) (m:Int) (st:Pt × Fs),runS l (a ++ b) m st = runS l b (m + a.length) (runS l a m st)
 | [],b,m,st=>by simp [runS]
 | k :: a,b,m,st=>by
  show runS l (a ++ b) (m + 1) (minT l k m st) = runS l b (m + (k :: a).length) (runS l a (m + 1) (minT l k m st))
  rw [runS_append l a b];congr 1;simp; omega
theorem runS_rep (l:List Tk) (k:Int):∀ (n:Nat) (m:Int) (st:Pt × Fs),runS l (List.replicate n k) m st = runK l k n m st
 | 0,_,_=>rfl
 | n + 1,m,st=>by
  rw [List.replicate_succ];exact runS_rep l k n (m + 1) (minT l k m st)
theorem runS_fits {l:List Tk} (ok:∀ t ∈ l,TkOk t):∀ (ks:List Int) (m:Int) (st:Pt × Fs),Fits l st.1 -> Fits l (runS l ks m st).1
 | [],_,_,h=>h
 | k :: ks,m,st,h=>runS_fits ok ks (m + 1) (minT l k m st) (step_fits ok h k)
def combF (F f:Fs):Fs:=(if F.1 < 0 then f.1 else F.1,if F.2.1 < 0 then f.2.1 else F.2.1,if F.2.2.1 < 0 then f.2.2.1 else F.2.2.1,if F.2.2.2 < 0 then f.2.2.2 else F.2.2.2)
def none4:Fs:=(-1,-1,-1,-1)
theorem note_comb (F f:Int) (b:Bool) (m:Int):noteF (if F < 0 then f else F) b m = if F < 0 then noteF f b m else F:=by
 unfold noteF
 repeat' split
 all_goals first | rfl | omega
theorem min_comb (l:List Tk) (k m:Int) (s:Pt) (F f:Fs):minT l k m (s,combF F f) = ((minT l k m (s,f)).1,combF F (minT l k m (s,f)).2):=by
 unfold minT combF;simp only [note_comb]
theorem runK_comb (l:List Tk) (k:Int):∀ (n:Nat) (m:Int) (s:Pt) (F f:Fs),runK l k n m (s,combF F f) = ((runK l k n m (s,f)).1,combF F (runK l k n m (s,f)).2)
 | 0,_,_,_,_=>rfl
 | n + 1,m,s,F,f=>by
  unfold runK;rw [min_comb];exact runK_comb l k n (m + 1) _ F _
def Fok (F:Fs):Prop:=-1 <= F.1 /\ -1 <= F.2.1 /\ -1 <= F.2.2.1 /\ -1 <= F.2.2.2
theorem combF_none {F:Fs} (h:Fok F):combF F none4 = F:=by
 obtain ⟨a,b,c,d⟩:=F;unfold Fok at h;unfold combF none4;simp only at h ⊢;simp only [Prod.mk.injEq];refine ⟨?_,?_,?_,?_⟩ <;> (split <;> omega)
theorem note_ok {f m:Int} (b:Bool) (h:-1 <= f) (hm:0 <= m):-1 <= noteF f b m:=by
 unfold noteF; split <;> omega
theorem min_ok {l:List Tk} {k m:Int} {s:Pt} {F:Fs} (h:Fok F) (hm:0 <= m):Fok (minT l k m (s,F)).2:=by
 obtain ⟨h0,h1,h2,h3⟩:=h;exact ⟨note_ok _ h0 hm,note_ok _ h1 hm,note_ok _ h2 hm,note_ok _ h3 hm⟩
theorem runS_ok {l:List Tk}:∀ (ks:List Int) {m:Int} {st:Pt × Fs},Fok st.2 -> 0 <= m -> Fok (runS l ks m st).2
 | [],_,_,h,_=>h
 | k :: ks,m,(s,F),h,hm=>runS_ok ks (min_ok h hm) Zo
theorem fok_none:Fok none4:=by unfold Fok none4; decide
def Fhi (m:Int) (F:Fs):Prop:=F.1 < m /\ F.2.1 < m /\ F.2.2.1 < m /\ F.2.2.2 < m
theorem note_hi {f m:Int} (b:Bool) (h:f < m):noteF f b m < m + 1:=by
 unfold noteF; split <;> omega
theorem runS_hi {l:List Tk}:∀ (ks:List Int) {m:Int} {st:Pt × Fs},Fhi m st.2 -> Fhi (m + ks.length) (runS l ks m st).2
 | [],m,_,h=>by simpa [runS] using h
 | k :: ks,m,(s,F),h=>by
  have:=runS_hi (l:=l) ks (m:=m + 1) (st:=minT l k m (s,F)) ⟨note_hi _ h.1,note_hi _ h.2.1,note_hi _ h.2.2.1,note_hi _ h.2.2.2⟩;have e:m + ((k :: ks).length:Int) = m + 1 + ks.length:=by simp; omega
  rw [e]; exact this
def Pc (l:List Tk) (s:Pt) (k:Int) (n:Nat):Prop :=
 0 < n /\ ((k = 3 /\ CanD l s /\ (n:Int) <= (tk l s.1).1 - s.2.1) ∨ (k = 2 /\ CanW l s /\ (n:Int) <= (tk l s.1).2.1 - s.2.2) ∨ ((k = 3 -> ¬ CanD l s) /\ (k = 2 -> ¬ CanW l s)))
def farV (l:List Tk) (s:Pt) (k:Int):Int :=
 if k = 3 /\ CanD l s then (tk l s.1).1 - s.2.1 else if k = 2 /\ CanW l s then (tk l s.1).2.1 - s.2.2 else 40320
theorem far_pos {l:List Tk} {s:Pt} {k:Int}:0 < farV l s k:=by
 unfold farV CanD CanW
 repeat' split
 all_goals omega
theorem far_hi {l:List Tk} (ok:∀ t ∈ l,TkOk t) {s:Pt} (h:Fits l s) {k:Int}:farV l s k <= 40320:=by
 obtain ⟨h1,h2,h3,h4⟩:=h;unfold farV CanD CanW
 repeat' split
 ·rename_i c
  have:=h4 c.2.1;have t:=ok _ (tk_mem h1 c.2.1);unfold TkOk at t;omega
 ·rename_i c
  have:=h4 c.2.1;have t:=ok _ (tk_mem h1 c.2.1);unfold TkOk at t;omega
 ·omega
theorem far_pc {l:List Tk} {s:Pt} {k:Int} {n:Nat} (h0:0 < n) (h:(n:Int) <= farV l s k):Pc l s k n:=by
 unfold farV at h;unfold Pc;refine ⟨h0,?_⟩;by_cases c0:k = 3 /\ CanD l s
 ·rw [if_pos c0] at h; exact .inl ⟨c0.1,c0.2,h⟩
 ·rw [if_neg c0] at h
  by_cases c1:k = 2 /\ CanW l s
  ·rw [if_pos c1] at h; exact .inr (.inl ⟨c1.1,c1.2,h⟩)
  ·exact .inr (.inr ⟨fun e c=>c0 ⟨e,c⟩,fun e c=>c1 ⟨e,c⟩⟩)
def nearN (l:List Tk):Nat -> Nat -> Nat
 | 0,e=>e
 | f + 1,e=>if e < l.length /\ (l.getD e tz).1 = 0 /\ (l.getD e tz).2.1 = 0 then nearN l f (e + 1) else e
theorem tk_cut {l:List Tk} {a e:Nat} {i:Nat} (hi:a + i < e):tk ((l.take e).drop a) (i:Int) = tk l ((a + i:Nat):Int):=by
 unfold tk;simp only [Int.toNat_natCast];rw [List.getD_eq_getElem?_getD,List.getD_eq_getElem?_getD,List.getElem?_drop,List.getElem?_take,if_pos hi]
theorem cut_len {l:List Tk} {a e:Nat} (he:e <= l.length):((l.take e).drop a).length = e - a:=by
 rw [List.length_drop,List.length_take]; omega
def NearE (l:List Tk) (a e:Nat):Prop :=
 e <= l.length /\ (a < l.length -> a < e) /\ a <= e /\ (∀ j,a < j -> j < e -> (tk l (j:Int)).1 = 0 /\ (tk l (j:Int)).2.1 = 0) /\ (e < l.length -> ¬ ((tk l (e:Int)).1 = 0 /\ (tk l (e:Int)).2.1 = 0))
def upP (a:Nat) (s:Pt):Pt:=(s.1 + a,s.2.1,s.2.2)
theorem pastN_not {l:List Tk} {s:Pt} (h:¬ Full l s) (g:Nat):pastN l g s = s:=by
 cases g with
 | zero=>rfl
 | succ g=>unfold pastN; rw [if_neg h]
theorem full_cut {l:List Tk} {a e:Nat} (h:NearE l a e) {i:Nat} {x y:Int} (hi:a + i < e):Full ((l.take e).drop a) ((i:Int),x,y) ↔ Full l (((a + i:Nat):Int),x,y):=by
 unfold Full;rw [tk_cut hi,cut_len h.1];simp only;have:=h.1;constructor
 ·rintro ⟨_,h2,h3⟩; exact ⟨by omega,h2,h3⟩
 ·rintro ⟨_,h2,h3⟩; exact ⟨by omega,h2,h3⟩
theorem pastN_cut {l:List Tk} {a e:Nat} (h:NearE l a e):∀ (f g:Nat) (i:Nat) (x y:Int),a + i <= e -> e - (a + i) <= f -> l.length - (a + i) <= g -> (a + i = e -> x = 0 /\ y = 0) ->
  upP a (pastN ((l.take e).drop a) f ((i:Int),x,y)) = pastN l g (((a + i:Nat):Int),x,y):=by
 intro f
 induction f with
 | zero =>
  intro g i x y h1 h2 h3 hz;have he:a + i = e:=by omega
  obtain ⟨rfl,rfl⟩:=hz he
  have hnf:¬ Full l (((a + i:Nat):Int),0,0):=by
   intro k;rw [he] at k;have h0:=k.1;simp only at h0;exact h.2.2.2.2 Zo ⟨k.2.1.symm,k.2.2.symm⟩
  rw [pastN_not hnf]
  show upP a ((i:Int),0,0) = _
  unfold upP;ext <;> simp <;> omega
 | succ f ih =>
  intro g i x y h1 h2 h3 hz;by_cases he:a + i = e
  ·obtain ⟨rfl,rfl⟩:=hz he
   have hnf:¬ Full l (((a + i:Nat):Int),0,0):=by
    intro k;rw [he] at k;have h0:=k.1;simp only at h0;exact h.2.2.2.2 Zo ⟨k.2.1.symm,k.2.2.symm⟩
   have hnc:¬ Full ((l.take e).drop a) ((i:Int),0,0):=by
    intro k;have h0:=k.1;rw [cut_len h.1] at h0;simp only at h0;omega
   rw [pastN_not hnc,pastN_not hnf];unfold upP;ext <;> simp <;> omega
  ·have hi:a + i < e:=by omega
   have hl:=h.1;obtain ⟨g,rfl⟩:∃ g',g = g' + 1:=⟨g - 1,by omega⟩;by_cases hf:Full l (((a + i:Nat):Int),x,y)
   ·have hc:=(full_cut h hi).2 hf
    conv=>lhs; unfold pastN
    conv=>rhs; unfold pastN
    rw [if_pos hf,if_pos hc];have:=ih g (i + 1) 0 0 Zo Zo Zo (fun _=>⟨rfl,rfl⟩);have e1:(((i + 1:Nat):Int),(0:Int),(0:Int)) = ((i:Int) + 1,0,0):=by simp
    have e2:(((a + (i + 1):Nat):Int),(0:Int),(0:Int)) = (((a + i:Nat):Int) + 1,0,0):=by
     congr 1
    rw [e1,e2] at this;exact this
   ·have hc:¬ Full ((l.take e).drop a) ((i:Int),x,y):=fun c=>hf ((full_cut h hi).1 c)
    conv=>lhs; unfold pastN
    conv=>rhs; unfold pastN
    rw [if_neg hf,if_neg hc];unfold upP;ext <;> simp <;> omega
theorem pastT_cut {l:List Tk} {a e:Nat} (h:NearE l a e) {i:Nat} {x y:Int} (hi:a + i <= e) (hz:a + i = e -> x = 0 /\ y = 0) :
  upP a (pastT ((l.take e).drop a) ((i:Int),x,y)) = pastT l (((a + i:Nat):Int),x,y):=by
 unfold pastT;have:=h.1;rw [cut_len h.1];exact pastN_cut h _ _ i x y hi (by simp only; omega) (by simp only; omega) hz
def pcV (l:List Tk) (s:Pt) (k:Int) (n:Nat) (m:Int):Pt × Fs :=
 if k = 3 /\ CanD l s then (pastT l (s.1,s.2.1 + n,s.2.2),-1,-1,-1,-1)
 else if k = 2 /\ CanW l s then (pastT l (s.1,s.2.1,s.2.2 + n),-1,-1,noteF (-1) (decide (s.2.2 = 0 /\ hasL (tk l s.1).2.2 m = false)) m,-1)
 else (s,noteF (-1) (decide (k = 3)) m,noteF (-1) (decide (k = 2)) m,-1,noteF (-1) (decide (k ≠ 2 /\ 0 < s.2.2)) m)
theorem note_one {m:Int}:noteF (-1) true m = m:=by unfold noteF; simp
theorem pc_run {l:List Tk} (ok:∀ t ∈ l,TkOk t) {s:Pt} (h:Fits l s) {k:Int} {n:Nat} (hp:Pc l s k n) {m:Int} (hm:0 <= m):runK l k n m (s,none4) = pcV l s k n m:=by
 obtain ⟨h0,hc⟩:=hp;obtain ⟨j,rfl⟩:∃ j,n = j + 1:=⟨n - 1,by omega⟩;unfold none4 pcV
 rcases hc with ⟨rfl,hd,hn⟩ | ⟨rfl,hw,hn⟩ | ⟨hd,hw⟩
 ·rw [if_pos ⟨rfl,hd⟩,runK_drive ok j h hd m _ _ _ _ Zo]
  simp
 ·rw [if_neg (fun c=>absurd c.1 Zd),if_pos ⟨rfl,hw⟩,runK_work ok j h hw m _ _ _ _ Zo]
  simp
 ·rw [if_neg (fun c=>hd c.1 c.2),if_neg (fun c=>hw c.1 c.2)]
  by_cases k2:k = 2
  ·subst k2
   rw [runK_nowork h (hw rfl) hm j,note_one];simp [noteF]
  ·have e3:b3 s k = decide (0 < s.2.2):=by unfold b3; simp [k2]
   have pre:=runK_pre l k j m s (-1) (-1) (-1) (-1);rw [<- pre,e3];have h3:0 < s.2.2 -> 0 <= noteF (-1) (decide (0 < s.2.2)) m:=fun c=>by rw [decide_eq_true c]; exact note_set hm
   have e4:decide (k ≠ 2 /\ 0 < s.2.2) = decide (0 < s.2.2):=by simp [k2]
   have e5:decide (k = 2) = false:=decide_eq_false k2;rw [e4,e5,note_no];by_cases k3:k = 3
   ·subst k3
    rw [runK_nodrive h (hd rfl) h3 hm j];simp
   ·rw [runK_rest h k3 k2 h3 (j + 1) m,decide_eq_false k3,note_no]
def cutK (l:List Tk) (a e:Nat):List Tk:=(l.take e).drop a
theorem cut_fits {l:List Tk} {a e:Nat} (he:NearE l a e) {x y:Int} (h:Fits l ((a:Int),x,y)):Fits (cutK l a e) (0,x,y):=by
 obtain ⟨h1,h2,h3,h4⟩:=h;obtain ⟨e1,e2,e3,e4,e5⟩:=he;simp only at h1 h2 h3 h4;refine ⟨Int.le_refl _,by simp,fun c=>?_,fun c=>?_⟩
 ·simp only at c
  unfold cutK at c;rw [cut_len e1] at c;by_cases ha:a < l.length
  ·have:=e2 ha; omega
  ·exact h3 Zo
 ·simp only at c ⊢
  unfold cutK at c ⊢;rw [cut_len e1] at c;have ha:a < l.length:=by omega
  have ek:tk ((l.take e).drop a) 0 = tk l (a:Int):=tk_cut (i:=0) Zo;rw [ek];exact h4 Zo
theorem cut_can {l:List Tk} {a e:Nat} (he:NearE l a e) {x y:Int}:(CanD (cutK l a e) (0,x,y) ↔ CanD l ((a:Int),x,y)) /\ (CanW (cutK l a e) (0,x,y) ↔ CanW l ((a:Int),x,y)) /\
  (a < l.length -> tk (cutK l a e) 0 = tk l (a:Int)):=by
 obtain ⟨e1,e2,e3,e4,e5⟩:=he;have hk:a < l.length -> tk (cutK l a e) 0 = tk l (a:Int):=fun c=>tk_cut (i:=0) (by have:=e2 c; omega)
 unfold CanD CanW;simp only
 have hl:((0:Int) < ((cutK l a e).length:Int)) ↔ (a:Int) < (l.length:Int):=by
  unfold cutK;rw [cut_len e1];constructor
  ·intro c; omega
  ·intro c; have:=e2 Zo; omega
 refine ⟨⟨fun c=>?_,fun c=>?_⟩,⟨fun c=>?_,fun c=>?_⟩,hk⟩
 ·have h1:=hl.1 c.1
  rw [<- hk Zo]; exact ⟨h1,c.2⟩
 ·rw [hk Zo]; exact ⟨hl.2 c.1,c.2⟩
 ·have h1:=hl.1 c.1
  rw [<- hk Zo]; exact ⟨h1,c.2⟩
 ·rw [hk Zo]; exact ⟨hl.2 c.1,c.2⟩
theorem pc_cut {l:List Tk} {a e:Nat} (he:NearE l a e) {x y:Int} {k:Int} {n:Nat}:Pc (cutK l a e) (0,x,y) k n ↔ Pc l ((a:Int),x,y) k n:=by
 obtain ⟨c1,c2,c3⟩:=cut_can he (x:=x) (y:=y);unfold Pc;rw [c1,c2];simp only;constructor
 ·rintro ⟨h0,h⟩
  refine ⟨h0,?_⟩
  rcases h with ⟨p,q,r⟩ | ⟨p,q,r⟩ | h
  ·rw [c3 (by have:=q.1; simp only at this; omega)] at r; exact .inl ⟨p,q,r⟩
  ·rw [c3 (by have:=q.1; simp only at this; omega)] at r; exact .inr (.inl ⟨p,q,r⟩)
  ·exact .inr (.inr h)
 ·rintro ⟨h0,h⟩
  refine ⟨h0,?_⟩
  rcases h with ⟨p,q,r⟩ | ⟨p,q,r⟩ | h
  ·rw [<- c3 (by have:=q.1; simp only at this; omega)] at r; exact .inl ⟨p,q,r⟩
  ·rw [<- c3 (by have:=q.1; simp only at this; omega)] at r; exact .inr (.inl ⟨p,q,r⟩)
  ·exact .inr (.inr h)
theorem cut_piece {l:List Tk} {a e:Nat} (he:NearE l a e) {x y:Int} {k:Int} {n:Nat} {m:Int} :
  (upP a (pcV (cutK l a e) (0,x,y) k n m).1,(pcV (cutK l a e) (0,x,y) k n m).2) = pcV l ((a:Int),x,y) k n m:=by
 obtain ⟨c1,c2,c3⟩:=cut_can he (x:=x) (y:=y)
 have hp:∀ x y:Int,a < l.length -> upP a (pastT (cutK l a e) (0,x,y)) = pastT l ((a:Int),x,y):=fun x y c=>by
  have:=pastT_cut he (i:=0) (x:=x) (y:=y) (by have:=he.2.1 c; omega) (fun q=>by have:=he.2.1 c; omega);simpa [cutK] using this
 unfold pcV;simp only;by_cases d:k = 3 /\ CanD l ((a:Int),x,y)
 ·rw [if_pos d,if_pos ⟨d.1,c1.2 d.2⟩]
  simp only;rw [hp _ _ (by have:=d.2.1; simp only at this; omega)]
 ·rw [if_neg d,if_neg (fun c=>d ⟨c.1,c1.1 c.2⟩)]
  by_cases w:k = 2 /\ CanW l ((a:Int),x,y)
  ·have ha:a < l.length:=by have:=w.2.1; simp only at this; omega
   rw [if_pos w,if_pos ⟨w.1,c2.2 w.2⟩];simp only;rw [hp _ _ ha,c3 ha]
  ·rw [if_neg w,if_neg (fun c=>w ⟨c.1,c2.1 c.2⟩)]
   unfold upP;simp
theorem all_zero:∀ {l:List Tk},firstT l = 0 -> ∀ t ∈ l,taskV t = 0
 | t :: l,h,u,hu=>by
  unfold firstT at h;by_cases h0:taskV t = 0
  ·rw [if_pos h0] at h
   rcases List.mem_cons.1 hu with rfl | hu
   ·exact h0
   ·exact all_zero h u hu
  ·rw [if_neg h0] at h; exact absurd h h0
theorem zero_all:∀ {l:List Tk},(∀ t ∈ l,taskV t = 0) -> firstT l = 0
 | [],_=>rfl
 | t :: l,h=>by
  unfold firstT;rw [if_pos (h t (List.mem_cons_self ..))];exact zero_all fun u hu=>h u (List.mem_cons_of_mem _ hu)
theorem cut_mem {l:List Tk} {a e:Nat} {t:Tk} (h:t ∈ cutK l a e):t ∈ l:=List.mem_of_mem_take (List.mem_of_mem_drop h)
theorem cut_check {l:List Tk} (h:checkT l = 0) {a e:Nat}:checkT (cutK l a e) = 0:=by
 unfold checkT at h ⊢;by_cases h0:2001 < l.length
 ·rw [if_pos h0] at h; cases h
 ·rw [if_neg h0] at h
  have hl:(cutK l a e).length <= l.length:=by unfold cutK; rw [List.length_drop,List.length_take]; omega
  rw [if_neg Zo];exact zero_all fun t ht=>all_zero h t (cut_mem ht)
theorem cut_over {l:List Tk} (ck:checkT l = 0) {a e:Nat} (he:NearE l a e) {x y:Int} (h:Fits l ((a:Int),x,y)) {k:Int} {n:Nat} {m b:Int} (hp:Pc l ((a:Int),x,y) k n)
  (hal:aloneV k m b = 0) (hb:b = m + n) {s':Pt} {f:Fs} (hr:runK l k n m (((a:Int),x,y),none4) = (s',f)) :
  ∃ q:Pt,overK (cutK l a e) (0,x,y) k m b = (q,f,0) /\ upP a q = s':=by
 obtain ⟨ok,_⟩:=checkt_zero ck;have cc:=cut_check ck (a:=a) (e:=e);obtain ⟨okc,_⟩:=checkt_zero cc;have fc:=cut_fits he h;have hm:0 <= m:=by have:=(alone_zero.1 hal).2; omega
 rw [pc_run ok h hp hm,<- cut_piece he] at hr;injection hr with h1 h2
 have hn:(b - m).toNat = n:=by omega
 refine ⟨(pcV (cutK l a e) (0,x,y) k n m).1,?_,h1⟩;refine over_ok (spot_yes cc fc) hal ?_;rw [hn];have:=pc_run okc fc ((pc_cut he).2 hp) hm;unfold none4 at this;rw [this,<- h2]
theorem over_fits {l:List Tk} (ck:checkT l = 0) {a e:Nat} (he:NearE l a e) {x y:Int} (h:Fits l ((a:Int),x,y)) {k m b:Int} {q:Pt} {f:Fs} (hq:overK (cutK l a e) (0,x,y) k m b = (q,f,0)):0 <= q.1 /\ q.1 <= 2001:=by
 have cc:=cut_check ck (a:=a) (e:=e);obtain ⟨okc,hl⟩:=checkt_zero cc;have fc:=cut_fits he h;have hs:=spot_yes cc fc;unfold overK at hq;rw [if_pos hs] at hq;by_cases hal:aloneV k m b = 0
 ·rw [if_pos hal] at hq
  have e1:(runK (cutK l a e) k (b - m).toNat m ((0,x,y),-1,-1,-1,-1)).1 = q:=by injection hq
  have:=runK_fits okc k (b - m).toNat m ((0,x,y),-1,-1,-1,-1) fc;rw [e1] at this;exact ⟨this.1,by have:=this.2.1; omega⟩
 ·rw [if_neg hal] at hq
  have e1:aloneV k m b = 0:=by injection hq with _ hq; injection hq
  exact absurd e1 hal
end Go.Proofs.YtiamnbddbmgffaaGreatDoor
namespace Go.Proofs.YtiamnbddbmgffaaGreatDoor
open Go.RowKit
set_option linter.unusedVariables false
def Held (t:TypeId):Prop:=t = 27 ∨ t = 50 ∨ t = 102
structure KeepT (n:Nat) (W W':World):Prop where
 bel:Below n W W'
 box:∀ g t cs,Bx W g t cs -> Held t -> Bx W' g t cs
theorem KeepT.refl (n:Nat) (W:World):KeepT n W W:=⟨Below.refl _ _,fun _ _ _ h _=>h⟩
theorem KeepT.trans {n:Nat} {A B C:World} (h:KeepT n A B) (k:KeepT n B C):KeepT n A C:=⟨h.bel.trans k.bel,fun g t cs b ht=>k.box g t cs (h.box g t cs b ht) ht⟩
theorem KeepT.of_below {n:Nat} {A B:World} (h:Below A.heap.size A B) (hn:n <= A.heap.size):KeepT n A B:=⟨h.mono hn,fun _ _ _ b _=>b.below h⟩
structure KpT (T:TypeId) (base E L:Nat) (W W':World):Prop where
 size:W.heap.size <= W'.heap.size
 os:W'.os = W.os
 tape:W'.tape = W.tape
 output:W'.output = W.output
 block:∀ q,q < W.heap.size -> q ≠ E -> q ≠ L -> (q < base ∨ ∀ cs z,W.heap[q]? ≠ some (.cells cs T z)) -> W'.heap[q]? = W.heap[q]?
theorem KpT.refl (T:TypeId) (base E L:Nat) (W:World):KpT T base E L W W:=⟨Nat.le_refl _,rfl,rfl,rfl,fun _ _ _ _ _=>rfl⟩
theorem KpT.trans {T:TypeId} {base E L:Nat} {A B C:World} (h:KpT T base E L A B) (k:KpT T base E L B C):KpT T base E L A C :=
 ⟨Nat.le_trans h.size k.size,k.os.trans h.os,k.tape.trans h.tape,k.output.trans h.output,fun q a b c d=>by
  have e:=h.block q a b c d;rw [<- e]
  exact k.block q (Nat.lt_of_lt_of_le a h.size) b c (d.imp id fun d cs z=>by rw [e]; exact d cs z)⟩
theorem KpT.of_below {T:TypeId} {base E L n:Nat} {A B:World} (h:Below n A B) (hn:n = A.heap.size):KpT T base E L A B :=
 ⟨h.size,h.os,h.tape,h.output,fun q a _ _ _=>h.block q Zo⟩
theorem KpT.upd {T:TypeId} {base E L g:Nat} {t:TypeId} {cs:Array Value} {A B C:World} (h:KpT T base E L A B) (u:Upd B g t cs C) (hg:g = E ∨ g = L ∨ A.heap.size <= g):KpT T base E L A C :=
 ⟨by rw [u.size]; exact h.size,(u.bel 0 (Nat.zero_le _)).os.trans h.os,(u.bel 0 (Nat.zero_le _)).tape.trans h.tape,(u.bel 0 (Nat.zero_le _)).output.trans h.output,fun q a b c d=>(u.other q Zo).trans (h.block q a b c d)⟩
theorem KpT.bx {T:TypeId} {base E L g:Nat} {t:TypeId} {cs:Array Value} {A B:World} (h:KpT T base E L A B) (hb:Bx A g t cs) (hE:g ≠ E) (hL:g ≠ L) (ht:t ≠ T):Bx B g t cs :=
 (h.block g hb.lt hE hL (.inr fun cs' z e=>by unfold Bx at hb; rw [hb] at e; injection e with e; injection e with _ e _; exact ht e)).trans hb
theorem bx_type {W:World} {g:Nat} {t s:TypeId} {cs ds:Array Value} (h:Bx W g t cs) (k:Bx W g s ds):t = s:=by
 unfold Bx at h k;rw [h] at k;injection k with k
 injection k with _ k _
theorem KpT.keep {T:TypeId} {base E L n:Nat} {tE tL:TypeId} {cE cL:Array Value} {A B:World} (h:KpT T base E L A B) (hE:Bx A E tE cE) (hL:Bx A L tL cL) (nT:¬ Held T) (nE:¬ Held tE) (nL:¬ Held tL)
  (hb:n <= base) (he:n <= E) (hl:n <= L) (hs:n <= A.heap.size):KeepT n A B :=
 ⟨⟨h.os,h.tape,h.output,h.size,fun q a=>h.block q Zo Zo Zo (.inl Zo)⟩,fun g t cs b ht =>
  h.bx b (fun e=>by subst e; exact nE (bx_type b hE ▸ ht)) (fun e=>by subst e; exact nL (bx_type b hL ▸ ht)) (fun e=>nT (e ▸ ht))⟩
def RdRn (n:Nat) (w:World) (A:Option Addr) (l:List Rc):Prop:=∃ w0:World,w0.heap.size = n /\ RdR w0 A l /\ Below n w0 w
theorem RdRn.rd {n:Nat} {w:World} {A:Option Addr} {l:List Rc} (h:RdRn n w A l):RdR w A l:=by
 obtain ⟨w0,rfl,h0,hb⟩:=h;exact h0.below hb
theorem RdRn.below {n:Nat} {w w':World} {A:Option Addr} {l:List Rc} (h:RdRn n w A l) (hb:Below n w w'):RdRn n w' A l:=by
 obtain ⟨w0,h0,h1,hb0⟩:=h;exact ⟨w0,h0,h1,hb0.trans hb⟩
theorem RdRn.of {w:World} {A:Option Addr} {l:List Rc} (h:RdR w A l):RdRn w.heap.size w A l:=⟨w,rfl,h,Below.refl _ _⟩
def pc13 (k a b:Int) (s t:Pt) (f:Fs):Array Value :=
 #[.int .i64 k,.int .i64 a,.int .i64 b,.int .i64 s.1,.int .i64 s.2.1,.int .i64 s.2.2,.int .i64 t.1,.int .i64 t.2.1,.int .i64 t.2.2,.int .i64 f.1,.int .i64 f.2.1,.int .i64 f.2.2.1,.int .i64 f.2.2.2]
theorem pc13_one (k a b:Int) (s t:Pt) (f:Fs):(pc13 k a b s t f).all (·.oneCell') = true:=by simp [pc13,Value.oneCell']
theorem size_piece:(Tryz.prog.info? 102).map (·.size) = some 13:=by kernel_rfl
def nearV (l:List Tk) (k:Nat):Nat:=nearN l (l.length - min (k + 1) l.length) (min (k + 1) l.length)
theorem near_is {l:List Tk} {a:Nat}:∀ (f e:Nat),a <= e -> (a < l.length -> a < e) -> (∀ j,a < j -> j < e -> (tk l (j:Int)).1 = 0 /\ (tk l (j:Int)).2.1 = 0) -> e <= l.length -> l.length - e <= f -> NearE l a (nearN l f e)
 | 0,e,h1,h2,h3,h4,h5=>⟨h4,h2,h1,h3,fun c=>by unfold nearN at c; omega⟩
 | f + 1,e,h1,h2,h3,h4,h5=>by
  unfold nearN;by_cases c:e < l.length /\ (l.getD e tz).1 = 0 /\ (l.getD e tz).2.1 = 0
  ·rw [if_pos c]
   refine near_is f (e + 1) Zo (fun _=>by omega) (fun j ja je=>?_) Zo Zo;by_cases ej:j = e
   ·subst ej; exact c.2
   ·exact h3 j ja Zo
  ·rw [if_neg c]
   exact ⟨h4,h2,h1,h3,fun q k=>c ⟨q,k⟩⟩
theorem nearV_is {l:List Tk} {k:Nat} (hk:k <= l.length):NearE l k (nearV l k):=by
 unfold nearV;refine near_is _ _ Zo (fun c=>by omega) (fun j a b=>by omega) Zo Zl
theorem near_more {l:List Tk} {e:Nat} (h:e < l.length) (h0:(l.getD e tz).1 = 0) (h1:(l.getD e tz).2.1 = 0):nearN l (l.length - e) e = nearN l (l.length - (e + 1)) (e + 1):=by
 obtain ⟨f,hf⟩:∃ f,l.length - e = f + 1:=⟨l.length - e - 1,by omega⟩;rw [hf]
 conv=>lhs; unfold nearN
 rw [if_pos ⟨h,h0,h1⟩];congr 1; omega
theorem near_end {l:List Tk} {e:Nat} (h:¬ (e < l.length /\ (l.getD e tz).1 = 0 /\ (l.getD e tz).2.1 = 0)) (f:Nat):nearN l f e = e:=by
 cases f with
 | zero=>rfl
 | succ f=>unfold nearN; rw [if_neg h]
theorem RdK.cut {w:World} {b off:Nat} {l:List Tk} (h:RdK w (some ⟨b,off,none⟩) l) (a e:Nat):RdK w (some ⟨b,off + a * 3,none⟩) ((l.take e).drop a):=fun hne=>by
 have hl:0 < ((l.take e).drop a).length:=List.length_pos_iff.2 hne;rw [List.length_drop,List.length_take] at hl;obtain ⟨b',off',hA,hb,hc⟩:=h (by rintro rfl; simp at hl);simp only [Option.some.injEq,Addr.mk.injEq,and_true] at hA;obtain ⟨rfl,rfl⟩:=hA;refine ⟨_,_,rfl,hb,fun k hk=>?_⟩;rw [List.length_drop,List.length_take] at hk
 have e1:((l.take e).drop a).getD k tz = l.getD (a + k) tz:=by
  rw [List.getD_eq_getElem?_getD,List.getD_eq_getElem?_getD,List.getElem?_drop,List.getElem?_take,if_pos Zo]
 obtain ⟨B,c,h0,h1,h2,h3⟩:=hc (a + k) Zo;rw [e1];have e2:off + a * 3 + k * 3 = off + (a + k) * 3:=by omega
 rw [e2];exact ⟨B,c,h0,h1,h2,h3⟩
theorem Few.cut {l:List Tk} (h:Few l) (a e:Nat):Few ((l.take e).drop a):=fun t ht=>h t (List.mem_of_mem_take (List.mem_of_mem_drop ht))
def lastT (r:List Rc):Int:=if r = [] then 0 else fin r - 1
theorem fin_last:∀ {r:List Rc} {k:Nat} {x y z:Int},r.length = k + 1 -> r.getD k rz = (x,y,z) -> fin r = z
 | [q],0,x,y,z,_,h=>by simp at h; simp [fin,h]
 | q :: s :: r,k + 1,x,y,z,hl,h=>by
  show fin (s :: r) = z
  exact fin_last (k:=k) (by simpa using hl) (by simpa using h)
 | [q],k + 1,_,_,_,hl,_=>by simp at hl
 | q :: s :: r,0,_,_,_,hl,_=>by simp at hl
 | [],k,_,_,_,hl,_=>by simp at hl
set_option maxRecDepth 20000 in
set_option maxHeartbeats 2000000 in
theorem last20_any (A:Option Addr) (n c:Nat) (r:List Rc) (hn:r.length = n) (w:World) (h:RdR w A r) (hl:n <= 4611686018427387904) (hz:-9223372036854775807 <= fin r /\ fin r <= 9223372036854775807) :
  Calls Tryz.prog 53 #[.slice A n c] w fun e w'=>e = .returned (.int .i64 (lastT r)) /\ w = w':=by
 by_cases h0:n = 0
 ·subst h0
  obtain rfl:=List.eq_nil_of_length_eq_zero hn;clear h hn;go_enter Tryz.func53,Tryz.ntmps53;go_wp2;go_ret;exact ⟨rfl,rfl⟩
 ·obtain ⟨k,hk1⟩:∃ k,n = k + 1:=⟨n - 1,by omega⟩
  obtain ⟨b,off,x,y,z,rfl,hb,c0,c1,c2,hs⟩:=h.at_ (k:=k) Zo;have e1:=fin_last (hn.trans hk1) hs.out
  have e2:lastT r = z - 1:=by
   unfold lastT;rw [if_neg (by rintro rfl; simp at hn; omega),e1]
  rw [e2];rw [e1] at hz;have e3:(n:Int) - 1 = k:=by omega
  have e4:((n:Int) == 0) = false:=by simp; omega
  have e5:¬ (n:Int) = 0:=by omega
  have hk:k < n:=by omega
  clear e1 e2 hs hn h0 c0 c1 h hk1;obtain ⟨z0,z1⟩:=hz;go_enter Tryz.func53,Tryz.ntmps53;go_wp2;go_ret;exact ⟨rfl,rfl⟩
set_option maxRecDepth 20000 in
set_option maxHeartbeats 2000000 in
theorem near20_any (A:Option Addr) (n c:Nat) (l:List Tk) (hn:l.length = n) (k:Nat) (hk:k <= n) (hl:n <= 2001) (w:World) (h:RdK w A l) :
  Calls Tryz.prog 130 #[.slice A n c,.int .i64 (k:Int)] w fun e w'=>e = .returned (.int .i64 (nearV l k:Nat)) /\ w = w':=by
 obtain ⟨V,hV⟩:∃ V,nearV l k = V:=⟨_,rfl⟩;rw [hV];obtain ⟨e0,he0⟩:∃ e0,min (k + 1) n = e0:=⟨_,rfl⟩;have he:nearN l (l.length - e0) e0 = V:=by rw [<- hV,<- he0,<- hn]; rfl
 have h0:e0 <= n:=by omega
 have HV:=Zh he;have HN:=Zh hn;have HK:=Zh h;clear hV he h hn;have hsplit:((k:Int) + 1 <= (n:Int) /\ k + 1 = e0) ∨ ((n:Int) <= (k:Int) /\ n = e0):=by omega
 clear he0
 rcases hsplit with ⟨h1,rfl⟩ | ⟨h1,rfl⟩
 ·go_enter Tryz.func130,Tryz.ntmps130
  go_wp2;go_loopw [5] (fun i wr=>∃ e:Nat,e <= n /\ i = .int .i64 (e:Int) /\ wr = w /\ Hid (nearN l (l.length - e) e = V)) (fun i _=>n - (intOf i).toNat)
  case atStart=>exact ⟨_,h0,by go_num,rfl,HV⟩
  case round =>
   clear HV h0 h1;obtain ⟨e,h2,rfl,rfl,HV⟩:=hrel;by_cases hlt:e < n
   ·obtain ⟨b,off,d,v,B,q,u,rfl,hbb,c0,c1,c2,hs⟩:=HK.out.at_ (k:=e) (by rw [HN.out]; exact hlt)
    obtain ⟨o,ho,_,_⟩:=hs.out;have d0:(l.getD e tz).1 = d:=by rw [ho]
    have v0:(l.getD e tz).2.1 = v:=by rw [ho]
    by_cases hd:d = 0
    ·by_cases hv:v = 0
     ·have HM:=Zh ((near_more (by rw [HN.out]; exact hlt) (d0.trans hd) (v0.trans hv)).symm.trans HV.out)
      have g0:(d == 0) = true:=by simp [hd]
      have g1:(v == 0) = true:=by simp [hv]
      clear hd hv d0 v0 ho hs HV c2;go_wp2;go_roundw
      case rel=>exact ⟨e + 1,by omega,by go_num,(by first | rfl | trivial),HM⟩
      case measure=>simp [intOf]; omega
     ·have HE:=Zh ((near_end (fun c=>hv (v0.symm.trans c.2.2)) _).symm.trans HV.out)
      have g0:(d == 0) = true:=by simp [hd]
      have g1:(v == 0) = false:=by simp [hv]
      clear hd hv d0 v0 ho hs HV c2;go_wp2;go_ret;exact ⟨by rw [<- HE.out]; rfl,rfl⟩
    ·have HE:=Zh ((near_end (fun c=>hd (d0.symm.trans c.2.1)) _).symm.trans HV.out)
     have g0:(d == 0) = false:=by simp [hd]
     clear hd d0 v0 ho hs HV c2;go_wp2;go_ret;exact ⟨by rw [<- HE.out]; rfl,rfl⟩
   ·have HE:=Zh ((near_end (l:=l) (e:=e) (fun c=>hlt (by rw [<- HN.out]; exact c.1)) _).symm.trans HV.out)
    have hge:(n:Int) <= (e:Int):=by omega
    clear HV;go_wp2;go_ret;exact ⟨by rw [<- HE.out]; rfl,rfl⟩
 ·go_enter Tryz.func130,Tryz.ntmps130
  go_wp2;go_loopw [5] (fun i wr=>∃ e:Nat,e <= n /\ i = .int .i64 (e:Int) /\ wr = w /\ Hid (nearN l (l.length - e) e = V)) (fun i _=>n - (intOf i).toNat)
  case atStart=>exact ⟨_,h0,by congr 1; omega,rfl,HV⟩
  case round =>
   clear HV h0 h1;obtain ⟨e,h2,rfl,rfl,HV⟩:=hrel;by_cases hlt:e < n
   ·obtain ⟨b,off,d,v,B,q,u,rfl,hbb,c0,c1,c2,hs⟩:=HK.out.at_ (k:=e) (by rw [HN.out]; exact hlt)
    obtain ⟨o,ho,_,_⟩:=hs.out;have d0:(l.getD e tz).1 = d:=by rw [ho]
    have v0:(l.getD e tz).2.1 = v:=by rw [ho]
    by_cases hd:d = 0
    ·by_cases hv:v = 0
     ·have HM:=Zh ((near_more (by rw [HN.out]; exact hlt) (d0.trans hd) (v0.trans hv)).symm.trans HV.out)
      have g0:(d == 0) = true:=by simp [hd]
      have g1:(v == 0) = true:=by simp [hv]
      clear hd hv d0 v0 ho hs HV c2;go_wp2;go_roundw
      case rel=>exact ⟨e + 1,by omega,by go_num,(by first | rfl | trivial),HM⟩
      case measure=>simp [intOf]; omega
     ·have HE:=Zh ((near_end (fun c=>hv (v0.symm.trans c.2.2)) _).symm.trans HV.out)
      have g0:(d == 0) = true:=by simp [hd]
      have g1:(v == 0) = false:=by simp [hv]
      clear hd hv d0 v0 ho hs HV c2;go_wp2;go_ret;exact ⟨by rw [<- HE.out]; rfl,rfl⟩
    ·have HE:=Zh ((near_end (fun c=>hd (d0.symm.trans c.2.1)) _).symm.trans HV.out)
     have g0:(d == 0) = false:=by simp [hd]
     clear hd d0 v0 ho hs HV c2;go_wp2;go_ret;exact ⟨by rw [<- HE.out]; rfl,rfl⟩
   ·have HE:=Zh ((near_end (l:=l) (e:=e) (fun c=>hlt (by rw [<- HN.out]; exact c.1)) _).symm.trans HV.out)
    have hge:(n:Int) <= (e:Int):=by omega
    clear HV;go_wp2;go_ret;exact ⟨by rw [<- HE.out]; rfl,rfl⟩
set_option maxRecDepth 20000 in
set_option maxHeartbeats 2000000 in
theorem far20_end (A:Option Addr) (n c:Nat) (i x y k:Int) (w:World) (hi:i = (n:Int)) :
  Calls Tryz.prog 95 #[.slice A n c,.agg #[.int .i64 i,.int .i64 x,.int .i64 y],.int .i64 k] w fun e w'=>e = .returned (.int .i64 40320) /\ Below w.heap.size w w':=by
 have h0:(i == (n:Int)) = true:=by simp [hi]
 clear hi;go_enter Tryz.func95,Tryz.ntmps95;go_wp2;go_ret;exact ⟨rfl,Zq⟩
set_option maxRecDepth 20000 in
set_option maxHeartbeats 2000000 in
theorem far20_in (A:Option Addr) (n c:Nat) (l:List Tk) (hn:l.length = n) (j:Nat) (x y k:Int) (w:World) (h:RdK w A l) (hj:j < n) {d v p q:Int} (hd:(tk l j).1 = d) (hv:(tk l j).2.1 = v) (hp:wrap64 (d - x) = p) (hq:wrap64 (v - y) = q) :
  Calls Tryz.prog 95 #[.slice A n c,.agg #[.int .i64 (j:Int),.int .i64 x,.int .i64 y],.int .i64 k] w fun e w'=>e = .returned (.int .i64 (if k = 3 /\ 0 < p then p else if k = 2 /\ p = 0 then q else 40320)) /\ Below w.heap.size w w':=by
 obtain ⟨b,off,d',v',B,m,u,rfl,hb,h0,h1,h2,hs⟩:=h.at_ (k:=j) Zo;obtain ⟨o,ho,_,_⟩:=hs.out;have e1:(tk l (j:Int)) = (d',v',o):=ho;rw [e1] at hd hv;simp only at hd hv;subst hd hv;clear hs ho e1 h hn;have hne:((j:Int) == (n:Int)) = false:=by simp; omega
 by_cases k3:k = 3
 ·have g3:(k == 3) = true:=by simp [k3]
  by_cases p0:0 < p
  ·rw [if_pos ⟨k3,p0⟩]
   clear k3;go_enter Tryz.func95,Tryz.ntmps95;go_upto_region 3 with fail
   go_quiet (fail);go_wp2;go_ret;exact ⟨by first | rfl | (rw [<- hp]; rfl) | (rw [<- hq]; rfl),Zq⟩
  ·have p1:p <= 0:=by omega
   have g2:(k == 2) = false:=by simp [k3]
   rw [if_neg (fun c=>p0 c.2),if_neg (fun c=>by have:=c.1; omega)];clear k3;go_enter Tryz.func95,Tryz.ntmps95;go_upto_region 3 with fail
   go_quiet (fail);go_wp2;go_ret;exact ⟨by first | rfl | (rw [<- hp]; rfl) | (rw [<- hq]; rfl),Zq⟩
 ·have g3:(k == 3) = false:=by simp [k3]
  rw [if_neg (fun c=>k3 c.1)];by_cases k2:k = 2
  ·have g2:(k == 2) = true:=by simp [k2]
   by_cases p0:p = 0
   ·have g0:(p == 0) = true:=by simp [p0]
    rw [if_pos ⟨k2,p0⟩];clear k3 k2 p0;go_enter Tryz.func95,Tryz.ntmps95;go_upto_region 3 with fail
    go_quiet (fail);go_upto_region 7 with fail
    go_quiet (fail);go_wp2;go_ret;exact ⟨by first | rfl | (rw [<- hp]; rfl) | (rw [<- hq]; rfl),Zq⟩
   ·have g0:(p == 0) = false:=by simp [p0]
    rw [if_neg (fun c=>p0 c.2)];clear k3 k2 p0;go_enter Tryz.func95,Tryz.ntmps95;go_upto_region 3 with fail
    go_quiet (fail);go_wp2;go_ret;exact ⟨by first | rfl | (rw [<- hp]; rfl) | (rw [<- hq]; rfl),Zq⟩
  ·have g2:(k == 2) = false:=by simp [k2]
   rw [if_neg (fun c=>k2 c.1)];clear k3 k2;go_enter Tryz.func95,Tryz.ntmps95;go_upto_region 3 with fail
   go_quiet (fail);go_wp2;go_ret;exact ⟨by first | rfl | (rw [<- hp]; rfl) | (rw [<- hq]; rfl),Zq⟩
theorem far20_any (A:Option Addr) (n c:Nat) (l:List Tk) (hn:l.length = n) (i x y k:Int) (w:World) (h:RdK w A l) (ok:∀ t ∈ l,TkOk t) (fit:Fits l (i,x,y)) :
  Calls Tryz.prog 95 #[.slice A n c,.agg #[.int .i64 i,.int .i64 x,.int .i64 y],.int .i64 k] w fun e w'=>e = .returned (.int .i64 (farV l (i,x,y) k)) /\ Below w.heap.size w w':=by
 by_cases hi:i = (n:Int)
 ·have e:farV l (i,x,y) k = 40320:=by
   unfold farV CanD CanW;rw [if_neg (fun c=>by have:=c.2.1; simp only at this; omega),if_neg (fun c=>by have:=c.2.1; simp only at this; omega)]
  rw [e]
  exact far20_end A n c i x y k w hi
 ·obtain ⟨f1,f2,f3,f4⟩:=fit
  simp only at f1 f2 f3 f4;obtain ⟨j,rfl⟩:∃ j:Nat,i = j:=⟨i.toNat,by omega⟩;have tok:=ok _ (tk_mem (l:=l) (i:=(j:Int)) f1 Zo);unfold TkOk at tok;have f4:=f4 Zo;have C:=far20_in A n c l hn j x y k w h Zo rfl rfl (IntWalk.wrap64_in _ Zo) (IntWalk.wrap64_in _ Zo);refine C.mono ?_;rintro e w' ⟨rfl,hb⟩;refine ⟨?_,hb⟩;congr 2;unfold farV CanD CanW;simp only;by_cases c0:k = 3 /\ 0 < (tk l (j:Int)).1 - x
  ·rw [if_pos c0,if_pos ⟨c0.1,by omega,by omega⟩]
  ·have n0:¬ (k = 3 /\ (j:Int) < (l.length:Int) /\ x < (tk l (j:Int)).1):=fun c=>c0 ⟨c.1,by omega⟩
   rw [if_neg c0,if_neg n0];by_cases c1:k = 2 /\ (tk l (j:Int)).1 - x = 0
   ·have n1:k = 2 /\ (j:Int) < (l.length:Int) /\ x = (tk l (j:Int)).1 /\ y < (tk l (j:Int)).2.1:=⟨c1.1,by omega,by omega,by omega⟩
    rw [if_pos c1,if_pos n1]
   ·have n1:¬ (k = 2 /\ (j:Int) < (l.length:Int) /\ x = (tk l (j:Int)).1 /\ y < (tk l (j:Int)).2.1):=fun c=>c1 ⟨c.1,by omega⟩
    rw [if_neg c1,if_neg n1]
def checkE (l:List Tk) (s:Pt) (r:List Rc):Int:=if spotV l s = 0 then (checkV r).2 else spotV l s
theorem checkE_zero {l:List Tk} {s:Pt} {r:List Rc} (h:checkE l s r = 0):checkT l = 0 /\ Fits l s /\ Tl (beg r) r:=by
 unfold checkE at h;by_cases h0:spotV l s = 0
 ·rw [if_pos h0] at h
  obtain ⟨a,b⟩:=spot_zero h0;exact ⟨a,b,check_tl h⟩
 ·rw [if_neg h0] at h; exact absurd h h0
set_option maxRecDepth 20000 in
set_option maxHeartbeats 2000000 in
theorem check20_any (A:Option Addr) (n c:Nat) (l:List Tk) (hn:l.length = n) (i x y:Int) (A':Option Addr) (n' c':Nat) (r:List Rc) (hn':r.length = n') (w:World) (h:RdK w A l) (hf:Few l) (hcn:n <= c) (hz:A = none -> c = 0)
  (hx:-9223372036854775808 <= x /\ x <= 9223372036854775807) (hy:-9223372036854775808 <= y /\ y <= 9223372036854775807) (hr:RdR w A' r) (hl:n' <= 4611686018427387904) :
  Calls Tryz.prog 49 #[.slice A n c,.agg #[.int .i64 i,.int .i64 x,.int .i64 y],.slice A' n' c'] w fun e w'=>e = .returned (.int .i64 (checkE l (i,x,y) r)) /\ Below w.heap.size w w':=by
 have CL:=fun W (h:RdK W A l)=>leftL19_any A n c l hn i x y W h hf hcn hz hx hy
 have CR:=fun W (h:RdR W A' r)=>rcheck_any A' c' r W h Zo
 rw [hn'] at CR;have HK:=Zh h;have HR:=Zh hr;clear h hr hn hn' hf hcn hz hx hy;unfold checkE;by_cases c0:spotV l (i,x,y) = 0
 case neg =>
  obtain ⟨e0,he⟩:∃ e0,spotV l (i,x,y) = e0:=⟨_,rfl⟩;have hv:=leftv_bad he Zo;rw [hv] at CL;rw [if_neg c0,he];rw [he] at c0;have hne:(e0 != 0) = true:=by simp [c0]
  clear he hv c0 CR;go_enter Tryz.func49,Tryz.ntmps49;go_wp2_with (go_at_call 93; refine (CL _ (HK.out.below Zq)).mono ?_; rintro e w1 ⟨rfl,hb1⟩);go_ret;exact ⟨rfl,Zq⟩
 have hv:=leftv_ok c0;rw [hv] at CL;rw [if_pos c0];obtain ⟨p,hp⟩:∃ p,(leftT l (i,x,y)).1 = p:=⟨_,rfl⟩;obtain ⟨q,hq⟩:∃ q,(leftT l (i,x,y)).2 = q:=⟨_,rfl⟩;obtain ⟨e1,he1⟩:∃ e1,(checkV r).2 = e1:=⟨_,rfl⟩;obtain ⟨e2,he2⟩:∃ e2,(checkV r).1 = e2:=⟨_,rfl⟩;rw [hp,hq] at CL;rw [he1,he2] at CR;rw [he1];clear hp hq hv c0 he1 he2;go_enter Tryz.func49,Tryz.ntmps49;go_wp2_with (first | (go_at_call 93; refine (CL _ (HK.out.below Zq)).mono ?_; rintro e w1 ⟨rfl,hb1⟩) | (go_at_call 41; refine (CR _ (HR.out.below Zq)).mono ?_; rintro e w2 ⟨rfl,hb2⟩));go_ret;exact ⟨rfl,Zq⟩
abbrev Gs:=Nat -> Option Int
def putG (G:Gs) (c:Nat) (v:Int):Gs:=fun i=>if i = c /\ G i = none then some v else G i
def oneG (o:Option Int):Nat:=if o.isSome then 1 else 0
def cntG (G:Gs):Nat:=oneG (G 0) + oneG (G 1) + oneG (G 2) + oneG (G 3) + oneG (G 4)
theorem oneG_le (o:Option Int):oneG o <= 1:=by unfold oneG; split <;> omega
theorem cntG_le (G:Gs):cntG G <= 5:=by
 have h0:=oneG_le (G 0); have h1:=oneG_le (G 1); have h2:=oneG_le (G 2); have h3:=oneG_le (G 3); have h4:=oneG_le (G 4);unfold cntG; omega
theorem putG_none {G:Gs} {c:Nat} {v:Int} (h:G c = none) (i:Nat):putG G c v i = if i = c then some v else G i:=by
 unfold putG;by_cases hi:i = c
 ·subst hi; simp [h]
 ·simp [hi]
theorem putG_some {G:Gs} {c:Nat} {u v:Int} (h:G c = some u):putG G c v = G:=by
 funext i;unfold putG;rw [if_neg];rintro ⟨rfl,hh⟩;rw [h] at hh; cases hh
theorem cntG_put {G:Gs} {c:Nat} (v:Int) (hc:c < 5) (h:G c = none):cntG (putG G c v) = cntG G + 1:=by
 have o1:oneG (some v) = 1:=rfl;have o0:oneG (G c) = 0:=by rw [h]; rfl
 unfold cntG;simp only [putG_none h];have:c = 0 ∨ c = 1 ∨ c = 2 ∨ c = 3 ∨ c = 4:=by omega
 rcases this with rfl | rfl | rfl | rfl | rfl <;> (simp; omega)
structure RepG (l:List Rc) (s:Nat) (G:Gs):Prop where
 mem:∀ r:Rc,r ∈ l ↔ ∃ c:Nat,c < 5 /\ G c = some r.2.1 /\ r.1 = ((10 + c:Nat):Int) /\ r.2.2 = r.2.1 + 1
 len:l.length = cntG G
 bit:∀ c:Nat,c < 5 -> s.testBit (10 + c) = (G c).isSome
 lt:s < 65536
theorem RepG.nil:RepG [] 0 (fun _=>none):=⟨fun r=>by simp,rfl,fun c _=>by simp,by decide⟩
theorem RepG.le {l:List Rc} {s:Nat} {G:Gs} (h:RepG l s G):l.length <= 5:=by rw [h.len]; exact cntG_le G
theorem RepG.put {l:List Rc} {s:Nat} {G:Gs} {c:Nat} {t:Int} (h:RepG l s G) (hc:c < 5) (hG:G c = none):RepG (l ++ [(((10 + c:Nat):Int),t,t + 1)]) (s ||| 2 ^ (10 + c)) (putG G c t) where
 len:=by rw [List.length_append,h.len,cntG_put _ hc hG]; rfl
 bit i hi:=by
  rw [Nat.testBit_or,h.bit i hi,Nat.testBit_two_pow,putG_none hG];by_cases e:i = c
  ·subst e; simp
  ·simp [e]; omega
 lt:=Nat.or_lt_two_pow (n:=16) h.lt (Nat.pow_lt_pow_right (m:=10 + c) (n:=16) Zo Zo)
 mem r:=by
  rw [List.mem_append,h.mem,List.mem_singleton];constructor
  ·rintro (⟨i,hi,hv,hr⟩ | rfl)
   ·refine ⟨i,hi,?_,hr⟩
    rw [putG_none hG,if_neg (by rintro rfl; rw [hG] at hv; cases hv)];exact hv
   ·exact ⟨c,hc,by rw [putG_none hG,if_pos rfl],rfl,rfl⟩
  ·rintro ⟨i,hi,hv,hr1,hr2⟩
   rw [putG_none hG] at hv;by_cases e:i = c
   ·subst e
    rw [if_pos rfl] at hv;have:=Option.some.inj hv;obtain ⟨a,b,d⟩:=r;simp only at hr1 hr2 this;right;rw [hr1,hr2,<- this]
   ·rw [if_neg e] at hv
    exact .inl ⟨i,hi,hv,hr1,hr2⟩
theorem bit_test (s k:Nat):bitV (s:Int) k = s.testBit k:=by
 unfold bitV;rw [Nat.testBit_eq_decide_div_mod_eq]
 have e:(s:Int) / 2 ^ k % 2 = ((s / 2 ^ k % 2:Nat):Int):=by
  rw [show (2:Int) ^ k = ((2 ^ k:Nat):Int) by rw [Int.natCast_pow]; rfl];omega
 rw [e];generalize s / 2 ^ k % 2 = q;by_cases h:q = 1
 ·subst h; rfl
 ·have h2:¬ (q:Int) = 1:=by omega
  rw [decide_eq_false h];simp [h2]
theorem RepG.inV {l:List Rc} {s:Nat} {G:Gs} (h:RepG l s G) {c:Nat} (hc:c < 5):Go.Proofs.YtiamnbddbmgffaaGreatDoor.inV (s:Int) ((10 + c:Nat):Int) = (G c).isSome:=by
 unfold Go.Proofs.YtiamnbddbmgffaaGreatDoor.inV;rw [decide_eq_true (show isC ((10 + c:Nat):Int) by unfold isC; omega),Int.toNat_natCast,bit_test,h.bit c hc];simp
theorem or_nat20 (a b:Nat) (ha:a < 65536) (hb:b < 65536):bits .or .i64 (a:Int) (b:Int) = ((a ||| b:Nat):Int):=by
 have hx:a ||| b < 2 ^ 16:=Nat.or_lt_two_pow (n:=16) Zo Zo
 have ofn:∀ n:Nat,n < 65536 -> (BitVec.ofInt 64 (n:Int)).toNat = n:=fun n h=>by
  rw [BitVec.toNat_ofInt]; omega
 show IntKind.i64.wrap ((BitVec.ofInt 64 (a:Int) ||| BitVec.ofInt 64 (b:Int)).toNat:Int) = _
 rw [BitVec.toNat_or,ofn a ha,ofn b hb];generalize a ||| b = c at hx;simp [IntKind.wrap,IntKind.bits,IntKind.signed];omega
theorem pow_lt20 {k:Nat} (hk:k < 16):2 ^ k < 65536:=Nat.pow_lt_pow_right (m:=k) (n:=16) Zo hk
theorem shl_one20 {k:Nat} (hk:k < 16):IntKind.i64.wrap (2 ^ k) = ((2 ^ k:Nat):Int):=by
 have h:=pow_lt20 hk;have e:(2:Int) ^ k = ((2 ^ k:Nat):Int):=by rw [Int.natCast_pow]; rfl
 rw [e];generalize 2 ^ k = c at h;simp [IntKind.wrap,IntKind.bits,IntKind.signed];omega
structure NotS (base E L:Nat) (l:List Rc) (s:Nat) (W:World):Prop where
 bE:Bx W E 3 #[.int .i64 (s:Int)]
 bL:∃ v,Bx W L 33 #[v] /\ OwnF base W v l
 eb:E < base
 lb:L < base
 ne:E ≠ L
 sz:base <= W.heap.size
theorem NotS.below {base E L:Nat} {l:List Rc} {s:Nat} {W W':World} (h:NotS base E L l s W) (hb:Below W.heap.size W W'):NotS base E L l s W':=by
 obtain ⟨v,h1,h2⟩:=h.bL;exact ⟨h.bE.below hb,⟨v,h1.below hb,h2.below hb⟩,h.eb,h.lb,h.ne,Nat.le_trans h.sz hb.size⟩
set_option maxRecDepth 20000 in
set_option maxHeartbeats 2000000 in
theorem note20_any (base E L:Nat) (l:List Rc) (s:Nat) (G:Gs) (c:Nat) (t:Int) (W:World) (h:NotS base E L l s W) (hr:RepG l s G) (hc:c < 5) (h0:0 <= t) (h1:t <= 40320) :
  Calls Tryz.prog 50 #[.int .i64 ((10 + c:Nat):Int),.int .i64 t,.pointer (some ⟨E,0,none⟩),.pointer (some ⟨L,0,none⟩)] W fun e W' =>
   e = .returned (.tuple #[]) /\ (∃ l' s',NotS base E L l' s' W' /\ RepG l' s' (putG G c t)) /\ KpT 52 base E L W W':=by
 have IN:=fun W=>in_any (s:Int) ((10 + c:Nat):Int) W
 rw [hr.inV hc] at IN;obtain ⟨v,HL,HO⟩:=h.bL;have fE:W.cell? ⟨E,0,none⟩ = some (.int .i64 (s:Int)):=h.bE.cell rfl;have lE:=h.bE.lt
 cases hG:G c with
 | some u =>
  rw [hG] at IN;have IN2:∀ W,Calls Tryz.prog 44 #[.int .i64 (s:Int),.int .i64 ((10 + c:Nat):Int)] W fun e w'=>e = .returned (.bool true) /\ W = w':=IN
  rw [putG_some hG];have H:=Zh h;have HR:=Zh hr;clear IN hG hr h HL HO;generalize ((10 + c:Nat):Int) = k at IN2 ⊢;go_enter Tryz.func50,Tryz.ntmps50;go_wp2_with (go_at_call 44; (with_reducible refine (IN2 _).mono ?_); rintro e w2 ⟨rfl,rfl⟩);exact bodyPost_end (results_none Tryz.results50 _ _ _) rfl ⟨rfl,⟨l,s,H.out,HR.out⟩,KpT.refl _ _ _ _ _⟩
 | none =>
  rw [hG] at IN;have IN2:∀ W,Calls Tryz.prog 44 #[.int .i64 (s:Int),.int .i64 ((10 + c:Nat):Int)] W fun e w'=>e = .returned (.bool false) /\ W = w':=IN
  have HRP:=Zh (hr.put (t:=t) hc hG);have hle:=hr.le;have e2:=or_nat20 s (2 ^ (10 + c)) hr.lt (pow_lt20 Zo);have e1:=shl_one20 (k:=10 + c) Zo;obtain ⟨n,hn⟩:∃ n,l.length = n:=⟨_,rfl⟩;obtain ⟨A,cp,rfl,hrd,hz⟩:=HO.read;rw [hn] at HL HO hle;have HN:=Zh hn;have hne:=h.ne;have heb:=h.eb;have hlb:=h.lb;have hsz:=h.sz;have HE:=Zh h.bE;have HLh:=Zh HL;have HOh:=Zh HO;have frE:=h.bE.free 0;have hrt:∀ q,(Value.slice A n cp).ownBlock = some q -> ∃ cs z,W.heap[q]? = some (.cells cs 52 z):=fun q hq=>row_type (show W.ownsRow base 52 3 _ _ _ from HO) hq
  have HRT:=Zh hrt;obtain ⟨k,hk⟩:∃ k,10 + c = k:=⟨_,rfl⟩;rw [hk] at IN2 e1 e2 HRP ⊢;have k0:(0:Int) <= (k:Int):=by omega
  have k1:(k:Int) < 16:=by omega
  obtain ⟨p,hp⟩:∃ p,2 ^ k = p:=⟨_,rfl⟩;rw [hp] at e2 HRP;have e1':IntKind.i64.wrap (2 ^ k) = (p:Int):=by rw [e1,hp]
  obtain ⟨s2,hs2⟩:∃ s2,s ||| p = s2:=⟨_,rfl⟩;rw [hs2] at e2 HRP;obtain ⟨i0,hi,hz0,hz1,hz2⟩:=info_parts info_find;clear IN hG hr h HL HO hrd hz hn hrt hk hp hs2 e1 hc;go_enter Tryz.func50,Tryz.ntmps50;go_upto_region 1 with (go_at_call 44; (with_reducible refine (IN2 _).mono ?_); rintro e w2 ⟨rfl,rfl⟩)
  go_region;have U:=HE.out.setOne (k:=0) (v:=.int .i64 (s2:Int));have HE2:=Zh (show Bx (W.setCell ⟨E,0,none⟩ (.int .i64 (s2:Int))).drew E 3 #[.int .i64 (s2:Int)] from U.box);have HL2:=Zh (U.bx HLh.out (fun e=>hne e.symm)).drew;have HO2:=Zh (show OwnF base (W.setCell ⟨E,0,none⟩ (.int .i64 (s2:Int))).drew (.slice A n cp) l from (OwnF.upd HOh.out U heb).below (b_dr (Below.refl _ _)));have KP2:=Zh (((KpT.refl 52 base E L W).upd U (.inl rfl)).trans (KpT.of_below (b_dr (Below.refl _ _)) rfl));have hsz2:W.heap.size <= (W.setCell ⟨E,0,none⟩ (.int .i64 (s2:Int))).drew.heap.size:=KP2.out.size;clear U HE HLh HOh fE frE lE e2 e1' HRT;generalize (W.setCell ⟨E,0,none⟩ (.int .i64 (s2:Int))).drew = W2 at *;have cL:W2.cell? ⟨L,0,none⟩ = some (.slice A n cp):=HL2.out.cell rfl;have lL:=HL2.out.lt;have HO3:OwnF base (W2.alloc (.cells #[.int .i64 (k:Int),.int .i64 t,.int .i64 (t + 1)] 52)) (.slice A n cp) l:=HO2.out.alloc _;have hlr:∀ q,(Value.slice A n cp).ownBlock = some q -> base <= q:=fun q hq=>(World.ownsRow.lt HO2.out q hq).1
  have hrt:∀ q,(Value.slice A n cp).ownBlock = some q -> ∃ cs z,W2.heap[q]? = some (.cells cs 52 z):=fun q hq=>row_type (show W2.ownsRow base 52 3 _ _ _ from HO2.out) hq
  have HLR:=Zh hlr;have HRT:=Zh hrt;unfold OwnF at HO3;rw [HN.out] at HO3;have HO3:=Zh HO3;clear hlr hrt
  go_wp2_with (first
   | (at_builtin; refine wpList_append_own _ rfl _ _ 33 rfl base 52 i0 (.agg #[.int .i64 0,.int .i64 0,.int .i64 0]) 3 24 Tryz.underlying33 hi hz0 hz1 hz2 rfl Zd _ _ _ rfl HO3.out ⟨W2.heap.size,0,none⟩ 1 1 [.int .i64 (k:Int),.int .i64 t,.int .i64 (t + 1)] rfl rfl (find_news (by simp)) find_cells (by unfold maxLen; omega) Zo (by simp; omega) ?_; intro v5 w5 hown5 hgrow5 _; have hS5:=OwnF.snoc (l:=l) (by rw [HN.out]; exact hown5); obtain ⟨A5,c5,rfl,_⟩:=hS5.read; have HS5:=Zh hS5; have hz5:=hgrow5.size; (try simp only [World.size_alloc] at hz5); have hL5:Bx w5 L 33 #[.slice A n cp]:=(hgrow5.block L (by simp; omega) (fun e=>by have:=HLR.out L e.symm; omega)).trans (HL2.out.alloc _); have hE5:Bx w5 E 3 #[.int .i64 (s2:Int)]:=(hgrow5.block E (by simp; have:=HE2.out.lt; omega) (fun e=>by have:=HLR.out E e.symm; omega)).trans (HE2.out.alloc _); have HK5:=Zh (show KpT 52 base E L W2 w5 from ⟨by omega,hgrow5.os,hgrow5.tape,hgrow5.output,fun q hq0 _ hq3 hq4=>by
     rw [hgrow5.block q (by simp; omega) (fun e=>by
      rcases hq4 with h4 | h4
      ·have:=HLR.out q e.symm; omega
      ·obtain ⟨cs,z,hh⟩:=HRT.out q e.symm
       exact h4 cs z hh)]
     exact Below.heap_alloc W2 _ q hq0⟩); have HL5:=Zh hL5; have HE5:=Zh hE5; clear hown5 hgrow5 hS5 hL5 hE5)
   | (refine wpList_store_fld Zv 33 _ _ rfl L 0 (.slice A5 (l ++ [((k:Int),t,t + 1)]).length c5) rfl rfl rfl 33 _ HL5.out (by simp) Zk (fun w6 u=>?_)))
  refine bodyPost_end (results_none Tryz.results50 _ _ _) rfl ⟨rfl,⟨_,s2,⟨u.bx HE5.out hne,⟨_,u.box,OwnF.upd HS5.out u hlb⟩,heb,hlb,hne,by rw [u.size]; omega⟩,HRP.out⟩,?_⟩;exact (KP2.out.trans HK5.out).upd u (.inr (.inl rfl))
theorem tl_begins:∀ {r:List Rc} {e:Int} {k:Nat} {q y z:Int},Tl e r -> k < r.length -> r.getD k rz = (q,y,z) -> y = e + ((kindsV (r.take k)).length:Int)
 | c :: r,e,0,q,y,z,h,_,hr=>by
  have:c = (q,y,z):=hr;subst this;have:=h.2.1;simp only at this;simp [kindsV,this]
 | c :: r,e,k + 1,q,y,z,h,hk,hr=>by
  have ih:=tl_begins (k:=k) h.2.2 (by simpa using hk) (by simpa using hr);have h1:=h.1.2;have h2:=h.2.1;rw [List.take_succ_cons,kinds_cons,List.length_append,List.length_replicate];omega
theorem kinds_part {r:List Rc} {k:Nat} {q y z:Int} (hk:k < r.length) (hr:r.getD k rz = (q,y,z)) {d:Nat} (hd:d <= (z - y).toNat) :
  (kindsV r).take ((kindsV (r.take k)).length + d) = kindsV (r.take k) ++ List.replicate d q:=by
 have e:kindsV r = kindsV (r.take (k + 1)) ++ kindsV (r.drop (k + 1)):=by
  unfold kindsV;rw [<- List.flatMap_append,List.take_append_drop]
 rw [e,kinds_more hk hr,List.append_assoc,List.take_length_add_append,List.take_append_of_le_length (by rw [List.length_replicate]; exact hd),List.take_replicate,Nat.min_eq_left hd]
theorem kinds_piece {r:List Rc} {k:Nat} {q y z:Int} (hk:k < r.length) (hr:r.getD k rz = (q,y,z)) {d n ii:Nat} (hi:(kindsV (r.take k)).length = ii) (hd:d + n <= (z - y).toNat) :
  (kindsV r).take (ii + d + n) = (kindsV r).take (ii + d) ++ List.replicate n q:=by
 subst hi;rw [Nat.add_assoc,kinds_part hk hr hd,kinds_part hk hr Zo,List.append_assoc,List.replicate_append_replicate]
theorem kinds_next {r:List Rc} {k:Nat} {q y z:Int} (hk:k < r.length) (hr:r.getD k rz = (q,y,z)) {ii:Nat} (hi:(kindsV (r.take k)).length = ii):(kindsV (r.take (k + 1))).length = ii + (z - y).toNat:=by
 rw [kinds_more hk hr,List.length_append,List.length_replicate,hi]
theorem runK_spot (l:List Tk) (k:Int):∀ (n:Nat) (m:Int) (s:Pt) (F f:Fs),(runK l k n m (s,F)).1 = (runK l k n m (s,f)).1
 | 0,_,_,_,_=>rfl
 | n + 1,m,s,F,f=>by
  unfold runK;exact runK_spot l k n (m + 1) (stepT l s k) _ _
theorem run_piece {l:List Tk} {ks:List Int} {m0:Int} {st:Pt × Fs} {i n:Nat} {k:Int} {s s':Pt} {f:Fs} (hi:i <= ks.length) (hk:ks.take (i + n) = ks.take i ++ List.replicate n k) (hs:(runS l (ks.take i) m0 st).1 = s)
  (hr:runK l k n (m0 + i) (s,none4) = (s',f)):(runS l (ks.take (i + n)) m0 st).1 = s':=by
 rw [hk,runS_append,runS_rep,List.length_take,Nat.min_eq_left hi];subst hs;have:=runK_spot l k n (m0 + i) (runS l (ks.take i) m0 st).1 (runS l (ks.take i) m0 st).2 none4;rw [hr] at this;exact this
structure Does (g:Nat) (cb:Array Value) (n0 n1:Nat) (I:Nat -> World -> Prop) (l:List Tk) (ks:List Int) (m0:Int) (s0:Pt):Prop where
 bel:∀ i W W',I i W -> Below W.heap.size W W' -> I i W'
 upd:∀ i W W' q t old cs,I i W -> n1 <= q -> Held t -> Bx W q t old -> Upd W q t cs W' -> I i W'
 step:∀ i n k s F s' f W,I i W -> 0 < n -> i + n <= ks.length -> ks.take (i + n) = ks.take i ++ List.replicate n k -> runS l (ks.take i) m0 (s0,none4) = (s,F) -> Pc l s k n -> runK l k n (m0 + i) (s,none4) = (s',f) ->
  Calls Tryz.prog g (#[.agg (pc13 k (m0 + i) (m0 + i + n) s s' f)] ++ cb) W fun e W'=>e = .returned (.tuple #[]) /\ I (i + n) W' /\ KeepT n0 W W'
theorem KeepT.upd {n q:Nat} {t:TypeId} {cs:Array Value} {A B C:World} (h:KeepT n A B) (u:Upd B q t cs C) (hq:A.heap.size <= q) (hn:n <= q):KeepT n A C :=
 ⟨h.bel.trans (u.bel n hn),fun g s ds b ht=>u.bx (h.box g s ds b ht) (by have:=b.lt; omega)⟩
theorem KeepT.below {n:Nat} {A B C:World} (h:KeepT n A B) (hb:Below B.heap.size B C) (hn:n <= A.heap.size):KeepT n A C :=
 h.trans (KeepT.of_below hb (Nat.le_trans hn h.bel.size))
end Go.Proofs.YtiamnbddbmgffaaGreatDoor
