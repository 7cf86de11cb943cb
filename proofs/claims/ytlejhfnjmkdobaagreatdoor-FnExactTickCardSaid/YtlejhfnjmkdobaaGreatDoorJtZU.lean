/- Joined texts. -/
import Derived.Test.YtlejhfnjmkdobaaGreatDoorJtZT
set_option linter.unusedVariables false
set_option linter.unusedSimpArgs false
set_option maxRecDepth 10000
set_option maxHeartbeats 16000000
namespace Go.Proofs.YtlejhfnjmkdobaaGreatDoor
open ChangeShapes WideShapes ChangeAt RowKit
open Go.Proofs.Tryz
namespace TT8
open N0 (Ln)
open N1 (Sl)
open Z0 (dat Row Lns Kp kval kvals)
open KD (KA KA2 Small kob zk)
open AQ (Bx bx_new co Sz wo wo1)
open LF (Btw OwnIn)
open MU (Oh)
open TP (Rt run on tick)
open TQ (wk)
open TE (er Errs)
open TT7 (Cx blk_cx errs_mono oh_set)
theorem oh_lo {lo lo' hi:Nat} {a:Option Addr} {ds:List Ln} {W:World} (h:Oh lo hi a ds W) (hl:lo'<=lo):Oh lo' hi a ds W:=h.imp id fun ⟨g,b,ss,L,e,h1,h2,h3⟩=>⟨g,b,ss,L,e,by omega,h2,h3⟩
theorem cx_drew {lo B:Nat} {w W:World} (h:Cx lo B w W):Cx lo B w W.drew:=h.trans (Cx.ofBelow ((Below.refl lo W).drew))
def Q (w:World) (k:Kp) (R:Kp × List Int) (B:Nat):Prop:=∀ (W:World) (P:Nat) (a':Option Addr) (c':Nat),w.heap.size+3<=P->K0.Blk P (wk k a' c') W->Oh (w.heap.size+3) P a' k.ds W->k.ds.length<=c'->c'<=maxLen->Bq w W->
 Calls prog 22 #[.pointer (some ⟨P,0,none⟩),.pointer (some ⟨B,0,none⟩)] W fun e w'=>e=.returned .nilIface/\K0.Blk P (wk R.1 a' c') w'/\Oh (w.heap.size+3) P a' R.1.ds w'/\(∃ ac cc,K0.Blk B [.slice ac R.2.length cc] w'/\J0.Own (P+1) w' ac R.2)/\Cx (w.heap.size+3) B W w'
def Fin (lo top B:Nat) (w:World) (R:Kp × List Int) (a:Option Addr) (W:World):Prop:=∃ hi,lo<=hi/\Oh lo hi a R.1.ds W/\(∃ ac cc,K0.Blk B [.slice ac R.2.length cc] W/\J0.Own hi W ac R.2)/\Cx top B w W
theorem fin_mk {lo top B hi cc:Nat} {w W:World} {R:Kp × List Int} {a ac:Option Addr} (h0:lo<=hi) (h1:Oh lo hi a R.1.ds W) (h2:K0.Blk B [.slice ac R.2.length cc] W) (h3:J0.Own hi W ac R.2) (h4:Cx top B w W):Fin lo top B w R a W:=⟨hi,h0,h1,⟨ac,cc,h2,h3⟩,h4⟩
theorem ask (k:Kp) (R:Kp × List Int) (a:Option Addr) (c:Nat) (s0:Nat->Sl) (B:Nat) (w:World) (hz:Sz k) (hok:KI.iK k=true) (hR:Lns w a k.ds s0) (hB:B<w.heap.size) (HQ:Q w k R B) :
  Calls prog 50 #[kval k a c,.func (.func 22) #[] #[Pv B 0]] w fun e w'=>∃ a2 c2,e=.returned (.tuple #[kval R.1 a2 c2,Iv 0])/\Fin (w.heap.size+3) w.heap.size B w R a2 w':=by
 have t0:=bx_new w k a c
 have HL:Hid (∀ W,Bq w W->Lns W a k.ds s0):=fun W hb=>hR.below hb
 have hk0:=KI.impl_KeeperOk k a c s0 _ hz.m hz.d hz.t (hz.fits s0) (HL.out _ t0.bel);rw[hok] at hk0
 have HC:Hid (∀ W,Bq w W->_):=fun W hb=>KD.keeperCopy2 k a c s0 W (by have:=hz.m;omega) (by have:=hz.d;omega) (by have:=hz.t;omega) hz.small (HL.out W hb)
 have HQ':Hid (Q w k R B):=HQ;obtain ⟨k',hk'⟩:∃ k',R.1=k':=⟨_,rfl⟩;have c0:=t0.box.c0;have c1:=t0.box.c1;have c2:=t0.box.c2;have c3:=t0.box.c3;obtain ⟨W0,hW0⟩:∃ W0,((w.alloc (kob k a c)).alloc zk).alloc co=W0:=⟨_,rfl⟩;rw[hW0] at t0 hk0 c0 c1 c2 c3;have hm0:=AQ.hmf;have z0:=t0.code.lt;have HK:Hid (R.1=k'):=hk';rw[hk'];clear hR hok HL HQ hk'
 go_enter_defers func50,ntmps50
 go_wp2_with (first
  | (go_at_call 78;refine hk0.mono ?_;rintro e w1 ⟨rfl,b1⟩;have t1:=t0.below b1;have c0:=t1.box.c0;have c1:=t1.box.c1;have c2:=t1.box.c2;have c3:=t1.box.c3)
  | (go_at_call 51;refine (HC.out _ t1.bel).mono ?_;rintro e w2 ⟨a2,c2',rfl,o2,b2,hcap,hcm⟩;have nw:=K0.below_new w2 (wo k a2 c2');have t2:=(t1.below b2).below nw;have p2:=K0.blk_new [.int .i32 0,.int .u32 0,.string k.mem,.string k.dur,.slice a2 k.ds.length c2',Iv k.ck] w2 63;have hb1:=b1.size;have hb2:=b2.size;have l0:=p2.cell 0 (by simp);have l0f:=p2.free 0 (by simp);simp only[List.getElem_cons_zero] at l0)
  | (go_at_call 79;refine (Go.MuLone.lock_free LM.lib ⟨w2.heap.size,0,none⟩ _ l0 l0f).mono ?_;rintro e w4 ⟨rfl,rfl⟩;clear t2 p2 l0 l0f nw;have nw:=K0.below_new w2 (wo1 k a2 c2');have t4:=(t1.below b2).below nw;have p4:=K0.blk_new [.int .i32 1,.int .u32 0,.string k.mem,.string k.dur,.slice a2 k.ds.length c2',Iv k.ck] w2 63;have o4:Oh (w.heap.size+3) w2.heap.size a2 k.ds (w2.alloc (wo1 k a2 c2')):=(oh_lo (MU.oh_of o2) (by omega)).below nw;have hq5:=HQ'.out (w2.alloc (wo1 k a2 c2')) w2.heap.size a2 c2' (by omega) p4 o4 hcap hcm t4.bel;rw[HK.out] at hq5)
  | (go_at_call 22;refine hq5.mono ?_;rintro e w5 ⟨rfl,p5,o5,⟨ac,cc,yB5,yo5⟩,x5⟩;have k5:=blk_cx t4.code x5 (by omega) (by omega);have n5:=blk_cx t4.ans x5 (by omega) (by omega);have l5:Cx w.heap.size B w w5:=(Cx.ofBelow t4.bel).trans (x5.mono (by omega));have j0:=k5.c0;have jf:=k5.f0;have y0:=n5.c0;have y1:=n5.c1;have y2:=n5.c2;have y3:=n5.c3;have g0:=n5.f0;have g1:=n5.f1;have g2:=n5.f2;have g3:=n5.f3)
  | (go_at_call 53;refine (AK.codeOf_nil _).mono ?_;rintro e w6 ⟨rfl,hw6⟩;subst w6))
 have hP:w.heap.size+3<=w2.heap.size:=by omega
 have p6:=p5.setOther (B':=w.heap.size+1+1) (by omega) 0 (Iv 0);have k6:=k5.set 0 (Iv 0);have n6:=n5.setOther (B':=w.heap.size+1+1) (by omega) 0 (Iv 0);have o6:=oh_set o5 (G:=w.heap.size+1+1) (Or.inl (by omega)) 0 (Iv 0);have yB6:=yB5.setOther (B':=w.heap.size+1+1) (by omega) 0 (Iv 0);have yo6:=yo5.set (B:=w.heap.size+1+1) (by omega) 0 (Iv 0);have l6:=l5.set (p:=⟨w.heap.size+1+1,0,none⟩) (Or.inr (by show w.heap.size<=w.heap.size+1+1;omega)) (Iv 0);obtain ⟨W6,hW6⟩:∃ W6,w5.setCell ⟨w.heap.size+1+1,0,none⟩ (Iv 0)=W6:=⟨_,rfl⟩;rw[hW6] at p6 k6 n6 o6 yB6 yo6 l6 ⊢;have v0:=p6.cell 0 (by simp);have v2:=p6.cell 2 (by simp);have v3:=p6.cell 3 (by simp);have v4:=p6.cell 4 (by simp);have v5:=p6.cell 5 (by simp);simp only[List.getElem_cons_zero,List.getElem_cons_succ] at v0 v2 v3 v4 v5;have q0:=k6.cell 0 (by simp);simp only[List.set_cons_zero,List.getElem_cons_zero] at q0;have qf:=k6.free 0 (by simp);have r0:=n6.c0;have r1:=n6.c1;have r2:=n6.c2;have r3:=n6.c3;have rf0:=n6.f0;have rf1:=n6.f1;have rf2:=n6.f2;have rf3:=n6.f3;clear hW6 j0 jf y0 y1 y2 y3 g0 g1 g2 g3 c0 c1 c2 c3 hk0 HC HQ' hq5 hm0
 go_region
 have p7:=(((((p6.setOther (B':=w.heap.size+1) (by omega) 0 (.string k'.mem)).setOther (B':=w.heap.size+1) (by omega) 1 (.string k'.dur)).setOther (B':=w.heap.size+1) (by omega) 2 (.slice a2 k'.ds.length c2')).setOther (B':=w.heap.size+1) (by omega) 3 (Iv k'.ck)).setOther (B':=w.heap.size+1+1) (by omega) 0 (Iv 0)).drew;have n7:=((n6.put4 (.string k'.mem) (.string k'.dur) (.slice a2 k'.ds.length c2') (Iv k'.ck)).setOther (B':=w.heap.size+1+1) (by omega) 0 (Iv 0)).drew;have k7:=(((((k6.setOther (B':=w.heap.size+1) (by omega) 0 (.string k'.mem)).setOther (B':=w.heap.size+1) (by omega) 1 (.string k'.dur)).setOther (B':=w.heap.size+1) (by omega) 2 (.slice a2 k'.ds.length c2')).setOther (B':=w.heap.size+1) (by omega) 3 (Iv k'.ck)).set 0 (Iv 0)).drew;have o7:=(oh_set (oh_set (oh_set (oh_set (oh_set o6 (G:=w.heap.size+1) (Or.inl (by omega)) 0 (.string k'.mem)) (G:=w.heap.size+1) (Or.inl (by omega)) 1 (.string k'.dur)) (G:=w.heap.size+1) (Or.inl (by omega)) 2 (.slice a2 k'.ds.length c2')) (G:=w.heap.size+1) (Or.inl (by omega)) 3 (Iv k'.ck)) (G:=w.heap.size+1+1) (Or.inl (by omega)) 0 (Iv 0)).below ((Below.refl _ _).drew)
 have yB7:=(((((yB6.setOther (B':=w.heap.size+1) (by omega) 0 (.string k'.mem)).setOther (B':=w.heap.size+1) (by omega) 1 (.string k'.dur)).setOther (B':=w.heap.size+1) (by omega) 2 (.slice a2 k'.ds.length c2')).setOther (B':=w.heap.size+1) (by omega) 3 (Iv k'.ck)).setOther (B':=w.heap.size+1+1) (by omega) 0 (Iv 0)).drew;have yo7:=(((((yo6.set (B:=w.heap.size+1) (by omega) 0 (.string k'.mem)).set (B:=w.heap.size+1) (by omega) 1 (.string k'.dur)).set (B:=w.heap.size+1) (by omega) 2 (.slice a2 k'.ds.length c2')).set (B:=w.heap.size+1) (by omega) 3 (Iv k'.ck)).set (B:=w.heap.size+1+1) (by omega) 0 (Iv 0)).drew;have l7:=cx_drew (((((l6.set (p:=⟨w.heap.size+1,0,none⟩) (Or.inr (by show w.heap.size<=w.heap.size+1;omega)) (.string k'.mem)).set (p:=⟨w.heap.size+1,1,none⟩) (Or.inr (by show w.heap.size<=w.heap.size+1;omega)) (.string k'.dur)).set (p:=⟨w.heap.size+1,2,none⟩) (Or.inr (by show w.heap.size<=w.heap.size+1;omega)) (.slice a2 k'.ds.length c2')).set (p:=⟨w.heap.size+1,3,none⟩) (Or.inr (by show w.heap.size<=w.heap.size+1;omega)) (Iv k'.ck)).set (p:=⟨w.heap.size+1+1,0,none⟩) (Or.inr (by show w.heap.size<=w.heap.size+1+1;omega)) (Iv 0));clear v0 v2 v3 v4 v5 q0 qf r0 r1 r2 r3 rf0 rf1 rf2 rf3;go_wp2
 obtain ⟨W7,hW7⟩:∃ W7,(((((W6.setCell ⟨w.heap.size+1,0,none⟩ (.string k'.mem)).setCell ⟨w.heap.size+1,1,none⟩ (.string k'.dur)).setCell ⟨w.heap.size+1,2,none⟩ (.slice a2 k'.ds.length c2')).setCell ⟨w.heap.size+1,3,none⟩ (Iv k'.ck)).setCell ⟨w.heap.size+1+1,0,none⟩ (Iv 0)).drew=W7:=⟨_,rfl⟩;rw[hW7] at p7 n7 k7 o7 yB7 yo7 l7 ⊢;have u0:=p7.cell 0 (by simp);have uf:=p7.free 0 (by simp);simp only[List.getElem_cons_zero] at u0;have n8:=n7.setOther (B':=w2.heap.size) (by omega) 0 (.int .i32 0);have k8:=k7.setOther (B':=w2.heap.size) (by omega) 0 (.int .i32 0);have o8:=oh_set o7 (G:=w2.heap.size) (Or.inr (Nat.le_refl _)) 0 (.int .i32 0);have yB8:=yB7.setOther (B':=w2.heap.size) (by omega) 0 (.int .i32 0);have yo8:=(yo7.set (B:=w2.heap.size) (by omega) 0 (.int .i32 0)).mono (Nat.le_succ w2.heap.size);have l8:=l7.set (p:=⟨w2.heap.size,0,none⟩) (Or.inr (by show w.heap.size<=w2.heap.size;omega)) (.int .i32 0);have HF:Hid (Fin (w.heap.size+3) w.heap.size B w R a2 (W7.setCell ⟨w2.heap.size,0,none⟩ (.int .i32 0))):=fin_mk hP (by rw[HK.out];exact o8) yB8 yo8 l8;refine leaves_cons (f:=81) (args:=#[Pv w.heap.size 0,Pv (w.heap.size+1) 0,Pv (w.heap.size+1+1) 0]) (by simp) (by simp[go_sem]) ?_;refine (AK.idle _ _ _ _).mono ?_;rintro e u' w'' ⟨rfl,rfl,rfl⟩;refine leaves_cons (f:=80) (args:=#[Pv w2.heap.size 0]) (by simp[settle]) (by simp[go_sem]) ?_
 refine (Go.MuLone.unlock_deferred LM.lib ⟨w2.heap.size,0,none⟩ _ _ u0 uf).mono ?_;rintro e u' w'' ⟨rfl,rfl,rfl⟩;have v0:=n8.c0;have v1:=n8.c1;have v2:=n8.c2;have v3:=n8.c3;have v4:=k8.cell 0 (by simp);simp only[List.set_cons_zero,List.getElem_cons_zero] at v4;simp[Leaves,settle,results,results50,go_sem,v0,v1,v2,v3,v4];exact HF.out
end TT8
namespace TT9
open N0 (Ln)
open N1 (Sl)
open Z0 (dat Row Lns Kp kval kvals)
open KD (KA KA2 Small kob zk)
open AQ (Sz)
open LF (Btw OwnIn)
open MU (Oh)
open PD (B2 b2_new)
open TP (Rt run on tick)
open TQ (wk)
open TE (er Errs)
open TT7 (Cx blk_cx errs_mono oh_set)
open TT8 (Fin fin_mk oh_lo cx_drew)
section
variable {lo lo' top top' B : Nat} {w W W' : World} {R : Kp × List Int} {a : Option Addr}
theorem fin_below (h:Fin lo top B w R a W) (hb:Bq W W') (ht:top<=W.heap.size):Fin lo top B w R a W':=by
 obtain ⟨hi,h0,h1,⟨ac,cc,h2,h3⟩,h4⟩:=h;exact ⟨hi,h0,h1.below hb,⟨ac,cc,h2.below hb,h3.below hb⟩,h4.trans (Cx.ofBelow (hb.mono ht))⟩
theorem fin_set {G:Nat} (h:Fin lo top B w R a W) (hG:G<lo) (hB:G≠B) (ht:top<=G) (j:Nat) (v:Value):Fin lo top B w R a (W.setCell ⟨G,j,none⟩ v):=by
 obtain ⟨hi,h0,h1,⟨ac,cc,h2,h3⟩,h4⟩:=h;exact ⟨hi,h0,oh_set h1 (Or.inl hG) j v,⟨ac,cc,h2.setOther hB j v,h3.set (by omega) j v⟩,h4.set (Or.inr ht) v⟩
theorem fin_from {v:World} (h:Fin lo top B w R a W) (hb:Below top' v w) (hl:lo'<=lo) (ht:top'<=top):Fin lo' top' B v R a W:=by
 obtain ⟨hi,h0,h1,h2,h4⟩:=h;exact ⟨hi,by omega,oh_lo h1 hl,h2,(Cx.ofBelow hb).trans (h4.mono ht)⟩
theorem fin_cx (h:Fin lo top B w R a W):Cx top B w W:=h.choose_spec.2.2.2
end
theorem stay (k:Kp) (R:Kp × List Int) (a:Option Addr) (c B:Nat) (q:Value) (w:World) (hB:B<w.heap.size) (HA:∀ W,Bq w W->w.heap.size+2<=W.heap.size->Calls prog 50 #[kval k a c,q] W fun e w'=>∃ a2 c2,e=.returned (.tuple #[kval R.1 a2 c2,Iv 0])/\Fin (W.heap.size+3) W.heap.size B W R a2 w') :
  Calls prog 21 #[kval k a c,q] w fun e w'=>∃ a2 c2,e=.returned (kval R.1 a2 c2)/\Fin w.heap.size w.heap.size B w R a2 w':=by
 have t0:=b2_new w k a c;have hq:=HA _ t0.bel (by simp);have c0:=t0.box.c0;have c1:=t0.box.c1;have c2:=t0.box.c2;have c3:=t0.box.c3
 have z0:w.heap.size+2=((w.alloc (kob k a c)).alloc zk).heap.size:=by simp
 obtain ⟨W0,hW0⟩:∃ W0,(w.alloc (kob k a c)).alloc zk=W0:=⟨_,rfl⟩;rw[hW0] at t0 hq c0 c1 c2 c3 z0;obtain ⟨k',hk'⟩:∃ k',R.1=k':=⟨_,rfl⟩;rw[hk'] at hq ⊢;clear HA;go_enter func21,ntmps21
 go_wp2_with (go_at_call 50;refine hq.mono ?_;rintro e w1 ⟨a2,c2',rfl,F1⟩;have x1:=fin_cx F1;have s1:=x1.size;have nw:=K0.below_new w1 (.cells #[.string k'.mem,.string k'.dur,.slice a2 k'.ds.length c2',Iv k'.ck] 31);have p1:=K0.blk_new (kvals k' a2 c2') w1 31;have F2:=fin_below F1 nw s1;have an1:=(blk_cx t0.ans x1 (by omega) (by omega)).below nw;have y0:=an1.c0;have y1:=an1.c1;have y2:=an1.c2;have y3:=an1.c3;have g0:=an1.f0;have g1:=an1.f1;have g2:=an1.f2;have g3:=an1.f3;have x0:=p1.c0;have x1':=p1.c1;have x2:=p1.c2;have x3:=p1.c3)
 have q1:=an1.put4 (.string k'.mem) (.string k'.dur) (.slice a2 k'.ds.length c2') (Iv k'.ck);have F3:=fin_from F2 t0.bel (lo':=w.heap.size+3) (top':=w.heap.size) (by omega) (by omega);have F4:=fin_set (fin_set (fin_set (fin_set F3 (G:=w.heap.size+1) (by omega) (by omega) (by omega) 0 (.string k'.mem)) (G:=w.heap.size+1) (by omega) (by omega) (by omega) 1 (.string k'.dur)) (G:=w.heap.size+1) (by omega) (by omega) (by omega) 2 (.slice a2 k'.ds.length c2')) (G:=w.heap.size+1) (by omega) (by omega) (by omega) 3 (Iv k'.ck);have F5:=fin_from F4 (Below.refl w.heap.size w) (lo':=w.heap.size) (top':=w.heap.size) (by omega) (Nat.le_refl _);have v0:=q1.c0;have v1:=q1.c1;have v2:=q1.c2;have v3:=q1.c3;exact bodyPost_ret (v:=kval k' a2 c2') (by simp[results,results21,go_sem,v0,v1,v2,v3]) rfl ⟨a2,c2',rfl,F5⟩
def TA (R:Kp × List Int) (w:World) (e:Ending) (w':World):Prop:=∃ a2 c2 ac cc hi,e=.returned (.tuple #[kval R.1 a2 c2,.slice ac R.2.length cc])/\Oh w.heap.size hi a2 R.1.ds w'/\J0.Own hi w' ac R.2/\w.heap.size<=hi/\Bq w w'
abbrev eo:Obj:=.cells #[] 3
abbrev so (H:Nat):Obj:=.cells #[.slice (some ⟨H,0,none⟩) 0 0] 32
theorem iK_ck {k:Kp} (h:KI.iK k=true):0<=k.ck/\k.ck<=999999:=by
 unfold KI.iK at h;simp only[Bool.and_eq_true,Bool.not_eq_true',decide_eq_false_iff_not] at h;omega
theorem impl_Tick (k:Kp) (a:Option Addr) (c:Nat) (s0:Nat->Sl) (pN pD pB pF pR:Addr) (w:World) (hz:Sz k) (hL:Lns w a k.ds s0) (hE:Errs pN pD pB pF pR w.heap.size w) :
  Calls prog 7 #[kval k a c] w (TA (tick k) w):=by
 have x0:=((((Below.refl w.heap.size w).alloc (Nat.le_refl _) (kob k a c)).alloc (by simp) zk).alloc (by simp;omega) eo).alloc (by simp;omega) (so (w.heap.size+1+1));have kb:=(((K0.blk_new (kvals k a c) w 31).alloc zk).alloc eo).alloc (so (w.heap.size+1+1));have ab:=((K0.blk_at (B:=w.heap.size+1) Z3.zero4 (w.alloc (kob k a c)) 31 (by simp)).alloc eo).alloc (so (w.heap.size+1+1));have sb:=K0.blk_at (B:=w.heap.size+1+1+1) [Sv (w.heap.size+1+1) 0 0] (((w.alloc (kob k a c)).alloc zk).alloc eo) 32 (by simp)
 have z0:w.heap.size+4=((((w.alloc (kob k a c)).alloc zk).alloc eo).alloc (so (w.heap.size+1+1))).heap.size:=by simp
 obtain ⟨W0,hW0⟩:∃ W0,(((w.alloc (kob k a c)).alloc zk).alloc eo).alloc (so (w.heap.size+1+1))=W0:=⟨_,rfl⟩
 have hst:Calls prog 21 #[kval k a c,.func (.func 22) #[] #[Pv (w.heap.size+1+1+1) 0]] W0 fun e w'=>∃ a2 c2,e=.returned (kval (tick k).1 a2 c2)/\Fin W0.heap.size W0.heap.size (w.heap.size+1+1+1) W0 (tick k) a2 w':=by
  rw[hW0] at x0 sb z0
  by_cases hok:KI.iK k=true
  ·have hR:=TP.rt_of hok
   rw[show tick k=run (on k) k.ds.length from if_pos hok]
   refine stay k _ a c _ _ W0 (by omega) fun W hb hs=>?_
   refine TT8.ask k _ a c s0 _ W hz hok ((hL.below x0).below hb) (by omega) ?_;intro V P a' c' hP hp ho hc hcm hV;have h1:w.heap.size<=W0.heap.size:=x0.size;have h2:=hb.size;have hE1:Errs pN pD pB pF pR (W.heap.size+3) V:=errs_mono (((hE.keep x0 (Nat.le_refl _) (Nat.le_refl _)).keep (hb.mono h1) (Nat.le_refl _) h1).keep (hV.mono (by omega)) (Nat.le_refl _) (by omega)) (by omega);exact TT7.quest k P (W.heap.size+3) _ a' c' _ pN pD pB pF pR V hR (iK_ck hok) (by have:=hz.t;omega) hz.t hp ho hc hcm hE1 hP ((sb.below hb).below hV) (by omega)
  ·rw[show tick k=(k,[]) from if_neg hok]
   refine (PD.stay_not k a c _ W0 (fun W hb=>PD.ask_not k a c s0 _ W hz (by simpa using hok) ((hL.below x0).below hb)) fun W hb=>?_).mono ?_
   ·exact KD.keeperCopy k a c s0 W (by have:=hz.m;omega) (by have:=hz.d;omega) (by have:=hz.t;omega) hz.small ((hL.below x0).below hb)
   ·rintro e w' ⟨a2,c2,rfl,o2,b2⟩
    exact ⟨a2,c2,rfl,fin_mk b2.size (MU.oh_of o2) (sb.below b2) (Or.inl rfl) (Cx.ofBelow b2)⟩
 have c0:=kb.c0;have c1:=kb.c1;have c2:=kb.c2;have c3:=kb.c3;rw[hW0] at x0 kb ab sb z0 c0 c1 c2 c3;have hm0:=AQ.hmf
 generalize tick k=R at hst ⊢
 obtain ⟨k',hk'⟩:∃ k',R.1=k':=⟨_,rfl⟩;have HK:Hid (R.1=k'):=hk';rw[hk'] at hst;clear hL hE hk';unfold TA;rw[HK.out];go_enter func7,ntmps7
 go_wp2_with (go_at_call 21;refine hst.mono ?_;rintro e w2 ⟨a2,c2',rfl,F2⟩;have x2:=fin_cx F2;have s2:=x2.size;have n2:=K0.below_new w2 (kob k' a2 c2');have p2:=K0.blk_new (kvals k' a2 c2') w2 31;have F3:=fin_below F2 n2 s2;have an:=(blk_cx ab x2 (by omega) (by omega)).below n2)
 obtain ⟨hi,h0,h1,⟨ac,cc,h2,h3⟩,h4⟩:=F3;rw[HK.out] at h1;have y0:=an.c0;have y1:=an.c1;have y2:=an.c2;have y3:=an.c3;have g0:=an.f0;have g1:=an.f1;have g2:=an.f2;have g3:=an.f3;have q0:=p2.c0;have q1:=p2.c1;have q2:=p2.c2;have q3:=p2.c3;have r0:=h2.c0;clear c0 c1 c2 c3 hst hm0
 go_region
 have an4:=(an.put4 (.string k'.mem) (.string k'.dur) (.slice a2 k'.ds.length c2') (Iv k'.ck)).drew;have bl:Bq w (w2.alloc (kob k' a2 c2')):=x0.trans (h4.below (by omega) (by omega));have oh4:=(oh_set (oh_set (oh_set (oh_set h1 (G:=w.heap.size+1) (Or.inl (by omega)) 0 (.string k'.mem)) (G:=w.heap.size+1) (Or.inl (by omega)) 1 (.string k'.dur)) (G:=w.heap.size+1) (Or.inl (by omega)) 2 (.slice a2 k'.ds.length c2')) (G:=w.heap.size+1) (Or.inl (by omega)) 3 (Iv k'.ck)).below ((Below.refl _ _).drew);have yo4:=((((h3.set (B:=w.heap.size+1) (by omega) 0 (.string k'.mem)).set (B:=w.heap.size+1) (by omega) 1 (.string k'.dur)).set (B:=w.heap.size+1) (by omega) 2 (.slice a2 k'.ds.length c2')).set (B:=w.heap.size+1) (by omega) 3 (Iv k'.ck)).drew;have be4:=((((bl.setCell (p:=⟨w.heap.size+1,0,none⟩) (Nat.le_succ _) (.string k'.mem)).setCell (p:=⟨w.heap.size+1,1,none⟩) (Nat.le_succ _) (.string k'.dur)).setCell (p:=⟨w.heap.size+1,2,none⟩) (Nat.le_succ _) (.slice a2 k'.ds.length c2')).setCell (p:=⟨w.heap.size+1,3,none⟩) (Nat.le_succ _) (Iv k'.ck)).drew;obtain ⟨W7,hW7⟩:∃ W7,(((((w2.alloc (kob k' a2 c2')).setCell ⟨w.heap.size+1,0,none⟩ (.string k'.mem)).setCell ⟨w.heap.size+1,1,none⟩ (.string k'.dur)).setCell ⟨w.heap.size+1,2,none⟩ (.slice a2 k'.ds.length c2')).setCell ⟨w.heap.size+1,3,none⟩ (Iv k'.ck)).drew=W7:=⟨_,rfl⟩;go_wp2;rw[hW7] at an4 oh4 yo4 be4 ⊢;have v0:=an4.c0;have v1:=an4.c1
 have v2:=an4.c2;have v3:=an4.c3;have sx:=x0.size;clear y0 y1 y2 y3 g0 g1 g2 g3 q0 q1 q2 q3 r0;refine bodyPost_ret (v:=.tuple #[kval k' a2 c2',.slice ac R.2.length cc]) (by simp[results,results7,go_sem,v0,v1,v2,v3]) rfl ?_;exact ⟨a2,c2',ac,cc,hi,rfl,oh_lo oh4 sx,yo4,by omega,be4⟩
end TT9
namespace TTC
open N0 (Ln)
open N1 (Sl Lists Fit)
open Z0 (dat Kp Lns kval kvals Row)
open Z4 (Fits)
open KD (kob zk)
open AQ (Sz)
open J0 (IBuf)
open PF (LQ)
open PG (SA)
open TP (Ok back code mayI mayS run cnt Rt Rn rn on tick)
def Clear (G:Nat) (a:Option Addr) (ds:List Ln) (ss:Nat->Sl):Prop:=
 (ds ≠ []->∀ g o,a=some ⟨g,o,none⟩->g≠G)/\∀ j,j<ds.length->((dat ds j).pg ≠ []->∀ g o,(ss j).a1=some ⟨g,o,none⟩->g≠G)/\((dat ds j).po ≠ []->∀ g o,(ss j).a2=some ⟨g,o,none⟩->g≠G)/\((dat ds j).fr ≠ []->∀ g o,(ss j).a3=some ⟨g,o,none⟩->g≠G)
structure But (G:Nat) (W W':World):Prop where
 size:W.heap.size<=W'.heap.size
 block:∀ k,k<W.heap.size->k≠G->W'.heap[k]? = W.heap[k]?
section
variable {G : Nat} {W W' : World} {a : Option Addr} {ds : List Ln} {ss : Nat → Sl}
theorem but_set (W:World) (G j:Nat) (v:Value):But G W (W.setCell ⟨G,j,none⟩ v):=⟨by simp[World.setCell],fun k hk hn=>by
 unfold World.setCell
 simp[Array.getElem?_modify,Ne.symm hn]⟩
theorem But.trans {W'':World} (h:But G W W') (k:But G W' W''):But G W W'':=⟨Nat.le_trans h.size k.size,fun i hi hn=>(k.block i (Nat.lt_of_lt_of_le hi h.size) hn).trans (h.block i hi hn)⟩
theorem row_but {zs:List Int} {p:Option Addr} (h:P0.Row W p zs) (hb:But G W W') (hn:zs ≠ []->∀ g o,p=some ⟨g,o,none⟩->g≠G):P0.Row W' p zs:=by
 by_cases h0:zs=[]
 ·exact Or.inl h0
 ·rcases h with h | ⟨b,off,e,hlt,hc⟩
  ·exact absurd h h0
  ·refine Or.inr ⟨b,off,e,Nat.lt_of_lt_of_le hlt hb.size,fun j hj=>?_⟩
   rw[World.cell?_of_block (a:=⟨b,off+j,none⟩) (hb.block b hlt (hn h0 b off e))];exact hc j hj
theorem lns_but (h:Lns W a ds ss) (hb:But G W W') (hc:Clear G a ds ss):Lns W' a ds ss:=by
 refine ⟨?_,fun j hj=>?_⟩
 ·by_cases h0:ds=[]
  ·exact Or.inl h0
  ·rcases h.row with h1 | ⟨b,off,e,hlt,hcc⟩
   ·exact absurd h1 h0
   ·refine Or.inr ⟨b,off,e,Nat.lt_of_lt_of_le hlt hb.size,fun j hj=>?_⟩
    have hcell:∀ o v,W.cell? ⟨b,o,none⟩=some v->W'.cell? ⟨b,o,none⟩=some v:=fun o v hv=>by
     rw[World.cell?_of_block (a:=⟨b,o,none⟩) (hb.block b hlt (hc.1 h0 b off e))];exact hv
    obtain ⟨y0,y1,y2,y3,y4,y5,y6,y7⟩:=hcc j hj;exact ⟨hcell _ _ y0,hcell _ _ y1,hcell _ _ y2,hcell _ _ y3,hcell _ _ y4,hcell _ _ y5,hcell _ _ y6,hcell _ _ y7⟩
 ·obtain ⟨c1,c2,c3⟩:=hc.2 j hj
  have:=h.sub j hj;exact ⟨row_but this.r1 hb c1,row_but this.r2 hb c2,row_but this.r3 hb c3⟩
theorem clear_fresh (h:Lns W a ds ss) (hG:W.heap.size<=G):Clear G a ds ss:=by
 have row:∀ {zs:List Int} {p:Option Addr},P0.Row W p zs->zs ≠ []->∀ g o,p=some ⟨g,o,none⟩->g≠G:=fun hr h0 g o e=>by
  rcases hr with hr | ⟨b,off,e',hlt,_⟩
  ·exact absurd hr h0
  ·rw[e] at e'
   cases e';omega
 refine ⟨fun h0 g o e=>?_,fun j hj=>⟨row (h.sub j hj).r1,row (h.sub j hj).r2,row (h.sub j hj).r3⟩⟩
 rcases h.row with h1 | ⟨b,off,e',hlt,_⟩
 ·exact absurd h1 h0
 ·rw[e] at e'
  cases e';omega
theorem clear_erase {p:Nat} {a2:Option Addr} {B:Nat} (h:Clear G a ds ss) (hp:p<ds.length) (hf:∀ g o,a2=some ⟨g,o,none⟩->B<=g) (hG:G<B):Clear G a2 (ds.eraseIdx p) (fun j=>if j<p then ss j else ss (j+1)):=by
 refine ⟨fun _ g o e=>by have:=hf g o e;omega,fun j hj=>?_⟩;rw[List.length_eraseIdx,if_pos hp] at hj;rw[TP.dat_erase]
 by_cases hjp:j<p
 ·simp only[if_pos hjp]
  exact h.2 j (by omega)
 ·simp only[if_neg hjp]
  exact h.2 (j+1) (by omega)
end
theorem rx_clear {base G:Nat} {g:Option Nat} {W:World} {a:Option Addr} {zs:List Int} (h:PF.RX base g W a zs) (hG:G<base):zs ≠ []->∀ x o,a=some ⟨x,o,none⟩->x≠G:=fun h0 x o e=>by
 rcases h with h | ⟨b,e',hb,_⟩
 ·exact absurd h h0
 ·rw[e] at e'
  cases e';omega
theorem lq_clear {base G c:Nat} {ds:List Ln} {ss:Nat->Sl} {a:Option Addr} {W:World} (h:LQ base ds ds.length ss a c W) (hG:G<base):Clear G a ds ss:=
 ⟨fun _ g o e=>by have:=(h.own.lt g (by rw[e];rfl)).1;omega,fun j hj=>⟨rx_clear (h.sub j hj).r1 hG,rx_clear (h.sub j hj).r2 hG,rx_clear (h.sub j hj).r3 hG⟩⟩
theorem lq_cap {base c:Nat} {ds:List Ln} {ss:Nat->Sl} {a:Option Addr} {W:World} (h:LQ base ds ds.length ss a c W):ds.length<=c/\c<=maxLen:=by
 rcases h.own.2 with ⟨h0,h1⟩ | ⟨g,cc,cur,hv,_,_,hle,hm,_⟩
 ·simp at h0
  omega
 ·simp at hv
  omega
theorem cnt_len (k:Kp):∀ j,cnt k.ck k.ds j+(run k j).2.length=j
 | 0=>rfl
 | j+1=>by
  have ih:=cnt_len k j
  by_cases h:(dat k.ds j).un<=k.ck
  ·rw[cnt,if_pos h,run,if_pos h]
   simp;omega
  ·rw[cnt,if_neg h,run,if_neg h]
   omega
def sl:Value->Nat
 | .slice _ n _=>n
 | _=>0
def SB (R:Kp × List Int) (w:World) (e:Ending) (w':World):Prop:=∃ a' c' ss ac cc,e=.returned (.tuple #[kval R.1 a' c',.slice ac R.2.length cc])/\Lns w' a' R.1.ds ss/\P0.Row w' ac R.2/\Bq w w'
theorem sb_ans {R:Kp × List Int} {w W:World} {a ac:Option Addr} {c cc:Nat} {ss:Nat->Sl} (h1:Lns W a R.1.ds ss) (h2:P0.Row W ac R.2) (h3:Bq w W):SB R w (.returned (.tuple #[kval R.1 a c,.slice ac R.2.length cc])) W:=⟨a,c,ss,ac,cc,rfl,h1,h2,h3⟩
structure Sb (w:World) (K:Kp) (cs:List Int) (a:Option Addr) (c:Nat) (ss:Nat->Sl) (a':Option Addr) (cap':Nat) (W:World):Prop where
 box:K0.Blk w.heap.size (kvals K a c) W
 ans:K0.Blk (w.heap.size+1) Z3.zero4 W
 ls:Lns W a K.ds ss
 k0:Clear w.heap.size a K.ds ss
 k1:Clear (w.heap.size+1) a K.ds ss
 kc:∀ x,(Value.slice a' cs.length cap').ownBlock=some x->Clear x a K.ds ss
 cap:K.ds.length<=c/\c<=maxLen
 buf:IBuf (w.heap.size+2) W a' cs.length cap' cs
 bel:Bq w W
variable {w W W' : World} {K : Kp} {cs : List Int} {a a' : Option Addr} {c cap' : Nat} {ss : Nat → Sl}
theorem Sb.below (h:Sb w K cs a c ss a' cap' W) (hb:Bq W W'):Sb w K cs a c ss a' cap' W':=⟨h.box.below hb,h.ans.below hb,h.ls.below hb,h.k0,h.k1,h.kc,h.cap,h.buf.below hb,h.bel.trans (hb.mono h.bel.size)⟩
theorem ibuf_set {base n B j:Nat} {v:Value} {zs:List Int} (h:IBuf base W a' n cap' zs) (hB:B<base):IBuf base (W.setCell ⟨B,j,none⟩ v) a' n cap' zs:=⟨h.1,ownsRow_setCell_below h.2 (a:=⟨B,j,none⟩) hB v⟩
theorem sb_ck (h:Sb w K cs a c ss a' cap' W) (x:Int):Sb w ⟨K.mem,K.dur,K.ds,x⟩ cs a c ss a' cap' (W.setCell ⟨w.heap.size,3,none⟩ (Iv x)):=
 ⟨h.box.set 3 (Iv x),h.ans.setOther (by omega) 3 _,lns_but h.ls (but_set _ _ _ _) h.k0,h.k0,h.k1,h.kc,h.cap,ibuf_set h.buf (by omega),h.bel.setCell (p:=⟨w.heap.size,3,none⟩) (Nat.le_refl _) _⟩
theorem sb_put {K2:Kp} {a2:Option Addr} {c2:Nat} {s2:Nat->Sl} (hb:K0.Blk w.heap.size (kvals K a c) W) (ha:K0.Blk (w.heap.size+1) Z3.zero4 W) (hl:Lns W a2 K2.ds s2) (h0:Clear w.heap.size a2 K2.ds s2) (h1:Clear (w.heap.size+1) a2 K2.ds s2) (hc:∀ x,(Value.slice a' cs.length cap').ownBlock=some x->Clear x a2 K2.ds s2) (hcap:K2.ds.length<=c2/\c2<=maxLen) (hbuf:IBuf (w.heap.size+2) W a' cs.length cap' cs) (hbel:Bq w W) :
  Sb w K2 cs a2 c2 s2 a' cap' ((((W.setCell ⟨w.heap.size,0,none⟩ (.string K2.mem)).setCell ⟨w.heap.size,1,none⟩ (.string K2.dur)).setCell ⟨w.heap.size,2,none⟩ (.slice a2 K2.ds.length c2)).setCell ⟨w.heap.size,3,none⟩ (Iv K2.ck)):=
 ⟨hb.put4 _ _ _ _,(((ha.setOther (by omega) _ _).setOther (by omega) _ _).setOther (by omega) _ _).setOther (by omega) _ _,lns_but hl ((((but_set _ _ _ _).trans (but_set _ _ _ _)).trans (but_set _ _ _ _)).trans (but_set _ _ _ _)) h0,h0,h1,hc,hcap,ibuf_set (ibuf_set (ibuf_set (ibuf_set hbuf (by omega)) (by omega)) (by omega)) (by omega),
  (((hbel.setCell (p:=⟨w.heap.size,0,none⟩) (Nat.le_refl _) _).setCell (p:=⟨w.heap.size,1,none⟩) (Nat.le_refl _) _).setCell (p:=⟨w.heap.size,2,none⟩) (Nat.le_refl _) _).setCell (p:=⟨w.heap.size,3,none⟩) (Nat.le_refl _) _⟩
theorem sb_code {V:World} {x:Int} {g2 cap2 H:Nat} (h:Sb w K cs a c ss a' cap' W) (b2:IBuf (w.heap.size+2) V (some ⟨g2,0,none⟩) (cs.length+1) cap2 (cs ++ [x])) (hb2:Below (w.heap.size+2) W V) (hgr:(W.alloc (.cells #[Iv x] 3)).grownBy V (Value.slice a' cs.length cap').ownBlock) (hor:(Value.slice a' cs.length cap').ownBlock=some g2\/g2=H+1) (hH:W.heap.size=H) :
  Sb w K (cs ++ [x]) a c ss (some ⟨g2,0,none⟩) cap2 V:=by
 have hla:=h.ls.below (K0.below_new W (.cells #[Iv x] 3));refine ⟨J0.blk_keep h.box hb2 (by omega),J0.blk_keep h.ans hb2 (by omega),?_,h.k0,h.k1,fun y hy=>?_,h.cap,?_,h.bel.trans (hb2.mono (by omega))⟩
 ·cases ho:(Value.slice a' cs.length cap').ownBlock with
  | none=>
   rw[ho] at hgr;exact lns_but (G:=V.heap.size) hla ⟨hgr.size,fun k hk _=>hgr.block k hk (by simp)⟩ (clear_fresh hla hgr.size)
  | some y=>
   rw[ho] at hgr;exact lns_but (G:=y) hla ⟨hgr.size,fun k hk hn=>hgr.block k hk (by simpa using hn)⟩ (h.kc y ho)
 ·have hy':g2=y:=by simpa [Value.ownBlock] using hy
  subst hy'
  rcases hor with e | e
  ·exact h.kc _ e
  ·exact clear_fresh h.ls (by omega)
 ·rw[List.length_append]
  exact b2
theorem spec_Tick (k:Kp) (a0:Option Addr) (c0:Nat) (s0:Nat->Sl) (w:World) (hz:Sz k) (hL:Lns w a0 k.ds s0) :
  Calls prog 5 #[kval k a0 c0] w (SB (tick k) w):=by
 have hnn:k.ds.length<=1048576:=by have:=hz.t;omega
 have t0:=PD.b2_new w k a0 c0
 have z0:w.heap.size+2=((w.alloc (kob k a0 c0)).alloc zk).heap.size:=by simp
 obtain ⟨W0,hW0⟩:∃ W0,(w.alloc (kob k a0 c0)).alloc zk=W0:=⟨_,rfl⟩;rw[hW0] at t0 z0;have n0:=K0.below_new W0 (.cells #[] 3);have t1:=t0.below n0;have B1:=J0.ibuf_made (base:=w.heap.size+2) W0 (by omega);have hcp:=PG.l06Copy k a0 c0 s0 (W0.alloc (.cells #[] 3)) hnn hz.small (hL.below t1.bel)
 have z1:(W0.alloc (.cells #[] 3)).heap.size=w.heap.size+2+1:=by rw[z0];simp
 have HK:Hid (∀ a1 c1 ss W,Lns W a1 k.ds ss->_):=fun a1 c1 ss W h=>(KY.sK_eq k) ▸ KS.spec_KeeperOk k a1 c1 ss W hz.m hz.d hz.t (hz.fits ss) h
 have c0':=t1.box.c0;have c1':=t1.box.c1;have c2':=t1.box.c2;have c3':=t1.box.c3
 have HSb:Hid (∀ w1 a1 c1 ss,LQ ((W0.alloc (.cells #[] 3)).heap.size+3) k.ds k.ds.length ss a1 c1 w1->Bq (W0.alloc (.cells #[] 3)) w1->PD.B2 w k a0 c0 w1/\Sb w k [] a1 c1 ss (some ⟨W0.heap.size,0,none⟩) 0 ((((w1.setCell ⟨w.heap.size,0,none⟩ (.string k.mem)).setCell ⟨w.heap.size,1,none⟩ (.string k.dur)).setCell ⟨w.heap.size,2,none⟩ (.slice a1 k.ds.length c1)).setCell ⟨w.heap.size,3,none⟩ (Iv k.ck))):=fun w1 a1 c1 ss h hb=>by
  have t2:=t1.below hb;refine ⟨t2,sb_put (K:=k) (a:=a0) (c:=c0) t2.box t2.ans h.lns (lq_clear h (by omega)) (lq_clear h (by omega)) (fun x hx=>?_) (lq_cap h) (B1.below hb) t2.bel⟩
  have hx':W0.heap.size=x:=by simpa [Value.ownBlock] using hx
  exact lq_clear h (by omega)
 unfold SA at hcp;clear hL t0
 cases hok:KI.iK k with
 | false=>
  rw[show tick k=(k,[]) from if_neg (by rw[hok];decide)]
  rw[hok] at HK;clear hok;go_enter func5,ntmps5
  go_wp2_with (first
   | (go_at_call 16;refine hcp.mono ?_;rintro e w1 ⟨a1,c1,ss,rfl,l1,b1⟩;obtain ⟨t2,u1⟩:=HSb.out w1 a1 c1 ss l1 b1;have x0:=t2.box.c0;have x1:=t2.box.c1;have x2:=t2.box.c2;have x3:=t2.box.c3;have g0:=t2.box.f0;have g1:=t2.box.f1;have g2:=t2.box.f2;have g3:=t2.box.f3;have v0:=u1.box.c0;have v1:=u1.box.c1;have v2:=u1.box.c2;have v3:=u1.box.c3)
   | (go_at_call 17;refine (HK.out _ _ _ _ u1.ls).mono ?_;rintro e w2 ⟨rfl,b2⟩;have u2:=u1.below b2;have d0:=u2.box.c0;have d1:=u2.box.c1;have d2:=u2.box.c2;have d3:=u2.box.c3;have y0:=u2.ans.c0;have y1:=u2.ans.c1;have y2:=u2.ans.c2;have y3:=u2.ans.c3;have f0:=u2.ans.f0;have f1:=u2.ans.f1;have f2:=u2.ans.f2;have f3:=u2.ans.f3))
  have q1:=u2.ans.put4 (.string k.mem) (.string k.dur) (.slice a1 k.ds.length c1) (Iv k.ck);have bb:=(((but_set w2 (w.heap.size+1) 0 (.string k.mem)).trans (but_set _ (w.heap.size+1) 1 (.string k.dur))).trans (but_set _ (w.heap.size+1) 2 (.slice a1 k.ds.length c1))).trans (but_set _ (w.heap.size+1) 3 (Iv k.ck));have ll:=lns_but u2.ls bb u2.k1;have mm:=(((u2.bel.setCell (p:=⟨w.heap.size+1,0,none⟩) (Nat.le_succ _) (.string k.mem)).setCell (p:=⟨w.heap.size+1,1,none⟩) (Nat.le_succ _) (.string k.dur)).setCell (p:=⟨w.heap.size+1,2,none⟩) (Nat.le_succ _) (.slice a1 k.ds.length c1)).setCell (p:=⟨w.heap.size+1,3,none⟩) (Nat.le_succ _) (Iv k.ck);have e0:=q1.c0;have e1:=q1.c1;have e2:=q1.c2;have e3:=q1.c3;exact bodyPost_ret (v:=.tuple #[kval k a1 c1,Sv W0.heap.size 0 0]) (by simp[results,results5,go_sem,e0,e1,e2,e3]) rfl (sb_ans (R:=(k,[])) ll (Or.inl rfl) mm)
 | true=>
  have hR:=TP.rt_of hok;have hRo:=TP.rt_on hR;have hck:=TT9.iK_ck hok
  rw[show tick k=run (on k) k.ds.length from if_pos hok]
  rw[hok] at HK;have hdl:(on k).ds=k.ds:=rfl
  have HB:Hid (∀ j a c ss W,j<k.ds.length->(dat k.ds j).un<=(on k).ck->Lns W a (run (on k) j).1.ds ss->(run (on k) j).1.ds.length<=c->c<=maxLen->Calls prog 18 #[kval (run (on k) j).1 a c,Iv (cnt (on k).ck k.ds j)] W fun e w'=>∃ a' c',e=.returned (.tuple #[kval (back (run (on k) j).1 (cnt (on k).ck k.ds j)) a' c',Iv (code (run (on k) j).1 (cnt (on k).ck k.ds j))])/\Lns w' a' (back (run (on k) j).1 (cnt (on k).ck k.ds j)).ds (fun i=>if i<cnt (on k).ck k.ds j then ss i else ss (i+1))/\(∀ g o,a'=some ⟨g,o,none⟩->W.heap.size<=g)/\(back (run (on k) j).1 (cnt (on k).ck k.ds j)).ds.length<=c'/\c'<=maxLen/\Bq W w'):=fun j a c ss W hj hu h1 h2 h3=>by
   have r:=rn (on k) hRo.ok j (by rw[hdl];omega);have hl:=r.len;rw[hdl] at hl;have hz':=TP.sz_run hRo (by rw[hdl];exact hz.t) (j:=j) (by rw[hdl];omega)
   have hp:cnt (on k).ck k.ds j<(run (on k) j).1.ds.length:=by omega
   have hself:dat (run (on k) j).1.ds (cnt (on k).ck k.ds j)=dat k.ds j:=by simpa [hdl] using r.rest 0 (by rw[hdl];omega)
   have hFi:Fits (run (on k) j).1.ds ss:=fun i hi=>by
    have h5:=Z1.tot_one hi;obtain ⟨q1,q2,q3,q4,q5⟩:=N12.sizes (d:=dat (run (on k) j).1.ds i) (by omega);exact ⟨⟨by omega,by omega,by omega⟩,q2,q3⟩
   exact TTB.l06Back (run (on k) j).1 a c (cnt (on k).ck k.ds j) ss W r.ok (by omega) hz' hFi h1 h2 h3 hp (by rw[hself];exact hR.lok j hj) (TP.may_run hRo (by rw[hdl];omega) hp)
  have HN:Hid (∀ j,j<=k.ds.length->(run (on k) j).1.ck=(on k).ck/\(run (on k) j).1.ds.length=cnt (on k).ck k.ds j+(k.ds.length-j)/\(j<k.ds.length->dat (run (on k) j).1.ds (cnt (on k).ck k.ds j)=dat k.ds j)/\cnt (on k).ck k.ds j+(run (on k) j).2.length=j):=fun j hj=>by
   have r:=rn (on k) hRo.ok j (by rw[hdl];omega);have hl:=r.len;rw[hdl] at hl;exact ⟨r.ck,hl,fun h=>by simpa [hdl] using r.rest 0 (by rw[hdl];omega),cnt_len (on k) j⟩
  have x9a:(0:Int)<=k.ck:=hck.1;clear hok hR hRo hz
  by_cases h9:k.ck<999999
  ·have hon:on k=⟨k.mem,k.dur,k.ds,k.ck+1⟩:=by unfold on;rw[if_pos h9]
   have HON:Hid (on k=⟨k.mem,k.dur,k.ds,k.ck+1⟩):=hon;clear hon hck;go_enter func5,ntmps5
   go_wp2_with (first
    | (go_at_call 16;refine hcp.mono ?_;rintro e w1 ⟨a1,c1,ss,rfl,l1,b1⟩;obtain ⟨t2,u1⟩:=HSb.out w1 a1 c1 ss l1 b1;have x0:=t2.box.c0;have x1:=t2.box.c1;have x2:=t2.box.c2;have x3:=t2.box.c3;have g0:=t2.box.f0;have g1:=t2.box.f1;have g2:=t2.box.f2;have g3:=t2.box.f3;have v0:=u1.box.c0;have v1:=u1.box.c1;have v2:=u1.box.c2;have v3:=u1.box.c3)
    | (go_at_call 17;refine (HK.out _ _ _ _ u1.ls).mono ?_;rintro e w2 ⟨rfl,b2⟩;have u2:=u1.below b2;have d3:=u2.box.c3;have h3:=u2.box.f3))
   have U3:Hid (Sb w (run (on k) 0).1 (run (on k) 0).2 a1 c1 ss (some ⟨W0.heap.size,0,none⟩) 0 (w2.setCell ⟨w.heap.size,3,none⟩ (Iv (k.ck+1)))):=by
    have:=sb_ck u2 (k.ck+1);rw[<- HON.out] at this;exact this
   clear x0 x1 x2 x3 g0 g1 g2 g3 v0 v1 v2 v3 d3 h3 u1 u2 t2 l1 b1 b2 hcp HSb c0' c1' c2' c3' B1 n0 t1 HK hW0
   go_loopw [4,5] (fun p i w'=>∃ (j:Nat) (a:Option Addr) (c:Nat) (ss:Nat->Sl) (a':Option Addr) (cap':Nat),j<=k.ds.length/\i=Iv (cnt (on k).ck k.ds j:Nat)/\p=.slice a' (run (on k) j).2.length cap'/\Hid (Sb w (run (on k) j).1 (run (on k) j).2 a c ss a' cap' w')) (fun p i _=>k.ds.length-((intOf i).toNat+sl p))
   case atStart=>exact ⟨0,a1,c1,ss,_,0,Nat.zero_le _,rfl,rfl,U3⟩
   case round=>
    obtain ⟨j,a,c,ss,a',cap',hj,rfl,rfl,HS⟩:=hrel;clear U3;obtain ⟨hck,hlen,hdat,hcl⟩:=HN.out j hj
    by_cases hlt:j<k.ds.length
    ·have hself:=hdat hlt
     have hp:cnt (on k).ck k.ds j<(run (on k) j).1.ds.length:=by omega
     obtain ⟨b,off,rfl,hbl,hcc⟩:=HS.out.ls.row.get hp;obtain ⟨-,-,y2,-,-,-,-,-⟩:=hcc _ hp;rw[hself] at y2;have hB:=HB.out j (some ⟨b,off,none⟩) c ss wr.drew hlt
     have HR1:Hid ((dat k.ds j).un<=(on k).ck->run (on k) (j+1)=(back (run (on k) j).1 (cnt (on k).ck k.ds j),(run (on k) j).2 ++ [code (run (on k) j).1 (cnt (on k).ck k.ds j)])/\cnt (on k).ck k.ds (j+1)=cnt (on k).ck k.ds j):=fun h=>⟨by rw[run];exact if_pos h,by rw[cnt,if_pos h]⟩
     have HR2:Hid (¬ (dat k.ds j).un<=(on k).ck->run (on k) (j+1)=run (on k) j/\cnt (on k).ck k.ds (j+1)=cnt (on k).ck k.ds j+1):=fun h=>⟨by rw[run];exact if_neg h,by rw[cnt,if_neg h]⟩
     have k0:=HS.out.box.c0;have k1:=HS.out.box.c1;have k2:=HS.out.box.c2;have k3:=HS.out.box.c3;have HSd:Hid (Sb w (run (on k) j).1 (run (on k) j).2 (some ⟨b,off,none⟩) c ss a' cap' wr.drew):=HS.out.below ((Below.refl _ _).drew);have HPp:Hid (cnt (on k).ck k.ds j<(run (on k) j).1.ds.length):=hp
     generalize hRj:run (on k) j=Rj at *
     generalize hpj:cnt (on k).ck k.ds j=pj at *
     obtain ⟨un,hun⟩:∃ un,(dat k.ds j).un=un:=⟨_,rfl⟩;rw[hun] at y2 hB HR1 HR2;have HCK:Hid (Rj.1.ck=(on k).ck):=hck
     have z1:(0:Int)<=(pj:Int):=by omega
     have z2:(pj:Int)<(Rj.1.ds.length:Int):=by omega
     clear hRj hpj hdat hself hcc hbl hun hlen HS
     by_cases hu:un<=Rj.1.ck
     ·have hB2:=hB (by rw[<- HCK.out];exact hu) HSd.out.ls HSd.out.cap.1 HSd.out.cap.2
      obtain ⟨r1,r2⟩:=HR1.out (by rw[<- HCK.out];exact hu);have HQ1:Hid (run (on k) (j+1)=(back Rj.1 pj,Rj.2 ++ [code Rj.1 pj])):=r1;have HQ2:Hid (cnt (on k).ck k.ds (j+1)=pj):=r2
      have HU7:Hid (∀ W6 a5 c5,Bq wr.drew W6->Lns W6 a5 (back Rj.1 pj).ds (fun i=>if i<pj then ss i else ss (i+1))->(∀ g o,a5=some ⟨g,o,none⟩->wr.drew.heap.size<=g)->(back Rj.1 pj).ds.length<=c5->c5<=maxLen->K0.Blk w.heap.size (kvals Rj.1 (some ⟨b,off,none⟩) c) W6/\Sb w (back Rj.1 pj) Rj.2 a5 c5 (fun i=>if i<pj then ss i else ss (i+1)) a' cap' ((((W6.setCell ⟨w.heap.size,0,none⟩ (.string (back Rj.1 pj).mem)).setCell ⟨w.heap.size,1,none⟩ (.string (back Rj.1 pj).dur)).setCell ⟨w.heap.size,2,none⟩ (.slice a5 (back Rj.1 pj).ds.length c5)).setCell ⟨w.heap.size,3,none⟩ (Iv (back Rj.1 pj).ck))):=fun W6 a5 c5 h1 h2 h3 h4 h5=>by
       have hd:=HSd.out;have h6:=hd.below h1;have q0:=hd.ans.lt;exact ⟨h6.box,sb_put h6.box h6.ans h2 (clear_erase hd.k0 HPp.out h3 (by omega)) (clear_erase hd.k1 HPp.out h3 (by omega)) (fun x hx=>clear_erase (hd.kc x hx) HPp.out h3 (hd.buf.2.lt x hx).2) ⟨h4,h5⟩ h6.buf h6.bel⟩
      have hsz:=HSd.out.ans.lt
      generalize back Rj.1 pj=R2 at *
      generalize code Rj.1 pj=cd at *
      clear r1 r2 hB HR1 HR2 HB HN hck;go_wp2
      go_region
      go_wp2_with (first
       | (go_at_call 18;refine hB2.mono ?_;rintro e w5 ⟨a5,c5,rfl,l5,fr5,cp5,cm5,b5⟩;have nw:=K0.below_new w5 (kob R2 a5 c5);have b6:=b5.trans (nw.mono b5.size);obtain ⟨bx6,u7⟩:=HU7.out _ a5 c5 b6 (l5.below nw) fr5 cp5 cm5;have U7:Hid (Sb w R2 Rj.2 a5 c5 (fun i=>if i<pj then ss i else ss (i+1)) a' cap' (((((w5.alloc (kob R2 a5 c5)).setCell ⟨w.heap.size,0,none⟩ (.string R2.mem)).setCell ⟨w.heap.size,1,none⟩ (.string R2.dur)).setCell ⟨w.heap.size,2,none⟩ (.slice a5 R2.ds.length c5)).setCell ⟨w.heap.size,3,none⟩ (Iv R2.ck))):=u7;have nx:=K0.blk_new (kvals R2 a5 c5) w5 31;have n0:=nx.c0;have n1:=nx.c1;have n2:=nx.c2;have n3:=nx.c3;have m0:=bx6.c0;have m1:=bx6.c1;have m2:=bx6.c2;have m3:=bx6.c3;have o0:=bx6.f0;have o1:=bx6.f1;have o2:=bx6.f2;have o3:=bx6.f3;have HS6:Hid (wr.drew.heap.size<=w5.heap.size):=b5.size;clear u7 l5 fr5 cp5 cm5 b5 b6 nw nx bx6)
       | (at_builtin;refine TT6.append_intG rfl (.tmp 46) (.tmp 48) rfl U7.out.buf cd (by rfl) (H:=w5.heap.size+1) (by simp) (by rfl) (by omega) (by simp;have:=HS6.out;omega) ?_;intro g8 cap8 w8 b8 l8 gr8 or8))
      have U8:=sb_code U7.out b8 l8 gr8 or8 (by simp)
      go_roundw
      case rel=>exact ⟨j+1,a5,c5,_,some ⟨g8,0,none⟩,cap8,by omega,by rw[HQ2.out],by rw[HQ1.out,List.length_append];rfl,by rw[HQ1.out];exact U8⟩
      case measure=>simp[intOf,sl];omega
     ·obtain ⟨r1,r2⟩:=HR2.out (by rw[<- HCK.out];exact hu)
      have HQ1:Hid (run (on k) (j+1)=Rj):=r1;have HQ2:Hid (cnt (on k).ck k.ds (j+1)=pj+1):=r2
      have hu':Rj.1.ck<un:=by omega
      clear hB r1 r2 HR1 HR2 HB HN hck hu;go_wp2
      go_region
      go_wp2
      go_roundw
      case rel=>exact ⟨j+1,some ⟨b,off,none⟩,c,ss,a',cap',by omega,by rw[HQ2.out];go_num,by rw[HQ1.out],by rw[HQ1.out];exact HSd.out⟩
      case measure=>simp[intOf,sl];omega
    ·obtain rfl:j=k.ds.length:=by omega
     have uu:=HS.out
     have hl2:(run (on k) k.ds.length).1.ds.length=cnt (on k).ck k.ds k.ds.length:=by omega
     have z2:¬ ((cnt (on k).ck k.ds k.ds.length:Nat):Int)<((run (on k) k.ds.length).1.ds.length:Int):=by omega
     have HG:Hid (∀ R,R=run (on k) k.ds.length->R=run (on k) k.ds.length):=fun R h=>h
     obtain ⟨R,hRR⟩:∃ R,run (on k) k.ds.length=R:=⟨_,rfl⟩;obtain ⟨pj,hpj⟩:∃ pj,cnt (on k).ck k.ds k.ds.length=pj:=⟨_,rfl⟩;have HRR:Hid (run (on k) k.ds.length=R):=hRR;rw[hRR] at uu z2 ⊢;rw[hpj] at z2 ⊢;clear HS hck hlen hdat hcl hl2 hRR hpj HG HB HN;have q1:=uu.ans.put4 (.string R.1.mem) (.string R.1.dur) (.slice a R.1.ds.length c) (Iv R.1.ck);have bb:=(((but_set wr (w.heap.size+1) 0 (.string R.1.mem)).trans (but_set _ (w.heap.size+1) 1 (.string R.1.dur))).trans (but_set _ (w.heap.size+1) 2 (.slice a R.1.ds.length c))).trans (but_set _ (w.heap.size+1) 3 (Iv R.1.ck));have ll:=lns_but uu.ls bb uu.k1;have bf:=ibuf_set (ibuf_set (ibuf_set (ibuf_set uu.buf (B:=w.heap.size+1) (j:=0) (v:=.string R.1.mem) (by omega)) (B:=w.heap.size+1) (j:=1) (v:=.string R.1.dur) (by omega)) (B:=w.heap.size+1) (j:=2) (v:=.slice a R.1.ds.length c) (by omega)) (B:=w.heap.size+1) (j:=3) (v:=Iv R.1.ck) (by omega);have mm:=(((uu.bel.setCell (p:=⟨w.heap.size+1,0,none⟩) (Nat.le_succ _) (.string R.1.mem)).setCell (p:=⟨w.heap.size+1,1,none⟩) (Nat.le_succ _) (.string R.1.dur)).setCell (p:=⟨w.heap.size+1,2,none⟩) (Nat.le_succ _) (.slice a R.1.ds.length c)).setCell (p:=⟨w.heap.size+1,3,none⟩) (Nat.le_succ _) (Iv R.1.ck);have e0:=q1.c0;have e1:=q1.c1;have e2:=q1.c2;have e3:=q1.c3;have y0:=uu.ans.c0;have y1:=uu.ans.c1;have y2:=uu.ans.c2;have y3:=uu.ans.c3;have f0:=uu.ans.f0;have f1:=uu.ans.f1
     have f2:=uu.ans.f2;have f3:=uu.ans.f3;have d0:=uu.box.c0;have d1:=uu.box.c1;have d2:=uu.box.c2;have d3:=uu.box.c3;go_wp2;refine bodyPost_ret (v:=.tuple #[kval R.1 a c,.slice a' R.2.length cap']) (by simp[results,results5,go_sem,e0,e1,e2,e3]) rfl ?_;rw[HRR.out];exact sb_ans ll bf.own.row mm
  ·have hon:on k=k:=by unfold on;rw[if_neg h9]
   have HON:Hid (on k=k):=hon
   have h9':999999<=k.ck:=by omega
   clear hon hck h9;go_enter func5,ntmps5
   go_wp2_with (first
    | (go_at_call 16;refine hcp.mono ?_;rintro e w1 ⟨a1,c1,ss,rfl,l1,b1⟩;obtain ⟨t2,u1⟩:=HSb.out w1 a1 c1 ss l1 b1;have x0:=t2.box.c0;have x1:=t2.box.c1;have x2:=t2.box.c2;have x3:=t2.box.c3;have g0:=t2.box.f0;have g1:=t2.box.f1;have g2:=t2.box.f2;have g3:=t2.box.f3;have v0:=u1.box.c0;have v1:=u1.box.c1;have v2:=u1.box.c2;have v3:=u1.box.c3)
    | (go_at_call 17;refine (HK.out _ _ _ _ u1.ls).mono ?_;rintro e w2 ⟨rfl,b2⟩;have u2:=u1.below b2;have d3:=u2.box.c3;have h3:=u2.box.f3))
   have U3:Hid (Sb w (run (on k) 0).1 (run (on k) 0).2 a1 c1 ss (some ⟨W0.heap.size,0,none⟩) 0 w2):=by
    show Sb w (on k) [] a1 c1 ss (some ⟨W0.heap.size,0,none⟩) 0 w2
    rw[HON.out];exact u2
   clear x0 x1 x2 x3 g0 g1 g2 g3 v0 v1 v2 v3 d3 h3 u1 u2 t2 l1 b1 b2 hcp HSb c0' c1' c2' c3' B1 n0 t1 HK hW0
   go_loopw [4,5] (fun p i w'=>∃ (j:Nat) (a:Option Addr) (c:Nat) (ss:Nat->Sl) (a':Option Addr) (cap':Nat),j<=k.ds.length/\i=Iv (cnt (on k).ck k.ds j:Nat)/\p=.slice a' (run (on k) j).2.length cap'/\Hid (Sb w (run (on k) j).1 (run (on k) j).2 a c ss a' cap' w')) (fun p i _=>k.ds.length-((intOf i).toNat+sl p))
   case atStart=>exact ⟨0,a1,c1,ss,_,0,Nat.zero_le _,rfl,rfl,U3⟩
   case round=>
    obtain ⟨j,a,c,ss,a',cap',hj,rfl,rfl,HS⟩:=hrel;clear U3;obtain ⟨hck,hlen,hdat,hcl⟩:=HN.out j hj
    by_cases hlt:j<k.ds.length
    ·have hself:=hdat hlt
     have hp:cnt (on k).ck k.ds j<(run (on k) j).1.ds.length:=by omega
     obtain ⟨b,off,rfl,hbl,hcc⟩:=HS.out.ls.row.get hp;obtain ⟨-,-,y2,-,-,-,-,-⟩:=hcc _ hp;rw[hself] at y2;have hB:=HB.out j (some ⟨b,off,none⟩) c ss wr.drew hlt
     have HR1:Hid ((dat k.ds j).un<=(on k).ck->run (on k) (j+1)=(back (run (on k) j).1 (cnt (on k).ck k.ds j),(run (on k) j).2 ++ [code (run (on k) j).1 (cnt (on k).ck k.ds j)])/\cnt (on k).ck k.ds (j+1)=cnt (on k).ck k.ds j):=fun h=>⟨by rw[run];exact if_pos h,by rw[cnt,if_pos h]⟩
     have HR2:Hid (¬ (dat k.ds j).un<=(on k).ck->run (on k) (j+1)=run (on k) j/\cnt (on k).ck k.ds (j+1)=cnt (on k).ck k.ds j+1):=fun h=>⟨by rw[run];exact if_neg h,by rw[cnt,if_neg h]⟩
     have k0:=HS.out.box.c0;have k1:=HS.out.box.c1;have k2:=HS.out.box.c2;have k3:=HS.out.box.c3;have HSd:Hid (Sb w (run (on k) j).1 (run (on k) j).2 (some ⟨b,off,none⟩) c ss a' cap' wr.drew):=HS.out.below ((Below.refl _ _).drew);have HPp:Hid (cnt (on k).ck k.ds j<(run (on k) j).1.ds.length):=hp
     generalize hRj:run (on k) j=Rj at *
     generalize hpj:cnt (on k).ck k.ds j=pj at *
     obtain ⟨un,hun⟩:∃ un,(dat k.ds j).un=un:=⟨_,rfl⟩;rw[hun] at y2 hB HR1 HR2;have HCK:Hid (Rj.1.ck=(on k).ck):=hck
     have z1:(0:Int)<=(pj:Int):=by omega
     have z2:(pj:Int)<(Rj.1.ds.length:Int):=by omega
     clear hRj hpj hdat hself hcc hbl hun hlen HS
     by_cases hu:un<=Rj.1.ck
     ·have hB2:=hB (by rw[<- HCK.out];exact hu) HSd.out.ls HSd.out.cap.1 HSd.out.cap.2
      obtain ⟨r1,r2⟩:=HR1.out (by rw[<- HCK.out];exact hu);have HQ1:Hid (run (on k) (j+1)=(back Rj.1 pj,Rj.2 ++ [code Rj.1 pj])):=r1;have HQ2:Hid (cnt (on k).ck k.ds (j+1)=pj):=r2
      have HU7:Hid (∀ W6 a5 c5,Bq wr.drew W6->Lns W6 a5 (back Rj.1 pj).ds (fun i=>if i<pj then ss i else ss (i+1))->(∀ g o,a5=some ⟨g,o,none⟩->wr.drew.heap.size<=g)->(back Rj.1 pj).ds.length<=c5->c5<=maxLen->K0.Blk w.heap.size (kvals Rj.1 (some ⟨b,off,none⟩) c) W6/\Sb w (back Rj.1 pj) Rj.2 a5 c5 (fun i=>if i<pj then ss i else ss (i+1)) a' cap' ((((W6.setCell ⟨w.heap.size,0,none⟩ (.string (back Rj.1 pj).mem)).setCell ⟨w.heap.size,1,none⟩ (.string (back Rj.1 pj).dur)).setCell ⟨w.heap.size,2,none⟩ (.slice a5 (back Rj.1 pj).ds.length c5)).setCell ⟨w.heap.size,3,none⟩ (Iv (back Rj.1 pj).ck))):=fun W6 a5 c5 h1 h2 h3 h4 h5=>by
       have hd:=HSd.out;have h6:=hd.below h1;have q0:=hd.ans.lt;exact ⟨h6.box,sb_put h6.box h6.ans h2 (clear_erase hd.k0 HPp.out h3 (by omega)) (clear_erase hd.k1 HPp.out h3 (by omega)) (fun x hx=>clear_erase (hd.kc x hx) HPp.out h3 (hd.buf.2.lt x hx).2) ⟨h4,h5⟩ h6.buf h6.bel⟩
      have hsz:=HSd.out.ans.lt
      generalize back Rj.1 pj=R2 at *
      generalize code Rj.1 pj=cd at *
      clear r1 r2 hB HR1 HR2 HB HN hck;go_wp2
      go_region
      go_wp2_with (first
       | (go_at_call 18;refine hB2.mono ?_;rintro e w5 ⟨a5,c5,rfl,l5,fr5,cp5,cm5,b5⟩;have nw:=K0.below_new w5 (kob R2 a5 c5);have b6:=b5.trans (nw.mono b5.size);obtain ⟨bx6,u7⟩:=HU7.out _ a5 c5 b6 (l5.below nw) fr5 cp5 cm5;have U7:Hid (Sb w R2 Rj.2 a5 c5 (fun i=>if i<pj then ss i else ss (i+1)) a' cap' (((((w5.alloc (kob R2 a5 c5)).setCell ⟨w.heap.size,0,none⟩ (.string R2.mem)).setCell ⟨w.heap.size,1,none⟩ (.string R2.dur)).setCell ⟨w.heap.size,2,none⟩ (.slice a5 R2.ds.length c5)).setCell ⟨w.heap.size,3,none⟩ (Iv R2.ck))):=u7;have nx:=K0.blk_new (kvals R2 a5 c5) w5 31;have n0:=nx.c0;have n1:=nx.c1;have n2:=nx.c2;have n3:=nx.c3;have m0:=bx6.c0;have m1:=bx6.c1;have m2:=bx6.c2;have m3:=bx6.c3;have o0:=bx6.f0;have o1:=bx6.f1;have o2:=bx6.f2;have o3:=bx6.f3;have HS6:Hid (wr.drew.heap.size<=w5.heap.size):=b5.size;clear u7 l5 fr5 cp5 cm5 b5 b6 nw nx bx6)
       | (at_builtin;refine TT6.append_intG rfl (.tmp 46) (.tmp 48) rfl U7.out.buf cd (by rfl) (H:=w5.heap.size+1) (by simp) (by rfl) (by omega) (by simp;have:=HS6.out;omega) ?_;intro g8 cap8 w8 b8 l8 gr8 or8))
      have U8:=sb_code U7.out b8 l8 gr8 or8 (by simp)
      go_roundw
      case rel=>exact ⟨j+1,a5,c5,_,some ⟨g8,0,none⟩,cap8,by omega,by rw[HQ2.out],by rw[HQ1.out,List.length_append];rfl,by rw[HQ1.out];exact U8⟩
      case measure=>simp[intOf,sl];omega
     ·obtain ⟨r1,r2⟩:=HR2.out (by rw[<- HCK.out];exact hu)
      have HQ1:Hid (run (on k) (j+1)=Rj):=r1;have HQ2:Hid (cnt (on k).ck k.ds (j+1)=pj+1):=r2
      have hu':Rj.1.ck<un:=by omega
      clear hB r1 r2 HR1 HR2 HB HN hck hu;go_wp2
      go_region
      go_wp2
      go_roundw
      case rel=>exact ⟨j+1,some ⟨b,off,none⟩,c,ss,a',cap',by omega,by rw[HQ2.out];go_num,by rw[HQ1.out],by rw[HQ1.out];exact HSd.out⟩
      case measure=>simp[intOf,sl];omega
    ·obtain rfl:j=k.ds.length:=by omega
     have uu:=HS.out
     have hl2:(run (on k) k.ds.length).1.ds.length=cnt (on k).ck k.ds k.ds.length:=by omega
     have z2:¬ ((cnt (on k).ck k.ds k.ds.length:Nat):Int)<((run (on k) k.ds.length).1.ds.length:Int):=by omega
     have HG:Hid (∀ R,R=run (on k) k.ds.length->R=run (on k) k.ds.length):=fun R h=>h
     obtain ⟨R,hRR⟩:∃ R,run (on k) k.ds.length=R:=⟨_,rfl⟩;obtain ⟨pj,hpj⟩:∃ pj,cnt (on k).ck k.ds k.ds.length=pj:=⟨_,rfl⟩;have HRR:Hid (run (on k) k.ds.length=R):=hRR;rw[hRR] at uu z2 ⊢;rw[hpj] at z2 ⊢;clear HS hck hlen hdat hcl hl2 hRR hpj HG HB HN;have q1:=uu.ans.put4 (.string R.1.mem) (.string R.1.dur) (.slice a R.1.ds.length c) (Iv R.1.ck);have bb:=(((but_set wr (w.heap.size+1) 0 (.string R.1.mem)).trans (but_set _ (w.heap.size+1) 1 (.string R.1.dur))).trans (but_set _ (w.heap.size+1) 2 (.slice a R.1.ds.length c))).trans (but_set _ (w.heap.size+1) 3 (Iv R.1.ck));have ll:=lns_but uu.ls bb uu.k1;have bf:=ibuf_set (ibuf_set (ibuf_set (ibuf_set uu.buf (B:=w.heap.size+1) (j:=0) (v:=.string R.1.mem) (by omega)) (B:=w.heap.size+1) (j:=1) (v:=.string R.1.dur) (by omega)) (B:=w.heap.size+1) (j:=2) (v:=.slice a R.1.ds.length c) (by omega)) (B:=w.heap.size+1) (j:=3) (v:=Iv R.1.ck) (by omega);have mm:=(((uu.bel.setCell (p:=⟨w.heap.size+1,0,none⟩) (Nat.le_succ _) (.string R.1.mem)).setCell (p:=⟨w.heap.size+1,1,none⟩) (Nat.le_succ _) (.string R.1.dur)).setCell (p:=⟨w.heap.size+1,2,none⟩) (Nat.le_succ _) (.slice a R.1.ds.length c)).setCell (p:=⟨w.heap.size+1,3,none⟩) (Nat.le_succ _) (Iv R.1.ck);have e0:=q1.c0;have e1:=q1.c1;have e2:=q1.c2;have e3:=q1.c3;have y0:=uu.ans.c0;have y1:=uu.ans.c1;have y2:=uu.ans.c2;have y3:=uu.ans.c3;have f0:=uu.ans.f0;have f1:=uu.ans.f1
     have f2:=uu.ans.f2;have f3:=uu.ans.f3;have d0:=uu.box.c0;have d1:=uu.box.c1;have d2:=uu.box.c2;have d3:=uu.box.c3;go_wp2;refine bodyPost_ret (v:=.tuple #[kval R.1 a c,.slice a' R.2.length cap']) (by simp[results,results5,go_sem,e0,e1,e2,e3]) rfl ?_;rw[HRR.out];exact sb_ans ll bf.own.row mm
end TTC
namespace TTD
open N0 (Ln)
open N1 (Sl)
open Z0 (dat Row Lns Kp kval kvals)
open Z2 (Pl pls Cps)
open Z3 (A)
open LF (Btw OwnIn mfrom mfrom_length)
open LG (Sh)
open KD (kob Small)
open AQ (Sz)
open MU (Oh Mh)
open TP (tick)
open TT9 (TA)
open TTC (SB)
open TE (Errs)
structure Q (w3:World) (k R:Kp) (g Bk lo hi Bg:Nat) (ag:Option Addr) (cg:Nat) (W:World):Prop where
 bel:Bq w3 W
 nb:K0.Blk Bk (kvals k (some ⟨g,0,none⟩) k.ds.length) W
 gb:K0.Blk Bg (kvals R ag cg) W
 o1:w3.heap.size<=g/\g<Bk/\Bk<lo/\lo<=hi/\hi<=Bg
variable {w3 W W' : World} {k R : Kp} {g Bk lo hi Bg cg : Nat} {ag : Option Addr}
theorem Q.below (h:Q w3 k R g Bk lo hi Bg ag cg W) (hb:Bq W W'):Q w3 k R g Bk lo hi Bg ag cg W':=⟨h.bel.trans (hb.mono h.bel.size),h.nb.below hb,h.gb.below hb,h.o1⟩
theorem Q.btw {x y:Nat} (h:Q w3 k R g Bk lo hi Bg ag cg W) (hb:Btw x y W W') (h1:g<=x) (h2:y<=Bk\/Bk<x) (h3:y<=Bg):Q w3 k R g Bk lo hi Bg ag cg W':=by
 have o:=h.o1;have hs:=h.bel.size;exact ⟨h.bel.trans (hb.below (by omega) (by omega)),LF.blk_btw h.nb hb (by omega),LF.blk_btw h.gb hb (Or.inr h3),h.o1⟩
theorem mh_up {lo hi lo' hi':Nat} {a:Option Addr} {ds:List Ln} {W W':World} (h:Mh lo hi a ds W) (hb:Btw lo' hi' W W') (hx:hi<=lo'):Mh lo hi a ds W':=h.imp id fun ⟨g,b,ss,L,e,h1,h2,h3⟩=>⟨g,b,ss,L,e,h1,h2,MU.af_btw h3 hb (Or.inr (by omega))⟩
theorem own_in {lo:Nat} {a:Option Addr} {zs:List Int} {W:World} (h:J0.Own lo W a zs):OwnIn lo W.heap.size W a zs:=h.imp id fun ⟨g,e,h1,h2⟩=>⟨g,e,h1,h2.lt,h2⟩
theorem oh_cut {lo hi:Nat} {a:Option Addr} {ds:List Ln} {W:World} (h:Oh lo hi a ds W):Oh lo (min hi W.heap.size) a ds W:=h.imp id fun ⟨g,b,ss,L,e,h1,h2,h3⟩=>⟨g,b,ss,L,e,h1,by have:=h3.hi;omega,h3⟩
theorem hi_cut {lo hi:Nat} {a ac:Option Addr} {ds:List Ln} {zs:List Int} {W:World} (h0:lo<=hi) (h1:lo<=W.heap.size) (h:Oh lo hi a ds W) (y:OwnIn hi W.heap.size W ac zs):∃ hj,lo<=hj/\hj<=W.heap.size/\Oh lo hj a ds W/\OwnIn hj W.heap.size W ac zs:=
 ⟨min hi W.heap.size,by omega,by omega,oh_cut h,y.mono (by omega) (Nat.le_refl _)⟩
theorem small_of {ds:List Ln} (hs:ds.length+Z1.tot ds ds.length<=1048576):Small ds:=fun j hj=>by
 have h:=Z1.tot_one hj;exact N12.sizes (d:=dat ds j) (by omega)
theorem tick_small {k:Kp} (hs:k.ds.length+Z1.tot k.ds k.ds.length<=1048576):(tick k).1.ds.length+Z1.tot (tick k).1.ds (tick k).1.ds.length<=1048576/\(tick k).2.length<=1048576:=by
 unfold tick
 split
 ·rename_i hok
  have hR:=TP.rt_on (TP.rt_of hok);have hl:k.ds.length<=(TP.on k).ds.length:=Nat.le_refl _;have r:=TP.rn (TP.on k) hR.ok k.ds.length hl;have:=r.cod;exact ⟨TP.sz_run hR hs hl,by omega⟩
 ·exact ⟨hs,by simp⟩
theorem walk (w:World) (k0:Kp) (a0:Option Addr) (c0:Nat) (s0:Nat->Sl) (x0:Z0.FitK k0 s0) (R0:Lns w a0 k0.ds s0) (pN pD pB pF pR:Addr) (hE:Errs pN pD pB pF pR w.heap.size w) :
  Calls prog 3 #[kval k0 a0 c0] w (Rb (.bool true) w):=by
 have t0:=Z3.a_new w k0 a0 c0 s0 R0
 by_cases hz:Z1.small k0
 ·have hz':=hz
  unfold Z1.small at hz'
  have hs:k0.ds.length+Z1.tot k0.ds k0.ds.length<=1048576:=by omega
  have hn:k0.ds.length<=1048576:=by omega
  have hsm:=small_of hs;have hsz:Sz k0:=⟨by omega,by omega,hs⟩
  have HI:Hid (∀ a c ss W,Bq w W->Lns W a k0.ds ss->Calls prog 7 #[kval k0 a c] W (TA (tick k0) W)):=fun a c ss W hb h=>TT9.impl_Tick k0 a c ss pN pD pB pF pR W hsz h (TT7.errs_mono (hE.keep hb (Nat.le_refl _) (Nat.le_refl _)) hb.size)
  have HS:Hid (∀ a c ss W,Lns W a k0.ds ss->_):=fun a c ss W h=>TTC.spec_Tick k0 a c ss W hsz h
  have HZ:Hid (∀ j,j<k0.ds.length->(dat k0.ds j).pg.length<=1048576/\(dat k0.ds j).po.length<=1048576/\(dat k0.ds j).fr.length<=1048576):=MU.small3 hsm;obtain ⟨hsR,hcs⟩:=tick_small hs;obtain ⟨R,cs,hR⟩:∃ R cs,tick k0=(R,cs):=⟨_,_,rfl⟩;rw[hR] at HI HS hsR hcs;simp only at hsR hcs
  have hRn:R.ds.length<=1048576:=by omega
  have hRs:=small_of hsR;have hcn:=MU.cnt_le hRn hRs;have hc0:(0:Int)<=(MU.cnt R.ds:Int):=Int.natCast_nonneg _
  have hcq:decide ((MU.cnt R.ds:Int)<0)=false:=by simp
  have hcq2:decide (((MU.cnt R.ds+cs.length:Nat):Int)<0)=false:=by simp;omega
  unfold SB at HS;unfold TA at HI;simp only at HI HS;clear R0 hz' hR hsm hsz hE;go_enter func3,ntmps3
  go_wp2_with (first
   | (go_at_call 4;refine (Z1.szFit k0 a0 c0 s0 _ x0 hz t0.l.row).mono ?_;rintro e w1 ⟨⟨q,hq,rfl⟩,b1⟩;have hq':decide (q<0)=false:=(by simpa using hq);have t1:=t0.below b1;have f0:=t1.b.c0;have f1:=t1.b.c1;have f2:=t1.b.c2;have f3:=t1.b.c3)
   | (go_at_call 5;refine (HS.out _ _ _ _ cp2.rows).mono ?_;rintro e w3 ⟨aw,cw,sw,av,cv,rfl,wl,wr1,b3⟩;have n3:=K0.below_new w3 (kob R aw cw);have t3:=(t2.below b3).below n3;have wb3:=K0.blk_new (kvals R aw cw) w3 31;have wl3:=wl.below n3;have wr3:=wr1.below n3;have HW:Hid (∀ W,Bq (w3.alloc (kob R aw cw)) W->A w k0 a0 c0 s0 W/\K0.Blk w3.heap.size (kvals R aw cw) W/\Lns W aw R.ds sw/\P0.Row W av cs):=(fun W hb=>⟨t3.below hb,wb3.below hb,wl3.below hb,wr3.below hb⟩);have e0:=t3.b.c0;have e1:=t3.b.c1;have e2:=t3.b.c2;have e3:=t3.b.c3)
   | (go_at_call 7;refine (HI.out _ _ _ _ (HW.out _ bel4).1.bel cp4b.rows).mono ?_;rintro e w6 ⟨ag,cg,ac,cc,hi,rfl,oh,yo,hlo,b6⟩;have n6:=K0.below_new w6 (kob R ag cg);have s6:=b6.size;have yi:=own_in yo;obtain ⟨hj,hj1,hj2,oh6',yi6'⟩:∃ hj,(w4.alloc (kob k0 (some ⟨g4,0,none⟩) k0.ds.length)).heap.size<=hj/\hj<=w6.heap.size/\Oh (w4.alloc (kob k0 (some ⟨g4,0,none⟩) k0.ds.length)).heap.size hj ag R.ds w6/\OwnIn hj w6.heap.size w6 ac cs:=hi_cut hlo s6 oh yi;have oh6:=oh6'.below n6;have yi6:=yi6'.below n6;have Q6:Q (w3.alloc (kob R aw cw)) k0 R g4 w4.heap.size (w4.alloc (kob k0 (some ⟨g4,0,none⟩) k0.ds.length)).heap.size hj w6.heap.size ag cg (w6.alloc (kob R ag cg)):=⟨((bel4.trans (b6.mono bel4.size)).trans (n6.mono (Nat.le_trans bel4.size s6))),(nb4.below b6).below n6,K0.blk_new (kvals R ag cg) w6 31,⟨hg4,hgk,by simp,hj1,hj2⟩⟩;have cp6:=(cp4b.below b6).below n6;have sh6:=(sh4b.below b6).below n6;have y0:=(HW.out _ Q6.bel).2.1.c0;have y1:=(HW.out _ Q6.bel).2.1.c1;have y2:=(HW.out _ Q6.bel).2.1.c2;have y3:=(HW.out _ Q6.bel).2.1.c3)
   | (go_at_call 8;obtain ⟨so,lo6⟩:=oh6.lns;refine (Z3.eqKeeper R _ _ _ _ _ _ _ hsR lo6 (HW.out _ Q6.bel).2.2.1).mono ?_;rintro e w7 ⟨rfl,b7⟩;have Q7:=Q6.below b7;have cp7:=cp6.below b7;have sh7:=sh6.below b7;have yi7:=yi6.below b7;have oh7:=oh6.below b7)
   | (go_at_call 9;refine (I2.eqIntS _ _ _ _ cs _ (by omega) yi7.row (HW.out _ Q7.bel).2.2.2).mono ?_;rintro e w8 ⟨rfl,n8,hw8⟩;have b8:Bq w7 w8:=(by rw[hw8];exact K0.below_drewN (Below.refl _ _) n8);clear hw8)
   | (go_at_call 6;have t3':=t3;refine (Z3.toKeeper k0 a0 c0 s0 _ hs t3.l).mono ?_;rintro e w4 ⟨g4,P4,rfl,hg4,cp4,b4⟩;have n4:=K0.below_new w4 (kob k0 (some ⟨g4,0,none⟩) k0.ds.length);obtain ⟨L4,sh4⟩:=LG.sh_of cp4;have hgk:=sh4.lt;have cp4b:=cp4.below n4;have sh4b:=sh4.below n4;have nb4:=K0.blk_new (kvals k0 (some ⟨g4,0,none⟩) k0.ds.length) w4 31;have bel4:Bq (w3.alloc (kob R aw cw)) (w4.alloc (kob k0 (some ⟨g4,0,none⟩) k0.ds.length)):=b4.trans (n4.mono b4.size);have x0:=nb4.c0;have x1:=nb4.c1;have x2:=nb4.c2;have x3:=nb4.c3)
   | (go_at_call 6;refine (Z3.toKeeper k0 a0 c0 s0 _ hs t1.l).mono ?_;rintro e w2 ⟨g2,P2,rfl,hg2,cp2,b2⟩;have t2:=t1.below b2))
  have dr:=b8.trans ((Below.refl w8.heap.size w8).drew.mono b8.size);have Q8:=Q7.below dr;have cp8:=cp7.below dr;have sh8:=sh7.below dr;have yi8:=yi7.below dr;have oh8:=oh7.below dr;have q8:w8.drew.cell? ⟨w.heap.size,0,none⟩=some (.string k0.mem)/\w8.drew.cell? ⟨w.heap.size,1,none⟩=some (.string k0.dur)/\w8.drew.cell? ⟨w.heap.size,2,none⟩=some (.slice a0 k0.ds.length c0)/\w8.drew.cell? ⟨w.heap.size,3,none⟩=some (Iv k0.ck)/\w8.drew.cell? ⟨w4.heap.size,0,none⟩=some (.string k0.mem)/\w8.drew.cell? ⟨w4.heap.size,1,none⟩=some (.string k0.dur)/\w8.drew.cell? ⟨w4.heap.size,2,none⟩=some (Sv g4 k0.ds.length k0.ds.length)/\w8.drew.cell? ⟨w4.heap.size,3,none⟩=some (Iv k0.ck):=⟨(HW.out _ Q8.bel).1.b.c0,(HW.out _ Q8.bel).1.b.c1,(HW.out _ Q8.bel).1.b.c2,(HW.out _ Q8.bel).1.b.c3,Q8.nb.c0,Q8.nb.c1,Q8.nb.c2,Q8.nb.c3⟩;clear Q6 Q7 cp6 cp7 sh6 sh7 yi6 yi7 oh6 oh7 y0 y1 y2 y3 dr
  go_region_held3 (fun W=>Ce W w.heap.size 0 (.string k0.mem)/\Ce W w.heap.size 1 (.string k0.dur)/\Ce W w.heap.size 2 (.slice a0 k0.ds.length c0)/\Ce W w.heap.size 3 (Iv k0.ck)/\Ce W w4.heap.size 0 (.string k0.mem)/\Ce W w4.heap.size 1 (.string k0.dur)/\Ce W w4.heap.size 2 (Sv g4 k0.ds.length k0.ds.length)/\Ce W w4.heap.size 3 (Iv k0.ck)) (assumption) ((first
   | (go_at_call 6;refine (Z3.toKeeper k0 a0 c0 s0 _ hs (HW.out _ Q8.bel).1.l).mono ?_;rintro e w9 ⟨g9,P9,rfl,hg9,cp9x,b9⟩;have Q9:=Q8.below b9;have cp9:=cp8.below b9;have sh9:=sh8.below b9;have yi9:=yi8.below b9;have oh9:=oh8.below b9;have q9:Ce w9 w.heap.size 0 (.string k0.mem)/\Ce w9 w.heap.size 1 (.string k0.dur)/\Ce w9 w.heap.size 2 (.slice a0 k0.ds.length c0)/\Ce w9 w.heap.size 3 (Iv k0.ck)/\Ce w9 w4.heap.size 0 (.string k0.mem)/\Ce w9 w4.heap.size 1 (.string k0.dur)/\Ce w9 w4.heap.size 2 (Sv g4 k0.ds.length k0.ds.length)/\Ce w9 w4.heap.size 3 (Iv k0.ck):=⟨(HW.out _ Q9.bel).1.b.c0,(HW.out _ Q9.bel).1.b.c1,(HW.out _ Q9.bel).1.b.c2,(HW.out _ Q9.bel).1.b.c3,Q9.nb.c0,Q9.nb.c1,Q9.nb.c2,Q9.nb.c3⟩)
   | (go_at_call 8;refine (Z3.eqKeeper k0 _ _ _ _ _ _ _ hs cp9.rows cp9x.rows).mono ?_;rintro e w10 ⟨rfl,b10⟩;have Q10:=Q9.below b10;have sh10:=sh9.below b10;have yi10:=yi9.below b10;have oh10:=oh9.below b10;have q10:Ce w10 w.heap.size 0 (.string k0.mem)/\Ce w10 w.heap.size 1 (.string k0.dur)/\Ce w10 w.heap.size 2 (.slice a0 k0.ds.length c0)/\Ce w10 w.heap.size 3 (Iv k0.ck)/\Ce w10 w4.heap.size 0 (.string k0.mem)/\Ce w10 w4.heap.size 1 (.string k0.dur)/\Ce w10 w4.heap.size 2 (Sv g4 k0.ds.length k0.ds.length)/\Ce w10 w4.heap.size 3 (Iv k0.ck):=⟨(HW.out _ Q10.bel).1.b.c0,(HW.out _ Q10.bel).1.b.c1,(HW.out _ Q10.bel).1.b.c2,(HW.out _ Q10.bel).1.b.c3,Q10.nb.c0,Q10.nb.c1,Q10.nb.c2,Q10.nb.c3⟩)))
  have o10:=Q10.o1;have x0:=Q10.nb.c0;have x1:=Q10.nb.c1;have x2:=Q10.nb.c2;have x3:=Q10.nb.c3;clear q8 q9 q10 Q8 Q9 cp8 cp9 cp9x sh8 sh9 yi8 yi9 oh8 oh9
  go_wp2_with (first
   | (go_at_call 13;have b21':=b21;refine (LF.heldIn (k0:=MU.cnt R.ds) yu21 hcs (by omega)).mono ?_;rintro e w22 ⟨rfl,hw22⟩;subst w22)
   | (go_at_call 12;have b20b':=b20b;refine (MU.heldKeeper R cg hRn hRs mh20b).mono ?_;rintro e w21 ⟨rfl,b21⟩;have Q21:=Q20b.below b21;have yu21:=yu20b.below b21)
   | (go_at_call 9;have b20':=b20;refine (I2.eqIntS _ _ _ _ cs _ (by omega) yv20.row (HW.out _ Q20.bel).2.2.2).mono ?_;rintro e w20b ⟨rfl,n20b,hw20b⟩;have b20b:Bq w20 w20b:=(by rw[hw20b];exact K0.below_drewN (Below.refl _ _) n20b);clear hw20b;have Q20b:=Q20.below b20b;have mh20b:=mh20.below b20b;have yu20b:=yu20.below b20b;have h0:=Q20b.gb.c0;have h1:=Q20b.gb.c1;have h2:=Q20b.gb.c2;have h3:=Q20b.gb.c3)
   | (go_at_call 8;have b19':=b19;obtain ⟨sx,lx⟩:=ow19.lns;refine (Z3.eqKeeper R _ _ _ _ _ _ _ hsR lx (HW.out _ Q19.bel).2.2.1).mono ?_;rintro e w20 ⟨rfl,b20⟩;have Q20:=Q19.below b20;have mh20:=mh19.below b20;have yu20:=yu19.below b20;have yv20:=yv19.below b20)
   | (go_at_call 7;refine (HI.out _ _ _ _ (HW.out _ Q17.bel).1.bel cp17.rows).mono ?_;rintro e w19 ⟨ah,ch,ai,ci,hi9,rfl,ow,yo9,hlo9,b19⟩;have n19:=K0.below_new w19 (kob R ah ch);have Q19:=(Q17.below b19).below n19;have mh19:=(mh17.below b19).below n19;have yu19:=(yu17.below b19).below n19;have ow19:=ow.below n19;have yv19:=yo9.below n19;have y0:=(HW.out _ Q19.bel).2.1.c0;have y1:=(HW.out _ Q19.bel).2.1.c1;have y2:=(HW.out _ Q19.bel).2.1.c2;have y3:=(HW.out _ Q19.bel).2.1.c3)
   | (go_at_call 6;refine (Z3.toKeeper k0 a0 c0 s0 _ hs (HW.out _ Q16.bel).1.l).mono ?_;rintro e w17 ⟨g17,P17,rfl,hg17,cp17,b17⟩;have Q17:=Q16.below b17;have mh17:=mh16.below b17;have yu17:=yu16.below b17)
   | (go_at_call 13;refine (LF.heldIn (k0:=MU.cnt R.ds) yu16 hcs (by omega)).mono ?_;rintro e w16b ⟨rfl,hw16b⟩;subst w16b;have f0:=(HW.out _ Q16.bel).1.b.c0;have f1:=(HW.out _ Q16.bel).1.b.c1;have f2:=(HW.out _ Q16.bel).1.b.c2;have f3:=(HW.out _ Q16.bel).1.b.c3)
   | (go_at_call 12;refine (MU.heldKeeper R cg hRn hRs mh15b).mono ?_;rintro e w16 ⟨rfl,b16⟩;have Q16:=Q15b.below b16;have mh16:=mh15b.below b16;have yu16:=yu15b.below b16)
   | (go_at_call 11;refine (LF.markIn (k0:=MU.cnt R.ds) yi15 rfl hcs (by omega)).mono ?_;rintro e w15b ⟨rfl,yu15b,x15b⟩;have Q15b:=Q15.btw x15b (by omega) (Or.inr (by omega)) (Nat.le_refl _);have mh15b:=mh_up mh15 x15b (Nat.le_refl _);have h0:=Q15b.gb.c0;have h1:=Q15b.gb.c1;have h2:=Q15b.gb.c2;have h3:=Q15b.gb.c3)
   | (go_at_call 10;have b14b':=b14b;refine (MU.markKeeper R cg hRn hRs oh14b).mono ?_;rintro e w15 ⟨rfl,mh15,x15⟩;have Q15:=Q14b.btw x15 (by omega) (Or.inr (by omega)) (by omega);have yi15:=yi14b.btw x15 (Or.inr (Nat.le_refl _)))
   | (go_at_call 9;have b14':=b14;refine (I2.eqIntS _ _ _ _ cs _ (by omega) yi14.row (HW.out _ Q14.bel).2.2.2).mono ?_;rintro e w14b ⟨rfl,n14b,hw14b⟩;have b14b:Bq w14 w14b:=(by rw[hw14b];exact K0.below_drewN (Below.refl _ _) n14b);clear hw14b;have Q14b:=Q14.below b14b;have oh14b:=oh14.below b14b;have yi14b:=yi14.below b14b;have h0:=Q14b.gb.c0;have h1:=Q14b.gb.c1;have h2:=Q14b.gb.c2;have h3:=Q14b.gb.c3)
   | (go_at_call 8;have x12':=x12;obtain ⟨so2,lo14⟩:=oh12.lns;refine (Z3.eqKeeper R _ _ _ _ _ _ _ hsR lo14 (HW.out _ Q12.bel).2.2.1).mono ?_;rintro e w14 ⟨rfl,b14⟩;have Q14:=Q12.below b14;have oh14:=oh12.below b14;have yi14:=yi12.below b14)
   | (go_at_call 10;refine (MW.markKeeper g4 w4.heap.size k0 P4 L4 _ hn HZ.out sh10).mono ?_;rintro e w12 ⟨⟨r12,hr12,rfl⟩,x12⟩;have Q12:=Q10.btw x12 (Nat.le_refl _) (Or.inl (Nat.le_refl _)) (by omega);have oh12:=oh10.btw x12 (by omega);have yi12:=yi10.btw x12 (Or.inr (by omega));have hr13:decide ((r12:Int)<0)=false:=(by simp);have h0:=Q12.gb.c0;have h1:=Q12.gb.c1;have h2:=Q12.gb.c2;have h3:=Q12.gb.c3;have y0:=(HW.out _ Q12.bel).2.1.c0;have y1:=(HW.out _ Q12.bel).2.1.c1;have y2:=(HW.out _ Q12.bel).2.1.c2;have y3:=(HW.out _ Q12.bel).2.1.c3))
  go_ret;exact ⟨rfl,(HW.out _ Q21.bel).1.bel⟩
 ·clear R0
  go_enter func3,ntmps3
  go_wp2_with (go_at_call 4;refine (Z1.szBig k0 a0 c0 s0 _ x0 hz t0.l.row).mono ?_;rintro e w1 ⟨rfl,b1⟩;have t1:=t0.below b1)
  go_ret;exact ⟨rfl,t1.bel⟩
end TTD
end Go.Proofs.YtlejhfnjmkdobaaGreatDoor
