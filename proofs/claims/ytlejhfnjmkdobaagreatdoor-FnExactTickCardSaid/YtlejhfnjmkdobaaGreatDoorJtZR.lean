/- Joined texts. -/
import Derived.Test.YtlejhfnjmkdobaaGreatDoorJtZQ
import Derived.Test.YtlejhfnjmkdobaaGreatDoorJtZC
set_option linter.unusedVariables false
set_option linter.unusedSimpArgs false
set_option maxRecDepth 10000
set_option maxHeartbeats 16000000
namespace Go.Proofs.YtlejhfnjmkdobaaGreatDoor
open ChangeShapes WideShapes ChangeAt RowKit
open Go.Proofs.Tryz
namespace TT4
open N0 (Ln)
open N1 (Sl Lists Fit)
open Z0 (dat Kp Lns kval)
open Y8 (gone)
open Y1 (come)
open Y6 (kept)
open LF (Btw)
open KQ (layN)
open WI (rl)
open TP (w1 wN wF Ok backed)
open TQ (wk)
theorem callT2 {P:Program} {md:Region.Mode} {ops:Array Oper} {Q:Exit->Act->World->Prop} {S:World->Prop} {n:Nat} {a:Act} {w:World} {i f:Nat} {o:Oper} {listed:Array Bool} {fuel:Nat} (hr:Region.ready md ops listed=[i]) (ho:ops[i]? = some o) (hw:Region.wanted o (yielded ops a.tmps)=true)
  (x y:Operand) (ts:Array TypeId) (hop:o.op=.call { callee:=.value (.func f),args:=#[x,y],argTypes:=ts }) (v u1:Value) (hx0:a.eval x=v) (hx1:a.eval y=u1) (eg:∀ args w,(callFunc f args).run P w=.ok (.enter f args) w)
  (hc:Calls P f #[v,u1] w fun e w'=>∃ u,e=.returned u/\S w'/\AT.wpAnyT P md ops Q S n fuel (listed.setIfInBounds i true) (a.put o.dst u) w'):AT.wpAnyT P md ops Q S n (fuel+1) listed a w:=by
 refine AT.all hr (by simp) ?_;intro j hj
 obtain rfl:j=i:=by simpa using hj
 unfold wpOp;rw[ho];refine Y0.of_if hw (.inl ?_)
 have he:(execOp a.eval o).run P w=.ok (.enter f #[v,u1]) w:=by
  subst hx0 hx1;simp[execOp,hop,resolve,go_sem,invoke,eg]
 unfold Oper.wp;rw[he];refine Calls.mono hc ?_;rintro e w' ⟨u,rfl,hS,h⟩;exact ⟨fun _=>hS,h⟩
theorem cells10 {P B:Nat} {x0 x1 x4 x5:Value} {m b:ByteArray} {d:Ln} {s:Sl} {W:World} (h:K0.Blk P [x0,x1,.string m,.string b,x4,x5] W) (l:N1.LB B d s W):Ce W P 2 (.string m)/\Ce W P 3 (.string b)/\Ce W B 0 (Iv d.ino)/\Ce W B 1 (Iv d.cl)/\Ce W B 2 (Iv d.un)/\Ce W B 3 (.string d.rc)/\Ce W B 4 (.slice s.a1 d.pg.length s.c1)/\Ce W B 5 (.string d.sav)/\Ce W B 6 (.slice s.a2 d.po.length s.c2)/\Ce W B 7 (.slice s.a3 d.fr.length s.c3):=⟨h.cell 2 (by simp),h.cell 3 (by simp),l.c0,l.c1,l.c2,l.c3,l.c4,l.c5,l.c6,l.c7⟩
structure St (w:World) (P B:Nat) (x4 x5:Value) (aG aC:Option Addr) (Z Y:List Int) (d:Ln) (s:Sl) (p:ByteArray × ByteArray) (W:World):Prop where
 p:K0.Blk P [.int .i32 1,.int .u32 0,.string p.1,.string p.2,x4,x5] W
 g:J0.Own (B+1) W aG Z
 y:J0.Own (B+1) W aC Y
 l:N1.LB B d s W
 t:Btw P (P+1) w W
theorem St.step {w W V:World} {P B:Nat} {x4 x5:Value} {aG aC:Option Addr} {Z Y:List Int} {d:Ln} {s:Sl} {p q:ByteArray × ByteArray} (h:St w P B x4 x5 aG aC Z Y d s p W) (hPB:P<B) (hV:Bq W V)
  (hk:K0.Blk P [.int .i32 1,.int .u32 0,.string q.1,.string q.2,x4,x5] ((V.setCell ⟨P,2,none⟩ (.string q.1)).setCell ⟨P,3,none⟩ (.string q.2))) :
  St w P B x4 x5 aG aC Z Y d s q ((V.setCell ⟨P,2,none⟩ (.string q.1)).setCell ⟨P,3,none⟩ (.string q.2)):=
 ⟨hk,((h.g.below hV).set (by omega) 2 _).set (by omega) 3 _,((h.y.below hV).set (by omega) 2 _).set (by omega) 3 _,⟨((h.l.below hV).b.setOther (by omega) 2 _).setOther (by omega) 3 _⟩,
  ((h.t.then hV).set (p:=⟨P,2,none⟩) (Nat.le_refl _) (Nat.lt_succ_self _) _).set (p:=⟨P,3,none⟩) (Nat.le_refl _) (Nat.lt_succ_self _) _⟩
theorem zeros16:(B4.zeros 16).size=16:=by decide +kernel
theorem take (k:Kp) (P:Nat) (a:Option Addr) (c:Nat) (d:Ln) (s:Sl) (w:World) (hok:Ok (k.mem,k.dur)) (hP:K0.Blk P (wk k a c) w) (hFd:Fit d s) (hpo:d.po.length<=1048576) (hfr:d.fr.length<=1048576) (hL:∀ W,Btw P (P+1) w W->Lists W d s) (hgs:(gone k.mem d).length<=1048576) (hcs:(come k.mem d).length<=1048576) :
  Calls prog 91 #[Pv P 0,N1.val d s] w fun e w'=>e=.returned (.tuple #[])/\K0.Blk P [.int .i32 1,.int .u32 0,.string (backed k d true).1,.string (backed k d true).2,.slice a k.ds.length c,Iv k.ck] w'/\Btw P (P+1) w w':=by
 have n0:=K0.below_new w (LH.lob d s);have lb:=N1.lb_new d s w 46;have hPB:=hP.lt;have hm1:k.mem.size=768:=hok.1;have c2:=(TQ.wk2 (hP.below n0)).1;have HLs:Hid (∀ W,Btw P (P+1) w W->Lists W d s):=hL
 have HC:Hid (∀ W,Bq w W->_):=fun W hb=>Y1.impl_Come k.mem d s W (by omega) hFd hpo hfr (hL W (Btw.ofBelow hb))
 have HG:Hid (∀ W,Bq w W->_):=fun W hb=>Y8.impl_Gone k.mem d s W (by omega) hFd hpo hfr (hL W (Btw.ofBelow hb))
 have HX:Hid (∀ W,Bq w W->K0.Blk P [.int .i32 1,.int .u32 0,.string k.mem,.string k.dur,.slice a k.ds.length c,Iv k.ck] W):=fun W hb=>hP.below hb
 have HE:Hid (backed k d true=((wF d.fr (come k.mem d) (wN (gone k.mem d) (k.mem,k.dur) (gone k.mem d).length) d.fr.length).1,layN (wF d.fr (come k.mem d) (wN (gone k.mem d) (k.mem,k.dur) (gone k.mem d).length) d.fr.length).1 (wF d.fr (come k.mem d) (wN (gone k.mem d) (k.mem,k.dur) (gone k.mem d).length) d.fr.length).2 (rl d) (rl d).length)):=by rw[TP.wF_all];rfl
 have HRl:Hid (∀ m b W,Ok (m,b)->Btw P (P+1) w W->_):=fun m b W h1 h2=>KQ.rangesLast m b d s W h1.1 h1.2 hFd hpo hfr (hL W h2)
 have HW:Hid (∀ W (p:ByteArray × ByteArray) z x4 x5,Ok p->K0.Blk P [.int .i32 1,.int .u32 0,.string p.1,.string p.2,x4,x5] W->Calls prog 129 #[Pv P 0,Iv (L1.recAt z),Iv 16] W fun e w'=>e=.returned (.tuple #[])/\K0.Blk P [.int .i32 1,.int .u32 0,.string (w1 p z).1,.string (w1 p z).2,x4,x5] w'/\∃ V,Bq W V/\w'=(V.setCell ⟨P,2,none⟩ (.string (w1 p z).1)).setCell ⟨P,3,none⟩ (.string (w1 p z).2)):=fun W p z x4 x5 hp hk=>TK.wipe P _ _ x4 x5 p.1 p.2 (L1.recAt z) 16 W hk (by have:=hp.1;omega) (by have:=hp.2;omega) (by rw[zeros16];omega) (by rw[TP.stored_size];have:=hp.1;omega)
 have HOk:Hid (∀ j,Ok (wN (gone k.mem d) (k.mem,k.dur) j)):=fun j=>TP.wN_ok hok _ j
 have HOf:Hid (∀ j,Ok (wF d.fr (come k.mem d) (wN (gone k.mem d) (k.mem,k.dur) (gone k.mem d).length) j)):=fun j=>TP.wF_ok (TP.wN_ok hok _ _) _ _ j
 generalize backed k d true=R at HE ⊢
 generalize gone k.mem d=Z at HG HE HOk HOf hgs
 generalize come k.mem d=Y at HC HE HOf hcs
 have HIc:Hid (∀ W a' c' z,J0.Own (w.heap.size+1) W a' Y->_):=fun W a' c' z h=>N2.containsRow a' c' Y z W (by omega) h.row
 have e0:(w.alloc (LH.lob d s)).heap.size=w.heap.size+1:=by simp
 clear hL hP hFd;have y0:=lb.c0;have y1:=lb.c1;have y2:=lb.c2;have y3:=lb.c3;have y4:=lb.c4;have y5:=lb.c5;have y6:=lb.c6;have y7:=lb.c7;go_enter func91,ntmps91
 go_wp2_with (first
  | (go_at_call 128;refine (HC.out _ n0).mono ?_;rintro e w1' ⟨aC,cC,rfl,hcC,oC,b1⟩;have l1:=n0.trans (b1.mono n0.size);have lb1:=lb.below b1;clear y0 y1 y2 y3 y4 y5 y6 y7;have y0:=lb1.c0;have y1:=lb1.c1;have y2:=lb1.c2;have y3:=lb1.c3;have y4:=lb1.c4;have y5:=lb1.c5;have y6:=lb1.c6;have y7:=lb1.c7)
  | (go_at_call 118;refine (HG.out _ l1).mono ?_;rintro e w2 ⟨aG,cG,rfl,hcG,oG,b2⟩;have l2:=l1.trans (b2.mono l1.size);clear y0 y1 y2 y3 y4 y5 y6 y7))
 have st0:St w P w.heap.size (.slice a k.ds.length c) (Iv k.ck) aG aC Z Y d s (wN Z (k.mem,k.dur) 0) w2:=by
  have h1:=b1.size;rw[e0] at oC h1;exact ⟨HX.out _ l2,oG.imp id fun ⟨g,e,h1,h2⟩=>⟨g,e,by omega,h2⟩,oC.below b2,lb1.below b2,Btw.ofBelow l2⟩
 clear oC oG lb lb1 l1 l2 b1 b2 n0 c2 HC HG HX e0
 go_loopw [23] (fun i w'=>∃ j:Nat,j<=Z.length/\i=Iv j/\St w P w.heap.size (.slice a k.ds.length c) (Iv k.ck) aG aC Z Y d s (wN Z (k.mem,k.dur) j) w') (fun i _=>Z.length-(intOf i).toNat)
 case atStart=>exact ⟨0,Nat.zero_le _,rfl,st0⟩
 case round=>
  obtain ⟨j,hj,rfl,st⟩:=hrel;clear st0
  by_cases hlt:j<Z.length
  ·obtain ⟨b,off,hab,_,hc⟩:=st.g.row.get hlt
   have x1:=hc j hlt;have hw:wN Z (k.mem,k.dur) (j+1)=w1 (wN Z (k.mem,k.dur) j) (Z.getD j 0):=rfl;have ho:=HOk.out j;obtain ⟨p,ep⟩:∃ p,wN Z (k.mem,k.dur) j=p:=⟨_,rfl⟩;obtain ⟨z,ez⟩:∃ z,Z.getD j 0=z:=⟨_,rfl⟩;rw[ez] at x1 hw;rw[ep] at st hw ho;have HWE:Hid (wN Z (k.mem,k.dur) (j+1)=w1 p z):=hw;have hwp:=HW.out wr p z _ _ ho st.p
   have e1:(0:Int)<=(j:Int):=by omega
   have e2:(j:Int)<(Z.length:Int):=by omega
   rw[hab];clear ep ez hw hc ho
   go_wp2_with (first
    | (go_at_call 123;refine (L1.impl_RecAt z _).mono ?_;rintro e w4 ⟨rfl,hw4⟩;subst w4)
    | (go_at_call 129;refine hwp.mono ?_;rintro e w5 ⟨rfl,k5,V,hV,hw5⟩;subst hw5;have st5:=st.step hPB hV k5))
   go_roundw
   case rel=>exact ⟨j+1,by omega,by go_num,by rw[HWE.out,<- hab];exact st5⟩
   case measure=>simp[intOf];omega
  ·obtain rfl:j=Z.length:=by omega
   have y7:=st.l.c7;have st1:St w P w.heap.size (.slice a k.ds.length c) (Iv k.ck) aG aC Z Y d s (wF d.fr Y (wN Z (k.mem,k.dur) Z.length) 0) wr:=st;obtain ⟨p0,ep0⟩:∃ p0,wN Z (k.mem,k.dur) Z.length=p0:=⟨_,rfl⟩;rw[ep0] at st1 HE HOf;clear st ep0 HOk;go_wp2
   go_loopw [35] (fun i w'=>∃ j:Nat,j<=d.fr.length/\i=Iv j/\St w P w.heap.size (.slice a k.ds.length c) (Iv k.ck) aG aC Z Y d s (wF d.fr Y p0 j) w') (fun i _=>d.fr.length-(intOf i).toNat)
   case atStart=>exact ⟨0,Nat.zero_le _,rfl,st1⟩
   case round=>
    obtain ⟨j,hj,rfl,st⟩:=hrel;clear st1 y7
    by_cases hlt:j<d.fr.length
    ·obtain ⟨b,off,hab,_,hc⟩:=(HLs.out _ st.t).r3.get hlt
     have x1:=hc j hlt
     have hw:wF d.fr Y p0 (j+1)=if P0.has Y (d.fr.getD j 0)=true then wF d.fr Y p0 j else w1 (wF d.fr Y p0 j) (d.fr.getD j 0):=rfl
     have ho:=HOf.out j;obtain ⟨p,ep⟩:∃ p,wF d.fr Y p0 j=p:=⟨_,rfl⟩;obtain ⟨z,ez⟩:∃ z,d.fr.getD j 0=z:=⟨_,rfl⟩;rw[ez] at x1 hw;rw[ep] at st hw ho;have hwp:=HW.out wr p z _ _ ho st.p;have hin:=HIc.out wr aC cC z st.y
     have e1:(0:Int)<=(j:Int):=by omega
     have e2:(j:Int)<(d.fr.length:Int):=by omega
     rw[hab]
     cases hh:P0.has Y z with
     | true=>
      rw[hh] at hin hw
      have HWE:Hid (wF d.fr Y p0 (j+1)=p):=by rw[hw];rfl
      clear ep ez hw hc ho hh hwp
      go_wp2_with (go_at_call 130;refine hin.mono ?_;rintro e w4 ⟨rfl,hw4⟩;subst w4)
      go_roundw
      case rel=>exact ⟨j+1,by omega,by go_num,by rw[HWE.out];exact st⟩
      case measure=>simp[intOf];omega
     | false=>
      rw[hh] at hin hw
      have HWE:Hid (wF d.fr Y p0 (j+1)=w1 p z):=by rw[hw];rfl
      clear ep ez hw hc ho hh
      go_wp2_with (first
       | (go_at_call 130;refine hin.mono ?_;rintro e w4 ⟨rfl,hw4⟩;subst w4)
       | (go_at_call 123;refine (L1.impl_RecAt z _).mono ?_;rintro e w4 ⟨rfl,hw4⟩;subst w4)
       | (go_at_call 129;refine hwp.mono ?_;rintro e w5 ⟨rfl,k5,V,hV,hw5⟩;subst hw5;have st5:=st.step hPB hV k5))
      go_roundw
      case rel=>exact ⟨j+1,by omega,by go_num,by rw[HWE.out];exact st5⟩
      case measure=>simp[intOf];omega
    ·obtain rfl:j=d.fr.length:=by omega
     have ho:=HOf.out d.fr.length;obtain ⟨p,ep⟩:∃ p,wF d.fr Y p0 d.fr.length=p:=⟨_,rfl⟩;rw[ep] at st ho HE;obtain ⟨m,b⟩:=p;have hrl:=HRl.out m b wr.drew ho (st.t.then ((Below.refl _ _).drew));have HE':Hid (R=(m,layN m b (rl d) (rl d).length)):=HE.out
     generalize layN m b (rl d) (rl d).length=x at hrl HE'
     have kd:K0.Blk P [.int .i32 1,.int .u32 0,.string m,.string b,.slice a k.ds.length c,Iv k.ck] wr.drew:=st.p.drew;have ld:N1.LB w.heap.size d s wr.drew:=st.l.below ((Below.refl _ _).drew);have s0:=cells10 kd ld;have td:Btw P (P+1) w wr.drew:=st.t.then ((Below.refl _ _).drew);clear ep ho st HE HIc HW HLs HRl;go_wp2;refine AT.region (n:=11) (S:=fun W=>Ce W P 2 (.string m)/\Ce W P 3 (.string b)/\Ce W w.heap.size 0 (Iv d.ino)/\Ce W w.heap.size 1 (Iv d.cl)/\Ce W w.heap.size 2 (Iv d.un)/\Ce W w.heap.size 3 (.string d.rc)/\Ce W w.heap.size 4 (.slice s.a1 d.pg.length s.c1)/\Ce W w.heap.size 5 (.string d.sav)/\Ce W w.heap.size 6 (.slice s.a2 d.po.length s.c2)/\Ce W w.heap.size 7 (.slice s.a3 d.fr.length s.c3)) (by kernel_rfl) ?_;refine BU.r 0 (Pv P 0) s0 ?_;refine BU.r 1 (Pv P 0) s0 ?_;refine BU.s 2 (Pv P 0) s0 ?_;refine BU.s 3 (Pv P 2) s0 ?_;refine BU.s 4 (Pv P 2) s0 ?_;refine BU.s 5 (.agg #[.string m,.string b]) s0 ?_;refine BU.s 6 (N1.val d s) s0 ?_;refine callT2 (i:=7) (by kernel_rfl) rfl (by rfl) (.tmp 53) (.tmp 54) _ rfl (.agg #[.string m,.string b]) (N1.val d s) (by rfl) (by rfl) (enters_of func90 (by kernel_rfl) rfl) ((hrl).mono ?_);rintro e w9 ⟨rfl,b9⟩;have blk9:=kd.below b9;have lb9:=ld.below b9;have s9:=cells10 blk9 lb9;refine ⟨_,rfl,s9,?_⟩;simp only[BZ.z,Act.put,Nat.reduceAdd];refine TK.plainT (i:=8) (u:=Pv P 0) (w':=w9) (by kernel_rfl) rfl (by rfl) ?_ s9 ?_
     ·go_simp
     simp only[BZ.z,Act.put,Nat.reduceAdd];refine TK.plainT (i:=9) (u:=Pv P 2) (w':=w9) (by kernel_rfl) rfl (by rfl) ?_ s9 ?_
     ·go_simp
     simp only[BZ.z,Act.put,Nat.reduceAdd];refine TK.plainT (i:=10) (u:=Pv P 2) (w':=w9) (by kernel_rfl) rfl (by rfl) ?_ s9 ?_
     ·go_simp
     simp only[BZ.z,Act.put,Nat.reduceAdd];have e2:=s9.1;have e3:=s9.2.1;have f2:=blk9.f2;have f3:=blk9.f3;refine AT.store (i:=11) (w':=(w9.setCell ⟨P,2,none⟩ (.string m)).setCell ⟨P,3,none⟩ (.string x)) (by kernel_rfl) rfl (by decide) (by rfl) ?_ ?_
     ·go_simp
     simp only[BZ.z,Act.put,Nat.reduceAdd];refine AT.done (by kernel_rfl) ?_ _
     try go_wp2
     refine bodyPost_end (v:=.tuple #[]) (by simp[results,results91,go_sem]) rfl ?_;refine ⟨rfl,?_,?_⟩
     ·rw[HE'.out]
      have q:=(blk9.set 2 (.string m)).set 3 (.string x)
      simpa using q
     ·exact ((td.then b9).set (p:=⟨P,2,none⟩) (Nat.le_refl _) (Nat.lt_succ_self _) _).set (p:=⟨P,3,none⟩) (Nat.le_refl _) (Nat.lt_succ_self _) _
end TT4
namespace TT5
open N0 (Ln)
open N1 (Sl Lists Fit)
open Z0 (dat Kp Lns kval)
open Z4 (truth Fits)
open Y8 (gone)
open Y1 (come)
open LF (Btw)
open KQ (layN)
open WI (rl)
open N13 (undo)
open MR (AF)
open MU (Oh)
open TP (Ok backed back mayI)
open TQ (wk)
open TT4 (callT2 cells10)
open TE (er Errs)
theorem oh_up {lo hi lo' hi':Nat} {a:Option Addr} {ds:List Ln} {W W':World} (h:Oh lo hi a ds W) (hb:Btw lo' hi' W W') (hx:hi<=lo'):Oh lo hi a ds W':=h.imp id fun ⟨g,b,ss,L,e,h1,h2,h3⟩=>⟨g,b,ss,L,e,h1,h2,MU.af_btw h3 hb (Or.inr (by omega))⟩
theorem btw_one {lo P:Nat} {w W:World} (h:Btw lo (P+1) w W) (hlo:lo<=P) (j:Nat) (v:Value):Btw lo (P+1) w (W.setCell ⟨P,j,none⟩ v):=h.set (p:=⟨P,j,none⟩) hlo (Nat.lt_succ_self _) v
structure Mid (w:World) (k:Kp) (P lo g p B:Nat) (c:Nat) (d:Ln) (s:Sl) (pN pD pB pF pR:Addr) (W:World):Prop where
 blk:K0.Blk P [.int .i32 1,.int .u32 0,.string k.mem,.string k.dur,.slice (some ⟨g,0,none⟩) (k.ds.length-1) c,.int .i64 k.ck] W
 oh:Oh lo P (some ⟨g,0,none⟩) (k.ds.eraseIdx p) W
 lb:N1.LB B d s W
 ls:∀ V,Btw P (P+1) W V->Lists V d s
 er:Errs pN pD pB pF pR lo W
 t:Btw lo (P+1) w W
theorem mid_of {w w4 w5:World} {k:Kp} {P lo g p B c:Nat} {b:Nat->Nat} {ss:Nat->Sl} {L:List Value} {pN pD pB pF pR:Addr} (hp:p<k.ds.length) (hlo:lo<=g) (hbn:b k.ds.length<=P) (hPw:P<w.heap.size) (hB:w.heap.size<=B) (l4:Bq w w4) (hAF:AF g b k.ds.length (dat k.ds) ss L w4) (hblk:K0.Blk P (wk k (some ⟨g,0,none⟩) c) w4) (hlb:N1.LB B (dat k.ds p) (ss p) w4) (hE:Errs pN pD pB pF pR lo w4)
  (hk:K0.Blk g (L.take (p*8)++L.drop ((p+1)*8)) w5) (hb:Btw g (g+1) w4 w5) :
  Mid w k P lo g p B c (dat k.ds p) (ss p) pN pD pB pF pR (w5.setCell ⟨P,4,none⟩ (Sv g (k.ds.length-1) c)):=by
 have hgb:=hAF.gb;have hb0:=hAF.le (i:=0) (j:=k.ds.length) (Nat.zero_le _) (Nat.le_refl _)
 have hgP:g<P:=by omega
 have h5:=TD.af_del hAF hp hb hk
 have hlen:(k.ds.eraseIdx p).length=k.ds.length-1:=by rw[List.length_eraseIdx,if_pos hp]
 have hD:(fun j=>if j<p then dat k.ds j else dat k.ds (j+1))=dat (k.ds.eraseIdx p):=by
  funext j
  rw[TP.dat_erase]
 rw[hD,<- hlen] at h5;have hhi:=TD.del_hi hAF hp;have o5:Oh lo P (some ⟨g,0,none⟩) (k.ds.eraseIdx p) w5:=Or.inr ⟨g,_,_,_,rfl,hlo,by rw[hlen];omega,h5⟩;have sP:Btw P (P+1) w5 (w5.setCell ⟨P,4,none⟩ (Sv g (k.ds.length-1) c)):=(Btw.refl _ _ _).set (p:=⟨P,4,none⟩) (Nat.le_refl _) (Nat.lt_succ_self _) _;have t5:Btw lo (P+1) w w5:=(Btw.ofBelow l4).trans (hb.mono hlo (by omega));have hbP:=LF.blk_btw hblk hb (Or.inr (by omega));have hs4:=l4.size;refine ⟨?_,oh_up o5 sP (Nat.le_refl _),⟨(LF.blk_btw hlb.b hb (Or.inr (by omega))).setOther (by omega) 4 _⟩,fun V hV=>?_,?_,btw_one t5 (by omega) 4 _⟩
 ·have q:=hbP.set 4 (Sv g (k.ds.length-1) c)
  simpa using q
 ·obtain ⟨m1,m2,q⟩:=hAF.sub p hp
  have h1:=hAF.le (i:=0) (j:=p) (Nat.zero_le _) (by omega);have h2:=hAF.le (i:=p+1) (j:=k.ds.length) (by omega) (Nat.le_refl _);exact (((q.btw hb (Or.inr (by omega))).btw sP (Or.inl (by omega))).btw hV (Or.inl (by omega))).lists
 ·have bb:Below lo w4 (w5.setCell ⟨P,4,none⟩ (Sv g (k.ds.length-1) c)):=(hb.below hlo (by omega)).setCell (p:=⟨P,4,none⟩) (by show lo<=P;omega) _
  exact hE.keep bb (Nat.le_refl _) (by omega)
theorem giveBack (k:Kp) (P lo:Nat) (a:Option Addr) (c p:Nat) (cl ino:Int) (pN pD pB pF pR:Addr) (w:World) (hok:Ok (k.mem,k.dur)) (hn:k.ds.length<=1048576) (ht:k.ds.length+Z1.tot k.ds k.ds.length<=1048576) (hP:K0.Blk P (wk k a c) w) (hO:Oh lo P a k.ds w) (hc:k.ds.length<=c) (hcm:c<=maxLen) (hE:Errs pN pD pB pF pR lo w) (hp:p<k.ds.length) (hpl:∀ x,LK.At cl ino k.ds x->x=(p:Int)) (hgs:(gone k.mem (dat k.ds p)).length<=1048576) (hcs:(come k.mem (dat k.ds p)).length<=1048576) :
  Calls prog 54 #[Pv P 0,Iv cl,Iv ino] w fun e w'=>e=.returned (if mayI k (dat k.ds p)=true then .nilIface else er pR)/\K0.Blk P (wk (back k p) a c) w'/\Oh lo P a (back k p).ds w'/\Btw lo (P+1) w w':=by
 obtain ⟨g,b,ss,L,rfl,hlo,hbn,hAF⟩:∃ g b ss L,a=some ⟨g,0,none⟩/\lo<=g/\b k.ds.length<=P/\AF g b k.ds.length (dat k.ds) ss L w:=by
  rcases hO with h | h
  ·rw[h] at hp;simp at hp
  ·exact h
 have hgb:=hAF.gb;have hb0:=hAF.le (i:=0) (j:=k.ds.length) (Nat.zero_le _) (Nat.le_refl _);have hPw:=hP.lt
 have hloP:lo<=P:=by omega
 have hsmall:∀ j,j<k.ds.length->(dat k.ds j).pg.length<=1048576/\(dat k.ds j).po.length<=1048576/\(dat k.ds j).fr.length<=1048576/\(dat k.ds j).rc.size<=1048576/\(dat k.ds j).sav.size<=1048576:=fun j hj=>by
  have:=Z1.tot_one hj;exact N12.sizes (d:=dat k.ds j) (by omega)
 have hFits:Fits k.ds ss:=fun j hj=>by
  obtain ⟨z1,z2,z3,z4,z5⟩:=hsmall j hj;exact ⟨⟨by omega,by omega,by omega⟩,z2,z3⟩
 obtain ⟨hFd,hpo,hfr⟩:=hFits p hp
 have HL:Hid (∀ W,Bq w W->AF g b k.ds.length (dat k.ds) ss L W/\K0.Blk P (wk k (some ⟨g,0,none⟩) c) W/\Errs pN pD pB pF pR lo W):=fun W hb=>⟨hAF.below hb,hP.below hb,hE.keep hb (by omega) (by omega)⟩
 have HN:Hid (∀ W,AF g b k.ds.length (dat k.ds) ss L W->Lns W (some ⟨g,0,none⟩) k.ds ss):=fun W h=>⟨Or.inr ⟨g,0,rfl,h.blk.lt,fun j hj=>by rw[Nat.zero_add];exact Z2.at_of h.blk (h.at_ j hj)⟩,fun j hj=>by obtain ⟨m1,m2,q⟩:=h.sub j hj;exact q.lists⟩
 have hlp:=LK.loanPlace (some ⟨g,0,none⟩) c k.ds ss cl ino w hn (HN.out w hAF).row;have HPL:Hid (∀ x,LK.At cl ino k.ds x->x=(p:Int)):=hpl;have htr:(truth k).size=768:=(Z4.unAll_size k.ds k.mem k.ds.length).trans hok.1
 have HM:Hid (∀ W,Bq w W->_):=fun W hb=>TQ.mayTake k P (some ⟨g,0,none⟩) c ss (dat k.ds p) (ss p) W hok.1 hn ht hFits (HN.out W (HL.out W hb).1) (HL.out W hb).2.1 hFd hpo hfr ((HN.out W (HL.out W hb).1).sub p hp) htr hgs
 have HD:Hid (∀ W,K0.Blk g L W->_):=fun W hk=>TD.del g k.ds.length c p L W hAF.len (TD.cells_one hAF.len hAF.at_) hk hp hc (by unfold maxLen at hcm;omega)
 have HMd:Hid (∀ w4 w5 B,Bq w w4->w.heap.size<=B->N1.LB B (dat k.ds p) (ss p) w4->K0.Blk g (L.take (p*8)++L.drop ((p+1)*8)) w5->Btw g (g+1) w4 w5->K0.Blk P [.int .i32 1,.int .u32 0,.string k.mem,.string k.dur,Sv g k.ds.length c,Iv k.ck] w5/\Mid w k P lo g p B c (dat k.ds p) (ss p) pN pD pB pF pR (w5.setCell ⟨P,4,none⟩ (Sv g (k.ds.length-1) c))):=fun w4 w5 B l4 hB hlb hk hb=>⟨LF.blk_btw (HL.out w4 l4).2.1 hb (Or.inr (by omega)),mid_of hp hlo hbn hPw hB l4 (HL.out w4 l4).1 (HL.out w4 l4).2.1 hlb (HL.out w4 l4).2.2 hk hb⟩
 have HA:Hid (∀ W,AF g b k.ds.length (dat k.ds) ss L W->Z0.At W g (p*8) (dat k.ds p) (ss p)/\K0.Blk g L W):=fun W h=>⟨Z2.at_of h.blk (h.at_ p hp),h.blk⟩
 have HBk:Hid (back k p=⟨(backed k (dat k.ds p) (mayI k (dat k.ds p))).1,(backed k (dat k.ds p) (mayI k (dat k.ds p))).2,k.ds.eraseIdx p,k.ck⟩):=rfl
 have hlen:(k.ds.eraseIdx p).length=k.ds.length-1:=by rw[List.length_eraseIdx,if_pos hp]
 have HLe:Hid ((k.ds.eraseIdx p).length=k.ds.length-1):=hlen
 have HT:Hid (∀ W B,Mid w k P lo g p B c (dat k.ds p) (ss p) pN pD pB pF pR W->Calls prog 91 #[Pv P 0,N1.val (dat k.ds p) (ss p)] W fun e w'=>e=.returned (.tuple #[])/\K0.Blk P [.int .i32 1,.int .u32 0,.string (backed k (dat k.ds p) true).1,.string (backed k (dat k.ds p) true).2,Sv g (k.ds.length-1) c,Iv k.ck] w'/\Btw P (P+1) W w'):=fun W B h=>by
  have hb:=h.blk;have:=TT4.take ⟨k.mem,k.dur,k.ds.eraseIdx p,k.ck⟩ P (some ⟨g,0,none⟩) c (dat k.ds p) (ss p) W hok (by show K0.Blk P [_,_,_,_,.slice _ (k.ds.eraseIdx p).length _,_] W;rw[hlen];exact hb) hFd hpo hfr h.ls hgs hcs;simp only[hlen] at this;exact this
 have HU:Hid (∀ W,Lists W (dat k.ds p) (ss p)->_):=fun W h=>N13.impl_Undo k.mem (dat k.ds p) (ss p) W (by have h:k.mem.size=768:=hok.1;omega) hFd hpo hfr h
 have HR:Hid (∀ W,Lists W (dat k.ds p) (ss p)->Calls prog 90 #[.agg #[.string (undo k.mem (dat k.ds p)),.string k.dur],N1.val (dat k.ds p) (ss p)] W (Rb (.agg #[.string (undo k.mem (dat k.ds p)),.string (layN (undo k.mem (dat k.ds p)) k.dur (rl (dat k.ds p)) (rl (dat k.ds p)).length)]) W)):=fun W h=>KQ.rangesLast (undo k.mem (dat k.ds p)) k.dur (dat k.ds p) (ss p) W (TP.undo_ok hok.1 _) hok.2 hFd hpo hfr h
 have c4:=(TQ.wk2 hP).2.2.1
 have x1:(0:Int)<=(p:Int):=by omega
 have x2:(p:Int)<(k.ds.length:Int):=by omega
 clear hP hE hAF hO hpl hFits hsmall hFd hpo hfr hlen htr hok;obtain ⟨d,hd⟩:∃ d,dat k.ds p=d:=⟨_,rfl⟩;obtain ⟨s,hs⟩:∃ s,ss p=s:=⟨_,rfl⟩;rw[hd] at HM HMd HA HBk HT HU HR ⊢;rw[hs] at HM HMd HA HT HU HR
 generalize back k p=R at HBk ⊢
 clear hd hs hgs hcs
 cases hmay:mayI k d with
 | false=>
  rw[hmay] at HM HBk;rw[if_neg (by decide)];have HB2:Hid (R=⟨undo k.mem d,layN (undo k.mem d) k.dur (rl d) (rl d).length,k.ds.eraseIdx p,k.ck⟩):=HBk.out
  generalize layN (undo k.mem d) k.dur (rl d) (rl d).length=x at HR HB2
  generalize undo k.mem d=m at HU HR HB2
  clear hmay HBk HT;go_enter func54,ntmps54
  go_wp2_with (first
   | (go_at_call 85;refine hlp.mono ?_;rintro e w1 ⟨⟨x',rfl,hx⟩,b1⟩;obtain rfl:x'=(p:Int):=HPL.out x' hx;obtain ⟨A1,k1,E1⟩:=HL.out _ b1;have d4:=(TQ.wk2 k1).2.2.1;have gN:=E1.gN;obtain ⟨⟨z0,z1,z2,z3,z4,z5,z6,z7⟩,G1⟩:=HA.out _ A1;have nb:=K0.below_new w1 (LH.lob d s);have l3:=b1.trans (nb.mono b1.size);have lb3:=N1.lb_new d s w1 46;have y0:=lb3.c0;have y1:=lb3.c1;have y2:=lb3.c2;have y3:=lb3.c3;have y4:=lb3.c4;have y5:=lb3.c5;have y6:=lb3.c6;have y7:=lb3.c7)
   | (go_at_call 86;refine (TE.check_yes pN _).mono ?_;rintro e w2 ⟨rfl,hw2⟩;subst w2)
   | (go_at_call 87;refine (HM.out _ l3).mono ?_;rintro e w4 ⟨rfl,b4⟩;have l4:=l3.trans (b4.mono l3.size);have lb4:=lb3.below b4;clear y0 y1 y2 y3 y4 y5 y6 y7;obtain ⟨A4,k4,E4⟩:=HL.out _ l4;have c4':=(TQ.wk2 k4).2.2.1;have G4:=(HA.out _ A4).2)
   | (go_at_call 88;refine (HD.out _ G4).mono ?_;rintro e w5 ⟨rfl,k5,b5⟩;obtain ⟨kP5,M6⟩:=HMd.out w4 w5 w1.heap.size l4 b1.size lb4 k5 b5;have u4:=(TQ.wk2 (k:=k) (a:=some ⟨g,0,none⟩) (c:=c) kP5).2.2.1;have v4:=kP5.free 4 (by simp);have y0:=M6.lb.c0;have y1:=M6.lb.c1;have y2:=M6.lb.c2;have y3:=M6.lb.c3;have y4:=M6.lb.c4;have y5:=M6.lb.c5;have y6:=M6.lb.c6;have y7:=M6.lb.c7))
  have dw:=(Below.refl (w5.setCell ⟨P,4,none⟩ (Sv g (k.ds.length-1) c)).heap.size (w5.setCell ⟨P,4,none⟩ (Sv g (k.ds.length-1) c))).drew;obtain ⟨W6,hW6⟩:∃ W6,w5.setCell ⟨P,4,none⟩ (Sv g (k.ds.length-1) c)=W6:=⟨_,rfl⟩;rw[hW6] at M6 dw ⊢;have kd7:=M6.blk.drew;have ld7:=M6.lb.below dw;have s0:=cells10 kd7 ld7;have hun:=HU.out W6.drew (M6.ls _ (Btw.ofBelow dw));clear hW6 u4 v4 y0 y1 y2 y3 y4 y5 y6 y7 HU c4' d4 gN z0 z1 z2 z3 z4 z5 z6 z7;refine AT.region (n:=13) (S:=fun W=>Ce W P 2 (.string k.mem)/\Ce W P 3 (.string k.dur)/\Ce W w1.heap.size 0 (Iv d.ino)/\Ce W w1.heap.size 1 (Iv d.cl)/\Ce W w1.heap.size 2 (Iv d.un)/\Ce W w1.heap.size 3 (.string d.rc)/\Ce W w1.heap.size 4 (.slice s.a1 d.pg.length s.c1)/\Ce W w1.heap.size 5 (.string d.sav)/\Ce W w1.heap.size 6 (.slice s.a2 d.po.length s.c2)/\Ce W w1.heap.size 7 (.slice s.a3 d.fr.length s.c3)) (by kernel_rfl) ?_;refine BU.r 0 (Pv P 0) s0 ?_;refine BU.r 1 (Pv P 0) s0 ?_;refine BU.s 2 (Pv P 0) s0 ?_;refine BU.s 3 (Pv P 2) s0 ?_;refine BU.s 4 (Pv P 2) s0 ?_;refine BU.s 5 (Pv P 2) s0 ?_;refine BU.s 6 (.string k.mem) s0 ?_;refine BU.s 7 (N1.val d s) s0 ?_;refine callT2 (i:=8) (by kernel_rfl) rfl (by rfl) (.tmp 54) (.tmp 55) _ rfl (.string k.mem) (N1.val d s) (by rfl) (by rfl) (enters_of func89 (by kernel_rfl) rfl) ((hun).mono ?_);rintro e w9 ⟨rfl,b9⟩;have blk9:=kd7.below b9;have lb9:=ld7.below b9;have s9:=cells10 blk9 lb9;refine ⟨_,rfl,s9,?_⟩;simp only[BZ.z,Act.put,Nat.reduceAdd]
  refine TK.plainT (i:=9) (u:=Pv P 0) (w':=w9) (by kernel_rfl) rfl (by rfl) ?_ s9 ?_
  ·go_simp
  simp only[BZ.z,Act.put,Nat.reduceAdd];refine TK.plainT (i:=10) (u:=Pv P 2) (w':=w9) (by kernel_rfl) rfl (by rfl) ?_ s9 ?_
  ·go_simp
  simp only[BZ.z,Act.put,Nat.reduceAdd];refine TK.plainT (i:=11) (u:=Pv P 2) (w':=w9) (by kernel_rfl) rfl (by rfl) ?_ s9 ?_
  ·go_simp
  simp only[BZ.z,Act.put,Nat.reduceAdd];refine TK.plainT (i:=12) (u:=Pv P 2) (w':=w9) (by kernel_rfl) rfl (by rfl) ?_ s9 ?_
  ·go_simp
  simp only[BZ.z,Act.put,Nat.reduceAdd];have e2:=s9.1;have e3:=s9.2.1;have f2:=blk9.f2;have f3:=blk9.f3;refine AT.store (i:=13) (w':=w9.setCell ⟨P,2,none⟩ (.string m)) (by kernel_rfl) rfl (by decide) (by rfl) ?_ ?_
  ·go_simp
  simp only[BZ.z,Act.put,Nat.reduceAdd];refine AT.done (by kernel_rfl) ?_ _
  have hBP:w1.heap.size≠P:=by have:=b1.size;omega
  have blk7:K0.Blk P [.int .i32 1,.int .u32 0,.string m,.string k.dur,Sv g (k.ds.length-1) c,Iv k.ck] (w9.setCell ⟨P,2,none⟩ (.string m)):=by
   have q:=blk9.set 2 (.string m)
   simpa using q
  have lb7:N1.LB w1.heap.size d s (w9.setCell ⟨P,2,none⟩ (.string m)):=⟨lb9.b.setOther (Ne.symm hBP) 2 _⟩;have t7:Btw P (P+1) W6 (w9.setCell ⟨P,2,none⟩ (.string m)):=((Btw.ofBelow dw).then b9).set (p:=⟨P,2,none⟩) (Nat.le_refl _) (Nat.lt_succ_self _) _;have dv:=(Below.refl (w9.setCell ⟨P,2,none⟩ (.string m)).heap.size (w9.setCell ⟨P,2,none⟩ (.string m))).drew;obtain ⟨W7,hW7⟩:∃ W7,w9.setCell ⟨P,2,none⟩ (.string m)=W7:=⟨_,rfl⟩;rw[hW7] at blk7 lb7 t7 dv ⊢;have kd8:=blk7.drew;have ld8:=lb7.below dv;have s0b:=cells10 kd8 ld8;have hrl:=HR.out W7.drew (M6.ls _ (t7.then dv));clear hW7 e2 e3 f2 f3 s9 s0 HR;go_wp2;refine AT.region (n:=11) (S:=fun W=>Ce W P 2 (.string m)/\Ce W P 3 (.string k.dur)/\Ce W w1.heap.size 0 (Iv d.ino)/\Ce W w1.heap.size 1 (Iv d.cl)/\Ce W w1.heap.size 2 (Iv d.un)/\Ce W w1.heap.size 3 (.string d.rc)/\Ce W w1.heap.size 4 (.slice s.a1 d.pg.length s.c1)/\Ce W w1.heap.size 5 (.string d.sav)/\Ce W w1.heap.size 6 (.slice s.a2 d.po.length s.c2)/\Ce W w1.heap.size 7 (.slice s.a3 d.fr.length s.c3)) (by kernel_rfl) ?_;refine BU.r 0 (Pv P 0) s0b ?_;refine BU.r 1 (Pv P 0) s0b ?_;refine BU.s 2 (Pv P 0) s0b ?_;refine BU.s 3 (Pv P 2) s0b ?_;refine BU.s 4 (Pv P 2) s0b ?_;refine BU.s 5 (.agg #[.string m,.string k.dur]) s0b ?_;refine BU.s 6 (N1.val d s) s0b ?_
  refine callT2 (i:=7) (by kernel_rfl) rfl (by rfl) (.tmp 66) (.tmp 67) _ rfl (.agg #[.string m,.string k.dur]) (N1.val d s) (by rfl) (by rfl) (enters_of func90 (by kernel_rfl) rfl) ((hrl).mono ?_);rintro e w9b ⟨rfl,b9b⟩;have blk9b:=kd8.below b9b;have lb9b:=ld8.below b9b;have s9b:=cells10 blk9b lb9b;refine ⟨_,rfl,s9b,?_⟩;simp only[BZ.z,Act.put,Nat.reduceAdd];refine TK.plainT (i:=8) (u:=Pv P 0) (w':=w9b) (by kernel_rfl) rfl (by rfl) ?_ s9b ?_
  ·go_simp
  simp only[BZ.z,Act.put,Nat.reduceAdd];refine TK.plainT (i:=9) (u:=Pv P 2) (w':=w9b) (by kernel_rfl) rfl (by rfl) ?_ s9b ?_
  ·go_simp
  simp only[BZ.z,Act.put,Nat.reduceAdd];refine TK.plainT (i:=10) (u:=Pv P 2) (w':=w9b) (by kernel_rfl) rfl (by rfl) ?_ s9b ?_
  ·go_simp
  simp only[BZ.z,Act.put,Nat.reduceAdd];have e2b:=s9b.1;have e3b:=s9b.2.1;have f2b:=blk9b.f2;have f3b:=blk9b.f3;refine AT.store (i:=11) (w':=(w9b.setCell ⟨P,2,none⟩ (.string m)).setCell ⟨P,3,none⟩ (.string x)) (by kernel_rfl) rfl (by decide) (by rfl) ?_ ?_
  ·go_simp
  simp only[BZ.z,Act.put,Nat.reduceAdd];refine AT.done (by kernel_rfl) ?_ _;have t8:=(((t7.then dv).then b9b).set (p:=⟨P,2,none⟩) (Nat.le_refl _) (Nat.lt_succ_self _) (.string m)).set (p:=⟨P,3,none⟩) (Nat.le_refl _) (Nat.lt_succ_self _) (.string x)
  have k8:K0.Blk P [.int .i32 1,.int .u32 0,.string m,.string x,Sv g (k.ds.length-1) c,Iv k.ck] ((w9b.setCell ⟨P,2,none⟩ (.string m)).setCell ⟨P,3,none⟩ (.string x)):=by
   have q:=(blk9b.set 2 (.string m)).set 3 (.string x)
   simpa using q
  have h6:=M6.t.size;have gR:=(M6.er.keep (t8.below (b:=lo) (by omega) (by omega)) (Nat.le_refl _) (by omega)).gR;have o8:=oh_up M6.oh t8 (Nat.le_refl _);have T8:=M6.t.trans (t8.mono hloP (Nat.le_refl _));obtain ⟨W8,hW8⟩:∃ W8,(w9b.setCell ⟨P,2,none⟩ (.string m)).setCell ⟨P,3,none⟩ (.string x)=W8:=⟨_,rfl⟩;rw[hW8] at k8 gR o8 T8 ⊢;clear hW8 e2b e3b f2b f3b s9b s0b;go_wp2;go_ret;refine ⟨rfl,?_,?_,T8⟩
  ·rw[HB2.out]
   show K0.Blk P [_,_,_,_,.slice _ (k.ds.eraseIdx p).length _,_] _
   rw[HLe.out];exact k8
  ·rw[HB2.out]
   exact o8
 | true=>
  rw[hmay] at HM HBk;rw[if_pos rfl];clear hmay HU HR
  generalize backed k d true=Y at HBk HT
  go_enter func54,ntmps54
  go_wp2_with (first
   | (go_at_call 85;refine hlp.mono ?_;rintro e w1 ⟨⟨x',rfl,hx⟩,b1⟩;obtain rfl:x'=(p:Int):=HPL.out x' hx;obtain ⟨A1,k1,E1⟩:=HL.out _ b1;have d4:=(TQ.wk2 k1).2.2.1;have gN:=E1.gN;obtain ⟨⟨z0,z1,z2,z3,z4,z5,z6,z7⟩,G1⟩:=HA.out _ A1;have nb:=K0.below_new w1 (LH.lob d s);have l3:=b1.trans (nb.mono b1.size);have lb3:=N1.lb_new d s w1 46;have y0:=lb3.c0;have y1:=lb3.c1;have y2:=lb3.c2;have y3:=lb3.c3;have y4:=lb3.c4;have y5:=lb3.c5;have y6:=lb3.c6;have y7:=lb3.c7)
   | (go_at_call 86;refine (TE.check_yes pN _).mono ?_;rintro e w2 ⟨rfl,hw2⟩;subst w2)
   | (go_at_call 87;refine (HM.out _ l3).mono ?_;rintro e w4 ⟨rfl,b4⟩;have l4:=l3.trans (b4.mono l3.size);have lb4:=lb3.below b4;clear y0 y1 y2 y3 y4 y5 y6 y7;obtain ⟨A4,k4,E4⟩:=HL.out _ l4;have c4':=(TQ.wk2 k4).2.2.1;have G4:=(HA.out _ A4).2)
   | (go_at_call 88;refine (HD.out _ G4).mono ?_;rintro e w5 ⟨rfl,k5,b5⟩;obtain ⟨kP5,M6⟩:=HMd.out w4 w5 w1.heap.size l4 b1.size lb4 k5 b5;have u4:=(TQ.wk2 (k:=k) (a:=some ⟨g,0,none⟩) (c:=c) kP5).2.2.1;have v4:=kP5.free 4 (by simp);have y0:=M6.lb.c0;have y1:=M6.lb.c1;have y2:=M6.lb.c2;have y3:=M6.lb.c3;have y4:=M6.lb.c4;have y5:=M6.lb.c5;have y6:=M6.lb.c6;have y7:=M6.lb.c7)
   | (go_at_call 91;refine (HT.out _ _ M6).mono ?_;rintro e w7 ⟨rfl,k7,t7⟩;have o7:=oh_up M6.oh t7 (Nat.le_refl _);have T7:=M6.t.trans (t7.mono hloP (Nat.le_refl _))))
  go_ret;refine ⟨rfl,?_,?_,T7⟩
  ·rw[HBk.out]
   show K0.Blk P [_,_,_,_,.slice _ (k.ds.eraseIdx p).length _,_] _
   rw[HLe.out];exact k7
  ·rw[HBk.out]
   exact o7
end TT5
end Go.Proofs.YtlejhfnjmkdobaaGreatDoor
