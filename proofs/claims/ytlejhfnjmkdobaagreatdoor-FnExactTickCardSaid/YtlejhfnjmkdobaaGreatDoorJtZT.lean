/- Joined texts. -/
import Derived.Test.YtlejhfnjmkdobaaGreatDoorJtZR
import Derived.Test.YtlejhfnjmkdobaaGreatDoorJtZS
set_option linter.unusedVariables false
set_option linter.unusedSimpArgs false
set_option maxRecDepth 10000
set_option maxHeartbeats 16000000
namespace Go.Proofs.YtlejhfnjmkdobaaGreatDoor
open ChangeShapes WideShapes ChangeAt RowKit
open Go.Proofs.Tryz
namespace TT6
open N0 (Ln)
open N1 (Sl Lists Fit)
open Z0 (dat Kp Lns kval)
open Y8 (gone)
open Y1 (come)
open LF (Btw OwnIn)
open J0 (IBuf own_block one_int ints_snoc)
open MR (AF)
open MU (Oh)
open KC (flat flat_len flat_at)
open TP (Ok back mayI code run cnt Rt Rn rn on)
open TQ (wk)
open TE (er Errs)
theorem append_intG {base n cap:Nat} {a:Option Addr} {w:World} {zs:List Int} {ops:Array Oper} {rest:List Oper} {o:Oper} {A:Act} {Q:Exit->Act->World->Prop} (hgd:o.guard=none) (sl x:Operand)
  (ho:o.op=.call { callee:=.builtin .append,args:=#[sl,x],argTypes:=#[32,32] })
  (hbuf:IBuf base w a n cap zs) (z:Int) (hs:A.eval sl=.slice a n cap) {H:Nat} (hH:w.heap.size=H) (hx:A.eval x=Sv H 1 1) (hlen:n+1<=1048577) (hb:base<=w.heap.size)
  (h:∀ g' cap' w',IBuf base w' (some ⟨g',0,none⟩) (n+1) cap' (zs ++ [z])->Below base w w'->(w.alloc (.cells #[Iv z] 3)).grownBy w' (Value.slice a n cap).ownBlock->((Value.slice a n cap).ownBlock=some g'\/g'=H+1)->wpList prog ops Q rest (A.put o.dst (Sv g' (n+1) cap')) w'):wpList prog ops Q (o :: rest) A (w.alloc (.cells #[Iv z] 3)):=by
 subst hH;obtain ⟨i0,hi,hz0,hz1,hz2⟩:=info_parts I2.info3;have hb2:=hbuf.alloc (.cells #[Iv z] 3);refine wpList_append_lies _ hgd sl x 32 ho base 3 i0 (Iv 0) 1 8 underlying32 hi hz0 hz1 hz2 rfl (by omega) _ n _ hs hb2.2 ⟨w.heap.size,0,none⟩ 1 1 [Iv z] hx rfl (World.news_of_block (heap_alloc_new w _)) (one_int z) (by omega) (by unfold maxLen;omega) (by omega) (by simp;omega) (w.heap.size+1) (by simp) ?_;intro g' cap' w' ho' hg' hor _;refine h g' cap' w' ⟨by rw[hbuf.1];simp,?_⟩ ?_ hg' hor
 ·rw[<- ints_snoc]
  exact ho'
 ·exact F0.below_grown ((Below.refl _ _).alloc hb _) hg' (own_block hbuf) (by simp;omega)
theorem ibuf_btw {base n cap lo hi:Nat} {a:Option Addr} {w W:World} {zs:List Int} (h:IBuf base w a n cap zs) (hb:Btw lo hi w W) (hx:hi<=base):IBuf base W a n cap zs:=by
 refine ⟨h.1,h.2.1,?_⟩
 rcases h.2.2 with h0 | ⟨g,c,cur,hv,hg,hc,r⟩
 ·exact Or.inl h0
 ·refine Or.inr ⟨g,c,cur,hv,hg,?_,r⟩
  rw[hb.block g (Array.getElem?_eq_some_iff.1 hc).1 (Or.inr (by omega))];exact hc
theorem ownIn_keep {lo hi n:Nat} {a:Option Addr} {w W:World} {zs:List Int} (h:OwnIn lo hi w a zs) (hb:Below n w W) (hn:hi<=n):OwnIn lo hi W a zs:=h.imp id fun ⟨g,e,h1,h2,hk⟩=>⟨g,e,h1,h2,J0.blk_keep hk hb (by omega)⟩
theorem oh_keep {lo hi n:Nat} {a:Option Addr} {ds:List Ln} {W W':World} (h:Oh lo hi a ds W) (hb:Below n W W') (hn:hi<=n):Oh lo hi a ds W':=by
 rcases h with h | ⟨g,b,ss,L,e,h1,h2,h3⟩
 ·exact Or.inl h
 ·have hgb:=h3.gb
  have h0:=h3.le (i:=0) (j:=ds.length) (Nat.zero_le _) (Nat.le_refl _);refine Or.inr ⟨g,b,ss,L,e,h1,h2,h3.len,J0.blk_keep h3.blk hb (by omega),h3.at_,fun j hj=>?_,h3.gb,Nat.le_trans h3.hi hb.size⟩;obtain ⟨m1,m2,q⟩:=h3.sub j hj;have hq:=q.le;have hj2:=h3.le (i:=j+1) (j:=ds.length) (by omega) (Nat.le_refl _);exact ⟨m1,m2,ownIn_keep q.p1 hb (by omega),ownIn_keep q.p2 hb (by omega),ownIn_keep q.p3 hb (by omega),q.le⟩
theorem gone_len (m:ByteArray) (d:Ln):(gone m d).length<=13:=by
 unfold gone
 split
 ·rw[Y6.srt_length]
  refine Nat.le_trans (List.length_filter_le _ _) ?_;unfold D0.inos;rw[List.length_map];exact D6.oldE_len d
 ·simp
theorem come_len (m:ByteArray) (d:Ln):(come m d).length<=d.fr.length:=by
 unfold come
 split
 ·exact List.length_filter_le _ _
 ·simp
structure Lp (w:World) (k:Kp) (P lo g1:Nat) (a:Option Addr) (c:Nat) (s0:Nat->Sl) (pN pD pB pF pR:Addr) (j:Nat) (a':Option Addr) (cap':Nat) (W:World):Prop where
 blk:K0.Blk P (wk (run k j).1 a c) W
 oh:Oh lo P a (run k j).1.ds W
 row:k.ds ≠ []->K0.Blk g1 (flat k.ds s0) W
 buf:IBuf w.heap.size W a' (run k j).2.length cap' (run k j).2
 ne:k.ds ≠ []->∀ x,(Value.slice a' (run k j).2.length cap').ownBlock=some x->x≠g1
 er:Errs pN pD pB pF pR lo W
 bel:Below lo w W
theorem Lp.below {w W W':World} {k:Kp} {P lo g1 c j cap':Nat} {a a':Option Addr} {s0:Nat->Sl} {pN pD pB pF pR:Addr} (h:Lp w k P lo g1 a c s0 pN pD pB pF pR j a' cap' W) (hb:Bq W W') (hs:lo<=W.heap.size):Lp w k P lo g1 a c s0 pN pD pB pF pR j a' cap' W':=
 ⟨h.blk.below hb,h.oh.below hb,fun q=>(h.row q).below hb,h.buf.below hb,h.ne,h.er.keep hb hs hs,h.bel.trans (hb.mono hs)⟩
theorem Lp.step {w W W' V:World} {k:Kp} {P lo g1 c j cap' g2 cap2 H:Nat} {a a':Option Addr} {s0:Nat->Sl} {pN pD pB pF pR:Addr} (h:Lp w k P lo g1 a c s0 pN pD pB pF pR j a' cap' W) (hlo:lo<=P) (hPw:P<w.heap.size) (hsz:w.heap.size<=W.heap.size) (hg1:k.ds ≠ []->w.heap.size<=g1)
  (hu:(dat k.ds j).un<=k.ck) (hb:Btw lo (P+1) W W') (kb:K0.Blk P (wk (back (run k j).1 (cnt k.ck k.ds j)) a c) W') (ko:Oh lo P a (back (run k j).1 (cnt k.ck k.ds j)).ds W')
  (b2:IBuf w.heap.size V (some ⟨g2,0,none⟩) ((run k j).2.length+1) cap2 ((run k j).2 ++ [code (run k j).1 (cnt k.ck k.ds j)])) (hb2:Below w.heap.size W' V) (hgr:(W'.alloc (.cells #[Iv (code (run k j).1 (cnt k.ck k.ds j))] 3)).grownBy V (Value.slice a' (run k j).2.length cap').ownBlock) (hor:(Value.slice a' (run k j).2.length cap').ownBlock=some g2\/g2=H+1) (hH:W'.heap.size=H) :
  Lp w k P lo g1 a c s0 pN pD pB pF pR (j+1) (some ⟨g2,0,none⟩) cap2 V:=by
 have e1:run k (j+1)=(back (run k j).1 (cnt k.ck k.ds j),(run k j).2 ++ [code (run k j).1 (cnt k.ck k.ds j)]):=by rw[run,if_pos hu]
 have hs:=hb.size;refine ⟨?_,?_,fun q=>?_,?_,fun q x hx=>?_,?_,?_⟩
 ·rw[e1]
  exact J0.blk_keep kb hb2 (by omega)
 ·rw[e1]
  exact oh_keep ko hb2 (by omega)
 ·have h1:=LF.blk_btw (h.row q) hb (Or.inr (by have:=hg1 q;omega))
  refine D7.blk_grown (h1.alloc _) hgr ?_;intro e;exact h.ne q _ e rfl
 ·rw[e1]
  have:((run k j).2 ++ [code (run k j).1 (cnt k.ck k.ds j)]).length=(run k j).2.length+1:=by simp
  rw[this];exact b2
 ·have hx':g2=x:=by simpa [Value.ownBlock] using hx
  subst hx'
  rcases hor with e | e
  ·exact h.ne q _ e
  ·have:=(h.row q).lt
   omega
 ·exact (h.er.keep (hb.below (Nat.le_refl _) (by omega)) (Nat.le_refl _) (by omega)).keep hb2 (by omega) (by omega)
 ·exact (h.bel.trans (hb.below (Nat.le_refl _) (by omega))).trans (hb2.mono (by omega))
theorem Lp.skip {w W:World} {k:Kp} {P lo g1 c j cap':Nat} {a a':Option Addr} {s0:Nat->Sl} {pN pD pB pF pR:Addr} (h:Lp w k P lo g1 a c s0 pN pD pB pF pR j a' cap' W) (hu:¬ (dat k.ds j).un<=k.ck):Lp w k P lo g1 a c s0 pN pD pB pF pR (j+1) a' cap' W:=by
 have e1:run k (j+1)=run k j:=by rw[run,if_neg hu]
 exact ⟨by rw[e1];exact h.blk,by rw[e1];exact h.oh,h.row,by rw[e1];exact h.buf,by rw[e1];exact h.ne,h.er,h.bel⟩
theorem giveBackLate (k:Kp) (P lo:Nat) (a:Option Addr) (c:Nat) (pN pD pB pF pR:Addr) (w:World) (hR:Rt k) (hn:k.ds.length<=1048576) (ht:k.ds.length+Z1.tot k.ds k.ds.length<=1048576) (hP:K0.Blk P (wk k a c) w) (hO:Oh lo P a k.ds w) (hc:k.ds.length<=c) (hcm:c<=maxLen) (hE:Errs pN pD pB pF pR lo w) (hlo:lo<=P) :
  Calls prog 23 #[Pv P 0] w fun e w'=>∃ a' c',e=.returned (.slice a' (run k k.ds.length).2.length c')/\IBuf w.heap.size w' a' (run k k.ds.length).2.length c' (run k k.ds.length).2/\K0.Blk P (wk (run k k.ds.length).1 a c) w'/\Oh lo P a (run k k.ds.length).1.ds w'/\Below lo w w':=by
 have hPw:=hP.lt;have n0:=K0.below_new w (.cells #[] 3);have B0:=J0.ibuf_made (base:=w.heap.size) w (Nat.le_refl _);obtain ⟨s0,hL⟩:=hO.lns;have hcl:=KC.clone a c k.ds s0 (w.alloc (.cells #[] 3)) hn (hL.row.below n0);have c4:=(TQ.wk2 (hP.below n0)).2.2.1
 have HG:Hid (∀ j W,j<k.ds.length->(dat k.ds j).un<=k.ck->K0.Blk P (wk (run k j).1 a c) W->Oh lo P a (run k j).1.ds W->Errs pN pD pB pF pR lo W->Calls prog 54 #[Pv P 0,Iv (dat k.ds j).cl,Iv (dat k.ds j).ino] W fun e w'=>e=.returned (if mayI (run k j).1 (dat (run k j).1.ds (cnt k.ck k.ds j))=true then .nilIface else er pR)/\K0.Blk P (wk (back (run k j).1 (cnt k.ck k.ds j)) a c) w'/\Oh lo P a (back (run k j).1 (cnt k.ck k.ds j)).ds w'/\Btw lo (P+1) W w'):=fun j W hj hu h1 h2 h3=>by
  have r:=rn k hR.ok j (by omega);have hl:=r.len;have hle:=r.le;have hz:=TP.sz_run hR ht (j:=j) (by omega)
  have hp:cnt k.ck k.ds j<(run k j).1.ds.length:=by omega
  have hself:dat (run k j).1.ds (cnt k.ck k.ds j)=dat k.ds j:=by simpa using r.rest 0 (by omega)
  have hg:=gone_len (run k j).1.mem (dat (run k j).1.ds (cnt k.ck k.ds j));have hcm':=come_len (run k j).1.mem (dat (run k j).1.ds (cnt k.ck k.ds j));have hfr:=(N0.loanOk_is (hR.lok j hj)).2.2.2.2.2.2.2.2.1;exact TT5.giveBack (run k j).1 P lo a c (cnt k.ck k.ds j) _ _ pN pD pB pF pR W r.ok (by omega) hz h1 h2 (by omega) hcm h3 hp (fun x hx=>TP.place hR hj hx) (by omega) (by rw[hself] at hcm' ⊢;omega)
 have HC:Hid (∀ j,j<=k.ds.length->(run k j).1.ck=k.ck/\(run k j).2.length<=j):=fun j hj=>⟨(rn k hR.ok j hj).ck,(rn k hR.ok j hj).cod⟩
 have HS:Hid (∀ W,Bq w W->K0.Blk P (wk k a c) W/\Oh lo P a k.ds W/\Errs pN pD pB pF pR lo W):=fun W hb=>⟨hP.below hb,hO.below hb,hE.keep hb (by omega) (by omega)⟩
 clear hP hO hE hL hR;go_enter func23,ntmps23
 go_wp2_with (go_at_call 52;refine hcl.mono ?_;rintro e w1 ⟨a1,c1,rfl,h1,b1,hcap,hcm1⟩;have l1:=n0.trans (b1.mono n0.size))
 obtain ⟨g1,H1⟩:∃ g1,Hid ((k.ds ≠ []->a1=some ⟨g1,0,none⟩/\w.heap.size<g1)/\Lp w k P lo g1 a c s0 pN pD pB pF pR 0 (some ⟨w.heap.size,0,none⟩) 0 w1):=by
  obtain ⟨q1,q2,q3⟩:=HS.out _ l1;have hb0:=B0.below b1
  rcases h1 with h | ⟨g,e,hg,hk⟩
  ·exact ⟨0,fun q=>absurd h q,q1,q2,fun q=>absurd h q,hb0,fun q=>absurd h q,q3,l1.mono (by omega)⟩
  ·have hg':w.heap.size+1<=g:=by simpa using hg
   exact ⟨g,fun _=>⟨e,by omega⟩,q1,q2,fun _=>hk,hb0,fun _ x hx=>by simp[Value.ownBlock] at hx;omega,q3,l1.mono (by omega)⟩
 clear h1 hcl B0 n0 c4 b1;have hs1:=l1.size
 go_loopw [3,14] (fun p i w'=>∃ (j:Nat) (a':Option Addr) (cap':Nat),j<=k.ds.length/\i=Iv j/\p=.slice a' (run k j).2.length cap'/\Hid (Lp w k P lo g1 a c s0 pN pD pB pF pR j a' cap' w')/\w.heap.size<=w'.heap.size) (fun _ i _=>k.ds.length-(intOf i).toNat)
 case atStart=>exact ⟨0,_,_,Nat.zero_le _,rfl,rfl,H1.out.2,hs1⟩
 case round=>
  obtain ⟨j,a3,c3,hj,rfl,rfl,HLp,hsz⟩:=hrel;obtain ⟨hck,hcl2⟩:=HC.out j hj
  by_cases hlt:j<k.ds.length
  ·have hne:k.ds ≠ []:=by intro h;rw[h] at hlt;simp at hlt
   obtain ⟨rfl,hg1⟩:=H1.out.1 hne;obtain ⟨y0,y1,y2,y3,y4,y5,y6,y7⟩:=Z2.at_of (HLp.out.row hne) (flat_at k.ds s0 j hlt);have nb:=K0.below_new wr (LH.lob (dat k.ds j) (s0 j));have Lp1:=HLp.out.below nb (by omega);have lb1:=N1.lb_new (dat k.ds j) (s0 j) wr 46;have d5:=(TQ.wk2 Lp1.blk).2.2.2;rw[hck] at d5
   have HU:Hid ((dat k.ds j).un<=k.ck->(dat k.ds j).un<=k.ck):=fun h=>h
   have Lp1d:=Lp1.below ((Below.refl _ _).drew) (by have:=nb.size;omega);have lb1d:=lb1.below ((Below.refl _ _).drew);have HSt:Hid (Lp w k P lo g1 a c s0 pN pD pB pF pR j a3 c3 (wr.alloc (LH.lob (dat k.ds j) (s0 j))).drew):=Lp1d;have hgb:=HG.out j (wr.alloc (LH.lob (dat k.ds j) (s0 j))).drew hlt;have hszd:w.heap.size<=(wr.alloc (LH.lob (dat k.ds j) (s0 j))).drew.heap.size:=Nat.le_trans hsz nb.size
   have HSk:Hid (¬ (dat k.ds j).un<=k.ck->Lp w k P lo g1 a c s0 pN pD pB pF pR (j+1) a3 c3 (wr.alloc (LH.lob (dat k.ds j) (s0 j))).drew/\run k (j+1)=run k j):=fun h=>⟨Lp1d.skip h,by rw[run,if_neg h]⟩
   have HSp:Hid ((dat k.ds j).un<=k.ck->(∀ W' V g2 cap2,Btw lo (P+1) (wr.alloc (LH.lob (dat k.ds j) (s0 j))).drew W'->K0.Blk P (wk (back (run k j).1 (cnt k.ck k.ds j)) a c) W'->Oh lo P a (back (run k j).1 (cnt k.ck k.ds j)).ds W'->IBuf w.heap.size V (some ⟨g2,0,none⟩) ((run k j).2.length+1) cap2 ((run k j).2 ++ [code (run k j).1 (cnt k.ck k.ds j)])->Below w.heap.size W' V->(W'.alloc (.cells #[Iv (code (run k j).1 (cnt k.ck k.ds j))] 3)).grownBy V (Value.slice a3 (run k j).2.length c3).ownBlock->((Value.slice a3 (run k j).2.length c3).ownBlock=some g2\/g2=W'.heap.size+1)->Lp w k P lo g1 a c s0 pN pD pB pF pR (j+1) (some ⟨g2,0,none⟩) cap2 V)/\(run k (j+1)).2.length=(run k j).2.length+1):=fun h=>⟨fun W' V g2 cap2 q1 q2 q3 q4 q5 q6 q7=>Lp1d.step hlo hPw hszd (fun _=>by omega) h q1 q2 q3 q4 q5 q6 q7 rfl,by rw[run,if_pos h];simp⟩
   have hcode:code (run k j).1 (cnt k.ck k.ds j)=if mayI (run k j).1 (dat (run k j).1.ds (cnt k.ck k.ds j))=true then 0 else 5:=rfl
   have hbufd:=Lp1d.buf;have blkd:=Lp1d.blk;have ohd:=Lp1d.oh;have erd:=Lp1d.er;obtain ⟨d,ed⟩:∃ d,dat k.ds j=d:=⟨_,rfl⟩;obtain ⟨s,es⟩:∃ s,s0 j=s:=⟨_,rfl⟩;rw[ed] at y0 y1 y2 y3 y4 y5 y6 y7 lb1 lb1d nb hgb HSk HSp hbufd blkd ohd erd hszd d5;rw[es] at y4 y6 y7 lb1 lb1d nb hgb HSk HSp hbufd blkd ohd erd hszd d5
   have e1:(0:Int)<=(j:Int):=by omega
   have e2:(j:Int)<(k.ds.length:Int):=by omega
   have f2:=lb1.c2;have f0:=lb1d.c0;have f1:=lb1d.c1
   generalize run k j=Rj at *
   by_cases hu:d.un<=k.ck
   ·have hg2:=hgb hu blkd ohd erd
    obtain ⟨hs1',hs2'⟩:=HSp.out hu;have HS1:Hid (∀ W' V g2 cap2,Btw lo (P+1) (wr.alloc (LH.lob d s)).drew W'->K0.Blk P (wk (back Rj.1 (cnt k.ck k.ds j)) a c) W'->Oh lo P a (back Rj.1 (cnt k.ck k.ds j)).ds W'->IBuf w.heap.size V (some ⟨g2,0,none⟩) (Rj.2.length+1) cap2 (Rj.2 ++ [code Rj.1 (cnt k.ck k.ds j)])->Below w.heap.size W' V->(W'.alloc (.cells #[Iv (code Rj.1 (cnt k.ck k.ds j))] 3)).grownBy V (Value.slice a3 Rj.2.length c3).ownBlock->((Value.slice a3 Rj.2.length c3).ownBlock=some g2\/g2=W'.heap.size+1)->Lp w k P lo g1 a c s0 pN pD pB pF pR (j+1) (some ⟨g2,0,none⟩) cap2 V):=hs1';have HSl:Hid ((run k (j+1)).2.length=Rj.2.length+1):=hs2';clear hs1' hs2'
    cases hm:mayI Rj.1 (dat Rj.1.ds (cnt k.ck k.ds j)) with
    | true=>
     rw[hm,if_pos rfl] at hg2 hcode;have HCo:Hid (code Rj.1 (cnt k.ck k.ds j)=0):=hcode;clear hm hcode hgb HG HC HS HSp HSk HLp Lp1 Lp1d HSt hck lb1 nb ed es H1;go_wp2
     go_region
     go_wp2_with (first
      | (go_at_call 54;refine hg2.mono ?_;rintro e w5 ⟨rfl,k5,o5,b5⟩;have bf5:=ibuf_btw hbufd b5 (by omega);have s5:=b5.size;have er5:=erd.keep (b5.below (Nat.le_refl _) (by omega)) (Nat.le_refl _) (by omega))
      | (go_at_call 53;refine (AK.codeOf_nil _).mono ?_;rintro e w6 ⟨rfl,hw6⟩;subst w6)
      | (at_builtin;refine append_intG rfl (.tmp 26) (.tmp 34) rfl bf5 0 (by rfl) (H:=w5.heap.size) rfl (by rfl) (by omega) (by omega) ?_;intro g2 cap2 w7 b7 l7 gr7 or7))
     have s7:=l7.size
     go_roundw
     case rel=>exact ⟨j+1,some ⟨g2,0,none⟩,cap2,by omega,by go_num,by rw[HSl.out],HS1.out w5 w7 g2 cap2 b5 k5 o5 (by rw[HCo.out];exact b7) l7 (by rw[HCo.out];exact gr7) or7,by omega⟩
     case measure=>simp[intOf];omega
    | false=>
     rw[hm,if_neg (by decide)] at hg2 hcode;have HCo:Hid (code Rj.1 (cnt k.ck k.ds j)=5):=hcode;clear hm hcode hgb HG HC HS HSp HSk HLp Lp1 Lp1d HSt hck lb1 nb ed es H1;go_wp2
     go_region
     go_wp2_with (first
      | (go_at_call 54;refine hg2.mono ?_;rintro e w5 ⟨rfl,k5,o5,b5⟩;have bf5:=ibuf_btw hbufd b5 (by omega);have s5:=b5.size;have er5:=erd.keep (b5.below (Nat.le_refl _) (by omega)) (Nat.le_refl _) (by omega))
      | (go_at_call 53;refine (TE.codeOf_rej _ er5).mono ?_;rintro e w6 ⟨rfl,hw6⟩;subst w6)
      | (at_builtin;refine append_intG rfl (.tmp 26) (.tmp 34) rfl bf5 5 (by rfl) (H:=w5.heap.size) rfl (by rfl) (by omega) (by omega) ?_;intro g2 cap2 w7 b7 l7 gr7 or7))
     have s7:=l7.size
     go_roundw
     case rel=>exact ⟨j+1,some ⟨g2,0,none⟩,cap2,by omega,by go_num,by rw[HSl.out],HS1.out w5 w7 g2 cap2 b5 k5 o5 (by rw[HCo.out];exact b7) l7 (by rw[HCo.out];exact gr7) or7,by omega⟩
     case measure=>simp[intOf];omega
   ·obtain ⟨q1,q2⟩:=HSk.out hu
    have HQ1:Hid (Lp w k P lo g1 a c s0 pN pD pB pF pR (j+1) a3 c3 (wr.alloc (LH.lob d s)).drew):=q1;have HQ2:Hid (run k (j+1)=Rj):=q2
    have hu':k.ck<d.un:=by omega
    clear q1 q2 hu hcode hgb HG HC HS HSp HSk HLp Lp1 Lp1d HSt hck lb1 nb ed es H1;go_wp2
    go_region
    go_wp2
    go_roundw
    case rel=>exact ⟨j+1,a3,c3,by omega,by go_num,by rw[HQ2.out],HQ1.out,hszd⟩
    case measure=>simp[intOf];omega
  ·obtain rfl:j=k.ds.length:=by omega
   have q1:=HLp.out.buf;have q2:=HLp.out.blk;have q3:=HLp.out.oh;have q4:=HLp.out.bel;clear HLp HG HC HS H1 hck hcl2;go_wp2;go_ret;exact ⟨a3,c3,rfl,q1,q2,q3,q4⟩
end TT6
namespace TTB
open N0 (Ln)
open N1 (Sl Lists Fit)
open Z0 (dat Kp Lns kval kvals)
open Z4 (truth Fits)
open Z2 (LAt)
open Y8 (gone)
open Y1 (come)
open Y6 (kept srt)
open KC (flat flat_len flat_at flat_one)
open KD (kob zk)
open KQ (layN)
open WI (rl)
open N13 (undo)
open J0 (IBuf)
open TP (w1 wN Ok backed back code mayI mayS)
structure Bk (w:World) (k:Kp) (a:Option Addr) (c n:Nat) (d:Ln) (s:Sl) (m b:ByteArray) (W:World):Prop where
 kb:K0.Blk w.heap.size [.string m,.string b,.slice a n c,.int .i64 k.ck] W
 ab:K0.Blk (w.heap.size+1) Z3.zero4 W
 lb:N1.LB (w.heap.size+1+1) d s W
 bel:Bq w W
variable {w W W' : World} {k : Kp} {a : Option Addr} {c n : Nat} {d : Ln} {s : Sl} {m b : ByteArray}
theorem Bk.below (h:Bk w k a c n d s m b W) (hb:Bq W W'):Bk w k a c n d s m b W':=⟨h.kb.below hb,h.ab.below hb,h.lb.below hb,h.bel.trans (hb.mono h.bel.size)⟩
theorem bk_keep {x:Nat} (h:Bk w k a c n d s m b W) (hb:Below x W W') (hx:w.heap.size+1+1<x):Bk w k a c n d s m b W':=⟨J0.blk_keep h.kb hb (by omega),J0.blk_keep h.ab hb (by omega),⟨J0.blk_keep h.lb.b hb (by omega)⟩,h.bel.trans (hb.mono (by omega))⟩
theorem bk_new (w:World) (k:Kp) (a:Option Addr) (c:Nat) (d:Ln) (s:Sl):Bk w k a c k.ds.length d s k.mem k.dur (((w.alloc (kob k a c)).alloc zk).alloc (LH.lob d s)):=by
 have e:((w.alloc (kob k a c)).alloc zk).heap.size=w.heap.size+1+1:=by simp
 have l:=N1.lb_new d s ((w.alloc (kob k a c)).alloc zk) 46;rw[e] at l;exact ⟨((K0.blk_new (kvals k a c) w 31).alloc _).alloc _,(K0.blk_at Z3.zero4 _ 31 (by simp)).alloc _,l,(((Below.refl _ _).alloc (Nat.le_refl _) _).alloc (by simp) _).alloc (by simp;omega) _⟩
theorem bk_set (h:Bk w k a c n d s m b W) (m' b':ByteArray):Bk w k a c n d s m' b' ((W.setCell ⟨w.heap.size,0,none⟩ (.string m')).setCell ⟨w.heap.size,1,none⟩ (.string b')):=
 ⟨(h.kb.set 0 (.string m')).set 1 (.string b'),(h.ab.setOther (by omega) 0 _).setOther (by omega) 1 _,⟨(h.lb.b.setOther (by omega) 0 _).setOther (by omega) 1 _⟩,(h.bel.setCell (p:=⟨w.heap.size,0,none⟩) (Nat.le_refl _) _).setCell (p:=⟨w.heap.size,1,none⟩) (Nat.le_refl _) _⟩
theorem bk_mem (h:Bk w k a c n d s m b W) (m':ByteArray):Bk w k a c n d s m' b (W.setCell ⟨w.heap.size,0,none⟩ (.string m')):=
 ⟨h.kb.set 0 (.string m'),h.ab.setOther (by omega) 0 _,⟨h.lb.b.setOther (by omega) 0 _⟩,h.bel.setCell (p:=⟨w.heap.size,0,none⟩) (Nat.le_refl _) _⟩
theorem bk_row (h:Bk w k a c n d s m b W) (a':Option Addr) (c':Nat) {n':Nat}:Bk w k a' c' n' d s m b (W.setCell ⟨w.heap.size,2,none⟩ (.slice a' n' c')):=
 ⟨h.kb.set 2 (.slice a' n' c'),h.ab.setOther (by omega) 2 _,⟨h.lb.b.setOther (by omega) 2 _⟩,h.bel.setCell (p:=⟨w.heap.size,2,none⟩) (Nat.le_refl _) _⟩
theorem cells9 (h:Bk w k a c n d s m b W):Ce W w.heap.size 0 (.string m)/\Ce W (w.heap.size+1+1) 0 (Iv d.ino)/\Ce W (w.heap.size+1+1) 1 (Iv d.cl)/\Ce W (w.heap.size+1+1) 2 (Iv d.un)/\Ce W (w.heap.size+1+1) 3 (.string d.rc)/\Ce W (w.heap.size+1+1) 4 (.slice s.a1 d.pg.length s.c1)/\Ce W (w.heap.size+1+1) 5 (.string d.sav)/\Ce W (w.heap.size+1+1) 6 (.slice s.a2 d.po.length s.c2)/\Ce W (w.heap.size+1+1) 7 (.slice s.a3 d.fr.length s.c3):=⟨h.kb.c0,h.lb.c0,h.lb.c1,h.lb.c2,h.lb.c3,h.lb.c4,h.lb.c5,h.lb.c6,h.lb.c7⟩
theorem cells3 {base gb off j:Nat} {C:List Int} {a9:Option Addr} {z:Int} (h:Bk w k a c n d s m b W) (o:J0.Own base W a9 C) (hab:a9=some ⟨gb,off,none⟩) (hlt:j<C.length) (ez:C.getD j 0=z):Ce W w.heap.size 0 (.string m)/\Ce W w.heap.size 1 (.string b)/\Ce W gb (off+j) (Iv z):=by
 obtain ⟨b',off',hab',_,hc⟩:=o.row.get hlt;rw[hab] at hab';cases hab';exact ⟨h.kb.c0,h.kb.c1,by rw[<- ez];exact hc j hlt⟩
theorem run_loans {base n cap:Nat} {a:Option Addr} {w:World} {vs:List Value} (ho:w.ownsRow base 46 8 (.slice a n cap) n vs) (ax:Addr) (m cx:Nat) (news:List Value) (hl:news.length=m*8) (hc:∀ j u,news[j]? = some u->w.cell? (ax.add j)=some u) (h1:∀ u ∈ news,u.oneCell'=true) (hlen:n+m<=1048576) (hb:base<=w.heap.size) :
  ∃ a' cap' w',(Builtin.append_ #[29,29] 29 #[.slice a n cap,.slice (some ax) m cx]).run prog w=.ok (.slice a' (n+m) cap') w'/\w'.ownsRow base 46 8 (.slice a' (n+m) cap') (n+m) (vs++news)/\w.grownBy w' (Value.slice a n cap).ownBlock:=by
 obtain ⟨i0,hi,hz0,hz1,hz2⟩:=info_parts Z2.infoL
 by_cases h0:m=0
 ·subst h0
  have hle:n<=cap:=by
   rcases ho.2 with ⟨h0,h1⟩ | ⟨g,c,cur,hv,_,_,hle,_⟩
   ·omega
   ·simp at hv
    omega
  have hn:news=[]:=List.eq_nil_of_length_eq_zero (by omega);subst hn;exact ⟨a,cap,w,Q1.run_append_none w 29 _ 46 i0 underlying29 hi a n cap hle (some ax) cx,by rw[List.append_nil];exact ho,⟨rfl,rfl,rfl,Nat.le_refl _,fun _ _ _=>rfl⟩⟩
 ·obtain ⟨g,cp,w',hrun,r1,r2,r3,r4⟩:=run_append_lies (P:=prog) w 29 29 base 46 i0 (.agg Z2.zero8) 8 128 underlying29 hi hz0 hz1 hz2 rfl (by omega) _ n _ ho ax m cx news hl hc h1 (by omega) (by unfold maxLen;omega) (by omega) hb _ rfl
  exact ⟨some ⟨g,0,none⟩,cp,w',hrun,r1,r2⟩
theorem lat_del {n p:Nat} {D:Nat->Ln} {ss:Nat->Sl} {L:List Value} (hL:L.length=n*8) (h:∀ j,j<n->LAt L (j*8) (D j) (ss j)) (hp:p<n) (j:Nat) (hj:j<n-1):LAt (L.take (p*8)++L.drop ((p+1)*8)) (j*8) (if j<p then D j else D (j+1)) (if j<p then ss j else ss (j+1)):=by
 have hl0:(L.take (p*8)).length=p*8:=by rw[List.length_take,hL];omega
 by_cases hjp:j<p
 ·have e:∀ x,x<8->(L.take (p*8)++L.drop ((p+1)*8))[j*8+x]? = L[j*8+x]?:=fun x hx=>by
   rw[List.getElem?_append_left (by omega),List.getElem?_take_of_lt (by omega)]
  obtain ⟨f0,f1,f2,f3,f4,f5,f6,f7⟩:=h j (by omega);have e0:=e 0 (by omega);rw[Nat.add_zero] at e0;rw[if_pos hjp,if_pos hjp];exact ⟨e0.trans f0,(e 1 (by omega)).trans f1,(e 2 (by omega)).trans f2,(e 3 (by omega)).trans f3,(e 4 (by omega)).trans f4,(e 5 (by omega)).trans f5,(e 6 (by omega)).trans f6,(e 7 (by omega)).trans f7⟩
 ·have e:∀ x,x<8->(L.take (p*8)++L.drop ((p+1)*8))[j*8+x]? = L[(j+1)*8+x]?:=fun x hx=>by
   rw[List.getElem?_append_right (by omega),hl0,List.getElem?_drop]
   congr 1
   omega
  obtain ⟨f0,f1,f2,f3,f4,f5,f6,f7⟩:=h (j+1) (by omega);have e0:=e 0 (by omega);rw[Nat.add_zero,Nat.add_zero] at e0;rw[if_neg hjp,if_neg hjp];exact ⟨e0.trans f0,(e 1 (by omega)).trans f1,(e 2 (by omega)).trans f2,(e 3 (by omega)).trans f3,(e 4 (by omega)).trans f4,(e 5 (by omega)).trans f5,(e 6 (by omega)).trans f6,(e 7 (by omega)).trans f7⟩
theorem rows {p b off:Nat} {bb:ByteArray} {A:Addr} {ss:Nat->Sl} (hp:p<k.ds.length) (hn:k.ds.length<=1048576) (hA:(if c=p+1 then some (⟨b,off,none⟩:Addr) else some ⟨b,off+(p+1)*8,none⟩)=some A) (hc:k.ds.length<=c) (hR:Lns w (some ⟨b,off,none⟩) k.ds ss) (h:Bk w k (some ⟨b,off,none⟩) c k.ds.length d s m bb W) (hlt:b<w.heap.size) :
  ∃ a1 c1 w1 a2 c2 w2,(Builtin.append_ #[29,29] 29 #[Sv W.heap.size 0 0,.slice (some ⟨b,off,none⟩) p c]).run prog (W.alloc (.cells #[] 46))=.ok (.slice a1 p c1) w1/\(Builtin.append_ #[29,29] 29 #[.slice a1 p c1,.slice (some A) (k.ds.length-(p+1)) (c-(p+1))]).run prog w1=.ok (.slice a2 (k.ds.length-1) c2) w2/\
   Bk w k (some ⟨b,off,none⟩) c k.ds.length d s m bb (W.alloc (.cells #[] 46))/\Bk w k (some ⟨b,off,none⟩) c k.ds.length d s m bb w1/\Bk w k (some ⟨b,off,none⟩) c k.ds.length d s m bb w2/\(k.ds.length-1<=c2/\c2<=maxLen)/\w2.ownsRow W.heap.size 46 8 (.slice a2 (k.ds.length-1) c2) (k.ds.length-1) ((flat k.ds ss).take (p*8)++(flat k.ds ss).drop ((p+1)*8))/\(∀ g o,a2=some ⟨g,o,none⟩->w.heap.size<=g):=by
 have hL:=flat_len k.ds ss;have hK:=h.lb.b.lt;have nb:=K0.below_new W (.cells #[] 46);have B1:=h.below nb;have o0:(W.alloc (.cells #[] 46)).ownsRow W.heap.size 46 8 (Sv W.heap.size 0 0) 0 []:=World.ownsRow_made W #[] 0 (Nat.le_refl _) (Nat.zero_le _) rfl
 have src:∀ V,Bq w V->∀ i u,(flat k.ds ss)[i]? = some u->Ce V b (off+i) u:=fun V hV i u hu=>by
  obtain ⟨b',off',e,_,hcc⟩:=(hR.below hV).row.get hp;cases e;exact KC.row_cells hcc i u hu
 obtain ⟨a1,c1,w1,r1,ow1,g1⟩:=run_loans o0 ⟨b,off,none⟩ p c ((flat k.ds ss).take (p*8)) (by rw[List.length_take,hL];omega) (fun j u hj=>by
  rw[B0.add_off];refine src _ B1.bel j u ?_;rw[List.getElem?_take] at hj
  split at hj
  ·exact hj
  ·cases hj) (fun u hu=>flat_one k.ds ss u (List.mem_of_mem_take hu)) (by omega) nb.size
 have l1:Bq W w1:=F0.below_grown nb g1 (fun g hg=>by simp[Value.ownBlock] at hg;omega) nb.size;have B2:=bk_keep h l1 (by omega);rw[Nat.zero_add,List.nil_append] at ow1;rw[Nat.zero_add] at r1
 have hA':∀ j u,((flat k.ds ss).drop ((p+1)*8))[j]? = some u->w1.cell? (A.add j)=some u:=fun j u hj=>by
  rw[List.getElem?_drop] at hj
  by_cases hcp:c=p+1
  ·have:(flat k.ds ss).length<=(p+1)*8:=by rw[hL];omega
   rw[List.getElem?_eq_none (by omega)] at hj;cases hj
  ·rw[if_neg hcp] at hA
   cases hA;rw[B0.add_off,Nat.add_assoc];exact src _ B2.bel _ u hj
 obtain ⟨a2,c2,w2,r2,ow2,g2⟩:=run_loans ow1 A (k.ds.length-(p+1)) (c-(p+1)) ((flat k.ds ss).drop ((p+1)*8)) (by rw[List.length_drop,hL];omega) hA' (fun u hu=>flat_one k.ds ss u (List.mem_of_mem_drop hu)) (by omega) l1.size;have l2:Bq W w2:=F0.below_grown l1 g2 (fun g hg=>(ow1.lt g hg).1) l1.size;rw[show p+(k.ds.length-(p+1))=k.ds.length-1 by omega] at ow2 r2;refine ⟨a1,c1,w1,a2,c2,w2,r1,r2,B1,B2,bk_keep h l2 (by omega),?_,ow2,fun g o hg=>by have:=(ow2.lt g (by rw[hg];rfl)).1;have:=h.bel.size;omega⟩
 rcases ow2.2 with ⟨h0,h1⟩ | ⟨g,cc,cur,hv,_,_,hle,hm,_⟩
 ·simp at h0
  omega
 ·simp at hv
  omega
theorem rows_lns {p base:Nat} {ss:Nat->Sl} {a a2:Option Addr} {c2:Nat} (hp:p<k.ds.length) (hR:Lns w a k.ds ss) (hW:Bq w W) (ho:W.ownsRow base 46 8 (.slice a2 (k.ds.length-1) c2) (k.ds.length-1) ((flat k.ds ss).take (p*8)++(flat k.ds ss).drop ((p+1)*8))) :
  Lns W a2 (k.ds.eraseIdx p) (fun j=>if j<p then ss j else ss (j+1)):=by
 have hL:=flat_len k.ds ss
 have hlen:(k.ds.eraseIdx p).length=k.ds.length-1:=by rw[List.length_eraseIdx,if_pos hp]
 refine ⟨?_,fun j hj=>?_⟩
 ·rcases ho.2 with ⟨h0,h1⟩ | ⟨g,cc,cur,hv,_⟩
  ·exact Or.inl (List.eq_nil_of_length_eq_zero (by omega))
  ·simp at hv
   obtain ⟨rfl,rfl⟩:=hv;obtain ⟨_,hk⟩:=KC.blk_of_owns ho (by rw[List.length_append,List.length_take,List.length_drop,hL];omega);refine Or.inr ⟨g,0,rfl,hk.lt,fun j hj=>?_⟩;rw[Nat.zero_add,TP.dat_erase];exact Z2.at_of hk (lat_del hL (fun i hi=>flat_at k.ds ss i hi) hp j (by omega))
 ·have h1:=(hR.below hW).sub
  rw[TP.dat_erase]
  by_cases hjp:j<p
  ·simp only[if_pos hjp]
   exact h1 j (by omega)
  ·simp only[if_neg hjp]
   exact h1 (j+1) (by omega)
theorem recAt_wf (z:Int):(Lit.int .i64 (L1.recAt z)).wf=true:=by
 have e1:IntKind.i64.min = -9223372036854775808:=by decide +kernel
 have e2:IntKind.i64.max=9223372036854775807:=by decide +kernel
 unfold L1.recAt
 split
 ·rename_i h
  have:=N0.inB_iff.1 h;simp[Lit.wf,e1,e2];omega
 ·simp[Lit.wf,e1,e2]
theorem owns_set {base B j n:Nat} {v x:Value} {vs:List Value} (h:W.ownsRow base 46 8 v n vs) (hB:B<base):(W.setCell ⟨B,j,none⟩ x).ownsRow base 46 8 v n vs:=ownsRow_setCell_below h (a:=⟨B,j,none⟩) hB x
theorem l06Back (k:Kp) (a:Option Addr) (c p:Nat) (ss:Nat->Sl) (w:World) (hok:Ok (k.mem,k.dur)) (hn:k.ds.length<=1048576) (ht:k.ds.length+Z1.tot k.ds k.ds.length<=1048576) (hF:Fits k.ds ss) (hR:Lns w a k.ds ss) (hc:k.ds.length<=c) (hcm:c<=maxLen) (hp:p<k.ds.length) (hlo:N0.loanOk (dat k.ds p)=true) (hmay:mayS k (dat k.ds p)=mayI k (dat k.ds p)) :
  Calls prog 18 #[kval k a c,Iv p] w fun e w'=>∃ a' c',e=.returned (.tuple #[kval (back k p) a' c',Iv (code k p)])/\Lns w' a' (back k p).ds (fun j=>if j<p then ss j else ss (j+1))/\(∀ g o,a'=some ⟨g,o,none⟩->w.heap.size<=g)/\(back k p).ds.length<=c'/\c'<=maxLen/\Bq w w':=by
 obtain ⟨b,off,rfl,hbl,hcells⟩:=hR.row.get hp;have hm:k.mem.size=768:=hok.1
 have hlen:(k.ds.eraseIdx p).length=k.ds.length-1:=by rw[List.length_eraseIdx,if_pos hp]
 obtain ⟨hFd,hpo,hfr⟩:=hF p hp;obtain ⟨-,-,-,hsv,-,-,hp6,-,hf2,-,-,-,hasc⟩:=N0.loanOk_is hlo;have hsz:=N12.sizes (d:=dat k.ds p) (by have:=Z1.tot_one hp;omega);have htr:(truth k).size=768:=(Z4.unAll_size k.ds k.mem k.ds.length).trans hok.1;have hgl:=TT6.gone_len k.mem (dat k.ds p);have hcl:=TT6.come_len k.mem (dat k.ds p)
 have HL:Hid (∀ W,Bq w W->Lists W (dat k.ds p) (ss p)):=fun W hb=>(hR.below hb).sub p hp
 have HT:Hid (∀ W,Bq w W->Calls prog 40 #[kval k (some ⟨b,off,none⟩) c,N1.val (dat k.ds p) (ss p)] W (Rb (.bool (mayI k (dat k.ds p))) W)):=fun W hb=>by
  have:=TTA.l06Takes k (some ⟨b,off,none⟩) c ss (dat k.ds p) (ss p) W hm hn ht hF (hR.below hb) hFd hpo hfr hsz.2.2.2.1 hsz.2.2.2.2 (HL.out W hb) htr (by omega);rw[hmay] at this;exact this
 have HG:Hid (∀ W,Bq w W->_):=fun W hb=>Y9.spec_GoneB k.mem (dat k.ds p) (ss p) W (by omega) hFd hpo hfr (by have:=hsz.2.2.2.1;omega) (by have:=hsz.2.2.2.2;omega) (HL.out W hb)
 have HC:Hid (∀ W,Bq w W->_):=fun W hb=>Y3.spec_Come k.mem (dat k.ds p) (ss p) W (by omega) hFd hpo hfr (HL.out W hb)
 have HO:Hid (∀ W a7 c7,Bq w W->P0.Row W a7 (come k.mem (dat k.ds p))->Calls prog 42 #[.slice (ss p).a3 (dat k.ds p).fr.length (ss p).c3,.slice a7 (come k.mem (dat k.ds p)).length c7,.bool false] W fun e w'=>∃ a c,e=.returned (.slice a (kept false (dat k.ds p).fr (come k.mem (dat k.ds p))).length c)/\(kept false (dat k.ds p).fr (come k.mem (dat k.ds p))).length<=c/\J0.Own W.heap.size w' a (kept false (dat k.ds p).fr (come k.mem (dat k.ds p)))/\Bq W w'):=fun W a7 c7 hb hr=>by
  have:=Y6.l05Only false (ss p).a3 a7 (ss p).c3 c7 (dat k.ds p).fr (come k.mem (dat k.ds p)) W hfr (by omega) (HL.out W hb).r3 hr;rw[TP.kept_srt hasc] at this;exact this
 have hkl:(kept false (dat k.ds p).fr (come k.mem (dat k.ds p))).length<=2:=Nat.le_trans (List.length_filter_le _ _) hf2
 have HU:Hid (∀ W,Bq w W->_):=fun W hb=>N14.spec_Undo k.mem (dat k.ds p) (ss p) W (by omega) hFd hpo hfr (HL.out W hb)
 have HSyn:Hid (∀ x y W,Ok (x,y)->Bq w W->_):=fun x y W h hb=>PE.l06Sync x y (dat k.ds p) (ss p) W h.1 h.2 hFd hpo hfr (HL.out W hb)
 have HSet:Hid (∀ (q:ByteArray × ByteArray) z W,Ok q->Calls prog 45 #[.agg #[.string q.1,.string q.2],Iv (L1.recAt z),.string (B4.zeros 16)] W (Rb (.agg #[.string (w1 q z).1,.string (w1 q z).2]) W)):=fun q z W h=>by
  have hw:(Lit.int .i64 (L1.recAt z)).wf=true:=recAt_wf z;have:=TK.l06Set q.1 q.2 (L1.recAt z) (B4.zeros 16) W (by have:=h.1;omega) (by have:=h.2;omega) (by rw[TT4.zeros16];omega) hw (by rw[TP.stored_size];have:=h.1;omega);unfold TK.setM TK.setD at this;rw[TT4.zeros16] at this;exact this
 have HZ:Hid (∀ W,Calls prog 47 #[Iv 16] W (Rb (.string (B4.zeros 16)) W)):=fun W=>(B4.spec_Zeros 16 W).mono fun e w' ⟨he,hw⟩=>⟨he,hw ▸ Below.refl _ _⟩
 obtain ⟨A,hA⟩:∃ A:Addr,(if c=p+1 then some (⟨b,off,none⟩:Addr) else some ⟨b,off+(p+1)*8,none⟩)=some A:=by
  by_cases h:c=p+1
  ·exact ⟨_,if_pos h⟩
  ·exact ⟨_,if_neg h⟩
 have HRow:Hid (∀ {m bb:ByteArray} W,Bk w k (some ⟨b,off,none⟩) c k.ds.length (dat k.ds p) (ss p) m bb W->∃ a1 c1 w1 a2 c2 w2,(Builtin.append_ #[29,29] 29 #[Sv W.heap.size 0 0,.slice (some ⟨b,off,none⟩) p c]).run prog (W.alloc (.cells #[] 46))=.ok (.slice a1 p c1) w1/\(Builtin.append_ #[29,29] 29 #[.slice a1 p c1,.slice (some A) (k.ds.length-(p+1)) (c-(p+1))]).run prog w1=.ok (.slice a2 (k.ds.length-1) c2) w2/\Bk w k (some ⟨b,off,none⟩) c k.ds.length (dat k.ds p) (ss p) m bb (W.alloc (.cells #[] 46))/\Bk w k (some ⟨b,off,none⟩) c k.ds.length (dat k.ds p) (ss p) m bb w1/\Bk w k (some ⟨b,off,none⟩) c k.ds.length (dat k.ds p) (ss p) m bb w2/\(k.ds.length-1<=c2/\c2<=maxLen)/\w2.ownsRow W.heap.size 46 8 (.slice a2 (k.ds.length-1) c2) (k.ds.length-1) ((flat k.ds ss).take (p*8)++(flat k.ds ss).drop ((p+1)*8))/\(∀ g o,a2=some ⟨g,o,none⟩->w.heap.size<=g)):=fun W h=>rows hp hn hA hc hR h hbl
 have HLn:Hid (∀ W base a2 c2,Bq w W->W.ownsRow base 46 8 (.slice a2 (k.ds.length-1) c2) (k.ds.length-1) ((flat k.ds ss).take (p*8)++(flat k.ds ss).drop ((p+1)*8))->Lns W a2 (k.ds.eraseIdx p) (fun j=>if j<p then ss j else ss (j+1))):=fun W base a2 c2 h1 h2=>rows_lns hp hR h1 h2
 have HLe:Hid ((k.ds.eraseIdx p).length=k.ds.length-1):=hlen;have HBk:Hid (back k p=⟨(backed k (dat k.ds p) (mayI k (dat k.ds p))).1,(backed k (dat k.ds p) (mayI k (dat k.ds p))).2,k.ds.eraseIdx p,k.ck⟩):=rfl
 have HCo:Hid (code k p=if mayI k (dat k.ds p)=true then 0 else 5):=rfl
 have HOd:Hid (Ok (k.mem,k.dur)):=hok;obtain ⟨y0,y1,y2,y3,y4,y5,y6,y7⟩:=hcells p hp;obtain ⟨d,hd⟩:∃ d,dat k.ds p=d:=⟨_,rfl⟩;obtain ⟨s,hs⟩:∃ s,ss p=s:=⟨_,rfl⟩;rw[hd] at HT HG HC HO hkl HU HSyn HRow HBk HCo hgl hcl y0 y1 y2 y3 y4 y5 y6 y7 hf2;rw[hs] at HT HG HC HO HU HSyn HRow y4 y6 y7;have bk0:=bk_new w k (some ⟨b,off,none⟩) c d s;have hl0:=bk0.bel;have l1:Bq w ((w.alloc (kob k (some ⟨b,off,none⟩) c)).alloc zk):=((Below.refl _ _).alloc (Nat.le_refl _) _).alloc (by simp) _;have kk2:((w.alloc (kob k (some ⟨b,off,none⟩) c)).alloc zk).cell? ⟨w.heap.size,2,none⟩=some (.slice (some ⟨b,off,none⟩) k.ds.length c):=((K0.blk_new (kvals k (some ⟨b,off,none⟩) c) w 31).alloc zk).c2
 have YB:∀ (o:Nat) v,Ce w b o v->((w.alloc (kob k (some ⟨b,off,none⟩) c)).alloc zk).cell? ⟨b,o,none⟩=some v:=fun o v h=>(l1.cell (p:=⟨b,o,none⟩) hbl).trans h
 have u0:=YB _ _ y0;have u1:=YB _ _ y1;have u2:=YB _ _ y2;have u3:=YB _ _ y3;have u4:=YB _ _ y4;have u5:=YB _ _ y5;have u6:=YB _ _ y6;have u7:=YB _ _ y7
 have x1:(0:Int)<=(p:Int):=by omega
 have x2:(p:Int)<(k.ds.length:Int):=by omega
 have x3:(p:Int)<=(c:Int):=by omega
 have x4:(0:Int)<=(p:Int)+1:=by omega
 have x5:(p:Int)+1<=(k.ds.length:Int):=by omega
 have x6:c<=9223372036854775807:=by unfold maxLen at hcm;omega
 have x7:IntKind.i64.wrap ((p:Int)+1)=(p:Int)+1:=by rw[IntKind.wrap_i64];omega
 generalize back k p=R at HBk ⊢
 generalize code k p=cd at HCo ⊢
 clear y0 y1 y2 y3 y4 y5 y6 y7 YB l1 hcells hR hF hFd hlo hsz htr hlen hd hs hmay HL hok hcm;obtain ⟨W2,hW2⟩:∃ W2,(w.alloc (kob k (some ⟨b,off,none⟩) c)).alloc zk=W2:=⟨_,rfl⟩;rw[hW2] at bk0 hl0 kk2 u0 u1 u2 u3 u4 u5 u6 u7
 have hW2s:W2.heap.size=w.heap.size+1+1:=by rw[<- hW2];simp
 have bc0:=bk0.kb.c0;have bc1:=bk0.kb.c1;have bc2:=bk0.kb.c2;have bc3:=bk0.kb.c3;have y0:=bk0.lb.c0;have y1:=bk0.lb.c1;have y2:=bk0.lb.c2;have y3:=bk0.lb.c3;have y4:=bk0.lb.c4;have y5:=bk0.lb.c5;have y6:=bk0.lb.c6;have y7:=bk0.lb.c7
 cases hmy:mayI k d with
 | false=>
  rw[hmy] at HT HBk HCo;rw[if_neg (by decide)] at HCo;have HB2:Hid (R=⟨undo k.mem d,layN (undo k.mem d) k.dur (rl d) (rl d).length,k.ds.eraseIdx p,k.ck⟩):=HBk.out
  have HSy:Hid (∀ W,Bq w W->Calls prog 48 #[.agg #[.string (undo k.mem d),.string k.dur],N1.val d s] W (Rb (.agg #[.string (undo k.mem d),.string (layN (undo k.mem d) k.dur (rl d) (rl d).length)]) W)):=fun W hb=>HSyn.out _ _ W ⟨TP.undo_ok HOd.out.1 d,HOd.out.2⟩ hb
  rw[HCo.out]
  generalize layN (undo k.mem d) k.dur (rl d) (rl d).length=xx at HSy HB2
  generalize undo k.mem d=mm at HU HSy HB2
  clear hmy HBk HCo HG HC HO HSyn HSet HZ HOd;go_enter func18,ntmps18
  go_wp2_with (first
   | (go_at_call 40;refine (HT.out _ hl0).mono ?_;rintro e w3 ⟨rfl,b3⟩;have bk3:=bk0.below b3;have nb4:=K0.below_new w3 (.cells #[] 3);have bk4:=bk3.below nb4;clear bc0 bc1 bc2 bc3 y0 y1 y2 y3 y4 y5 y6 y7;have kc0:=bk4.kb.c0;have y0:=bk4.lb.c0;have y1:=bk4.lb.c1;have y2:=bk4.lb.c2;have y3:=bk4.lb.c3;have y4:=bk4.lb.c4;have y5:=bk4.lb.c5;have y6:=bk4.lb.c6;have y7:=bk4.lb.c7)
   | (go_at_call 44;refine (HU.out _ bk4.bel).mono ?_;rintro e w5 ⟨rfl,b5⟩;have bk5:=bk4.below b5;have kd0:=bk5.kb.c0;have ke0:=bk5.kb.f0))
  have bk6:=bk_mem bk5 mm;obtain ⟨W6,hW6⟩:∃ W6,w5.setCell ⟨w.heap.size,0,none⟩ (.string mm)=W6:=⟨_,rfl⟩;rw[hW6] at bk6 ⊢;clear hW6 kd0 ke0 kc0 y0 y1 y2 y3 y4 y5 y6 y7 bk0 bk3 bk4 bk5 u0 u1 u2 u3 u4 u5 u6 u7 kk2 hl0 HT HU
  go_loopw [9] (fun i w'=>i=Iv 0/\w'=W6) (fun _ _=>0)
  case atStart=>exact ⟨rfl,rfl⟩
  case round=>
   obtain ⟨rfl,hwr⟩:=hrel
   have bk7:Bk w k (some ⟨b,off,none⟩) c k.ds.length d s mm k.dur wr:=by rw[hwr];exact bk6
   clear hwr bk6;have kc0:=bk7.kb.c0;have kc1:=bk7.kb.c1;have y0:=bk7.lb.c0;have y1:=bk7.lb.c1;have y2:=bk7.lb.c2;have y3:=bk7.lb.c3;have y4:=bk7.lb.c4;have y5:=bk7.lb.c5;have y6:=bk7.lb.c6;have y7:=bk7.lb.c7;have hsy:=HSy.out _ bk7.bel
   go_wp2_with (go_at_call 48;refine hsy.mono ?_;rintro e v1 ⟨rfl,g1⟩;have c1':=bk7.below g1;have kd0:=c1'.kb.c0;have kd1:=c1'.kb.c1;have ke0:=c1'.kb.f0;have ke1:=c1'.kb.f1)
   have c2':=bk_set c1' mm xx;obtain ⟨W0,hW0⟩:∃ W0,(v1.setCell ⟨w.heap.size,0,none⟩ (.string mm)).setCell ⟨w.heap.size,1,none⟩ (.string xx)=W0:=⟨_,rfl⟩;rw[hW0] at c2' ⊢;clear hW0 kc0 kc1 y0 y1 y2 y3 y4 y5 y6 y7 kd0 kd1 ke0 ke1 hsy c1' g1;have c3':=c2'.below ((Below.refl _ _).drew);have s0:W0.drew.cell? ⟨w.heap.size,2,none⟩=some (.slice (some ⟨b,off,none⟩) k.ds.length c):=c3'.kb.c2;have hK3:=c3'.lb.b.lt;obtain ⟨a1,c1,w1,a2,c2,w2,hrun1,hrun2,c4',c5',c6',hl2,hrow,hfre⟩:=HRow.out W0.drew c3'
   rw[show W0.drew.heap.size=W0.heap.size from rfl] at hrun1
   have s1:(W0.drew.alloc (.cells #[] 46)).cell? ⟨w.heap.size,2,none⟩=some (.slice (some ⟨b,off,none⟩) k.ds.length c):=c4'.kb.c2;have s2:Ce w1 w.heap.size 2 (.slice (some ⟨b,off,none⟩) k.ds.length c):=c5'.kb.c2;have s3:Ce w2 w.heap.size 2 (.slice (some ⟨b,off,none⟩) k.ds.length c):=c6'.kb.c2;have t2:=c6'.kb.f2;refine AT.region (n:=13) (S:=fun W=>Ce W w.heap.size 2 (.slice (some ⟨b,off,none⟩) k.ds.length c)) (by kernel_rfl) ?_;refine BU.r 1 (Pv w.heap.size 2) s0 ?_;refine AT.take (i:=2) (v:=.slice (some ⟨b,off,none⟩) k.ds.length c) rfl (by decide) (by kernel_rfl) (by kernel_rfl) (by kernel_rfl) (by kernel_rfl) (fun _ _ _ h=>h) (Or.inl ⟨by rfl,fun w' hS'=>?_⟩) s0 ?_
   ·have hq:=hS'
    go_simp
   simp only[BZ.z,Act.put,Nat.reduceAdd];refine BU.r 3 (Iv p) s0 ?_;refine AT.take (i:=4) (v:=.slice (some ⟨b,off,none⟩) p c) rfl (by decide) (by kernel_rfl) (by kernel_rfl) (by kernel_rfl) (by kernel_rfl) (fun _ _ _ h=>h) (Or.inl ⟨by rfl,fun w' hS'=>?_⟩) s0 ?_
   ·have hq:=hS'
    go_simp
   simp only[BZ.z,Act.put,Nat.reduceAdd];refine BU.r 6 (Pv w.heap.size 2) s0 ?_;refine AT.take (i:=7) (v:=.slice (some ⟨b,off,none⟩) k.ds.length c) rfl (by decide) (by kernel_rfl) (by kernel_rfl) (by kernel_rfl) (by kernel_rfl) (fun _ _ _ h=>h) (Or.inl ⟨by rfl,fun w' hS'=>?_⟩) s0 ?_
   ·have hq:=hS'
    go_simp
   simp only[BZ.z,Act.put,Nat.reduceAdd];refine BU.r 8 (Iv p) s0 ?_;refine AT.take (i:=9) (v:=Iv ((p:Int)+1)) rfl (by decide) (by kernel_rfl) (by kernel_rfl) (by kernel_rfl) (by kernel_rfl) (fun _ _ _ h=>h) (Or.inl ⟨by rfl,fun w' hS'=>?_⟩) s0 ?_
   ·have hq:=hS'
    go_simp
   simp only[BZ.z,Act.put,Nat.reduceAdd];refine AT.take (i:=10) (v:=.slice (some A) (k.ds.length-(p+1)) (c-(p+1))) rfl (by decide) (by kernel_rfl) (by kernel_rfl) (by kernel_rfl) (by kernel_rfl) (fun _ _ _ h=>h) (Or.inl ⟨by rfl,fun w' hS'=>?_⟩) s0 ?_
   ·have hq:=hS'
    go_simp
   simp only[BZ.z,Act.put,Nat.reduceAdd];refine PG.mem1 (i:=0) (w':=W0.drew.alloc (.cells #[] 46)) (u:=Sv W0.heap.size 0 0) (by kernel_rfl) rfl (by rfl) ?_ s1 ?_
   ·go_simp
   simp only[BZ.z,Act.put,Nat.reduceAdd];refine TK.plainT (i:=5) (u:=.slice a1 p c1) (w':=w1) (by kernel_rfl) rfl (by rfl) ?_ s2 ?_
   ·simp[execOp,resolve,invoke,builtin,Act.eval,hrun1,Result.andThen]
   simp only[BZ.z,Act.put,Nat.reduceAdd];refine TK.plainT (i:=11) (u:=.slice a2 (k.ds.length-1) c2) (w':=w2) (by kernel_rfl) rfl (by rfl) ?_ s3 ?_
   ·simp[execOp,resolve,invoke,builtin,Act.eval,hrun2,Result.andThen]
   simp only[BZ.z,Act.put,Nat.reduceAdd];refine TK.plainT (i:=12) (u:=Pv w.heap.size 2) (w':=w2) (by kernel_rfl) rfl (by rfl) ?_ s3 ?_
   ·go_simp
   simp only[BZ.z,Act.put,Nat.reduceAdd];refine AT.store (i:=13) (w':=w2.setCell ⟨w.heap.size,2,none⟩ (.slice a2 (k.ds.length-1) c2)) (by kernel_rfl) rfl (by decide) (by rfl) ?_ ?_
   ·go_simp
   simp only[BZ.z,Act.put,Nat.reduceAdd];refine AT.done (by kernel_rfl) ?_ _;have c7':=bk_row c6' a2 c2 (n':=k.ds.length-1);have hrow2:=owns_set (B:=w.heap.size) (j:=2) (x:=.slice a2 (k.ds.length-1) c2) hrow (by omega);obtain ⟨W9,hW9⟩:∃ W9,w2.setCell ⟨w.heap.size,2,none⟩ (.slice a2 (k.ds.length-1) c2)=W9:=⟨_,rfl⟩;rw[hW9] at c7' hrow2 ⊢;clear hW9 s1 s2 s3 t2 hrun1 hrun2 c4' c5' c6' s0 c3' c2' hrow;have k0:=c7'.kb.c0;have k1:=c7'.kb.c1;have k2:=c7'.kb.c2;have k3:=c7'.kb.c3;have z0:=c7'.ab.c0;have z1:=c7'.ab.c1;have z2:=c7'.ab.c2;have z3:=c7'.ab.c3;have zf0:=c7'.ab.f0;have zf1:=c7'.ab.f1;have zf2:=c7'.ab.f2;have zf3:=c7'.ab.f3;have an:=c7'.ab.put4 (.string mm) (.string xx) (.slice a2 (k.ds.length-1) c2) (Iv k.ck);have hrow3:=owns_set (owns_set (owns_set (owns_set hrow2 (B:=w.heap.size+1) (j:=0) (x:=.string mm) (by omega)) (B:=w.heap.size+1) (j:=1) (x:=.string xx) (by omega)) (B:=w.heap.size+1) (j:=2) (x:=.slice a2 (k.ds.length-1) c2) (by omega)) (B:=w.heap.size+1) (j:=3) (x:=Iv k.ck) (by omega);have be:=(((c7'.bel.setCell (p:=⟨w.heap.size+1,0,none⟩) (Nat.le_succ _) (.string mm)).setCell (p:=⟨w.heap.size+1,1,none⟩) (Nat.le_succ _) (.string xx)).setCell (p:=⟨w.heap.size+1,2,none⟩) (Nat.le_succ _) (.slice a2 (k.ds.length-1) c2)).setCell (p:=⟨w.heap.size+1,3,none⟩) (Nat.le_succ _) (Iv k.ck)
   have HLs:Hid (Lns ((((W9.setCell ⟨w.heap.size+1,0,none⟩ (.string mm)).setCell ⟨w.heap.size+1,1,none⟩ (.string xx)).setCell ⟨w.heap.size+1,2,none⟩ (.slice a2 (k.ds.length-1) c2)).setCell ⟨w.heap.size+1,3,none⟩ (Iv k.ck)) a2 (k.ds.eraseIdx p) (fun j=>if j<p then ss j else ss (j+1))):=HLn.out _ _ _ _ be hrow3
   clear hrow2 hrow3;go_wp2;have v0:=an.c0;have v1':=an.c1;have v2:=an.c2;have v3:=an.c3;refine bodyPost_ret (v:=.tuple #[.agg #[.string mm,.string xx,.slice a2 (k.ds.length-1) c2,Iv k.ck],Iv 5]) (by simp[results,results18,go_sem,v0,v1',v2,v3]) rfl ?_;refine ⟨a2,c2,?_,by rw[HB2.out];exact HLs.out,hfre,by rw[HB2.out];exact HLe.out ▸ hl2.1,hl2.2,be⟩;rw[HB2.out]
   show _=Ending.returned (.tuple #[.agg #[_,_,.slice _ (k.ds.eraseIdx p).length _,_],_])
   rw[HLe.out]
 | true=>
  rw[hmy] at HT HBk HCo;rw[if_pos rfl] at HCo
  have HB3:Hid (R=⟨(wN (gone k.mem d++kept false d.fr (come k.mem d)) (k.mem,k.dur) (gone k.mem d++kept false d.fr (come k.mem d)).length).1,layN (wN (gone k.mem d++kept false d.fr (come k.mem d)) (k.mem,k.dur) (gone k.mem d++kept false d.fr (come k.mem d)).length).1 (wN (gone k.mem d++kept false d.fr (come k.mem d)) (k.mem,k.dur) (gone k.mem d++kept false d.fr (come k.mem d)).length).2 (rl d) (rl d).length,k.ds.eraseIdx p,k.ck⟩):=by
   have h:=HBk.out;unfold backed at h;rw[if_pos rfl] at h;exact h
  rw[HCo.out];clear hmy HBk HCo HU
  generalize gone k.mem d=Z at HG HB3 hgl
  generalize come k.mem d=Y at HC HO HB3 hcl hkl
  generalize kept false d.fr Y=F at HO HB3 hkl
  generalize B4.zeros 16=z16 at HZ HSet
  go_enter func18,ntmps18
  go_wp2_with (go_at_call 40;refine (HT.out _ hl0).mono ?_;rintro e w3 ⟨rfl,b3⟩;have bk3:=bk0.below b3;have nb4:=K0.below_new w3 (.cells #[] 3);have bk4:=bk3.below nb4;clear bc0 bc1 bc2 bc3 y0 y1 y2 y3 y4 y5 y6 y7;have kc0:=bk4.kb.c0;have y0:=bk4.lb.c0;have y1:=bk4.lb.c1;have y2:=bk4.lb.c2;have y3:=bk4.lb.c3;have y4:=bk4.lb.c4;have y5:=bk4.lb.c5;have y6:=bk4.lb.c6;have y7:=bk4.lb.c7)
  have b5:=bk4.below ((Below.refl _ _).drew);have s5:=cells9 b5;clear kc0 y0 y1 y2 y3 y4 y5 y6 y7 bk0 bk3 bk4 u0 u1 u2 u3 u4 u5 u6 u7 kk2 hl0 HT nb4 b3;refine wp_region_held (S:=fun W=>Ce W w.heap.size 0 (.string k.mem)/\Ce W (w.heap.size+1+1) 0 (Iv d.ino)/\Ce W (w.heap.size+1+1) 1 (Iv d.cl)/\Ce W (w.heap.size+1+1) 2 (Iv d.un)/\Ce W (w.heap.size+1+1) 3 (.string d.rc)/\Ce W (w.heap.size+1+1) 4 (.slice s.a1 d.pg.length s.c1)/\Ce W (w.heap.size+1+1) 5 (.string d.sav)/\Ce W (w.heap.size+1+1) 6 (.slice s.a2 d.po.length s.c2)/\Ce W (w.heap.size+1+1) 7 (.slice s.a3 d.fr.length s.c3)) (by kernel_rfl) ?_;refine BT.r 0 (Pv w.heap.size 0) s5 ?_;refine BT.s 1 (Pv w.heap.size 0) s5 ?_;refine BT.s 2 (.string k.mem) s5 ?_;refine BT.s 3 (N1.val d s) s5 ?_;refine BT.s 5 (Pv (w.heap.size+1+1) 7) s5 ?_;refine BT.s 6 (.slice s.a3 d.fr.length s.c3) s5 ?_;refine BT.r 7 (Pv w.heap.size 0) s5 ?_;refine BT.s 8 (Pv w.heap.size 0) s5 ?_;refine BT.s 9 (.string k.mem) s5 ?_;refine BT.s 10 (N1.val d s) s5 ?_;refine Y0.one_call2w (i:=4) (by kernel_rfl) rfl (by rfl) (.tmp 22) (.tmp 23) _ rfl (.string k.mem) (N1.val d s) (by rfl) (by rfl) (enters_of func41 (by kernel_rfl) rfl) ((HG.out _ b5.bel).mono ?_);rintro e w6 ⟨a6,c6,rfl,f6,l6⟩;have b6:=b5.below l6;have s6:=cells9 b6;refine ⟨_,rfl,s6,?_⟩;simp only[BZ.z,Act.put,Nat.reduceAdd]
  refine Y0.one_call2w (i:=11) (by kernel_rfl) rfl (by rfl) (.tmp 29) (.tmp 30) _ rfl (.string k.mem) (N1.val d s) (by rfl) (by rfl) (enters_of func43 (by kernel_rfl) rfl) ((HC.out _ b6.bel).mono ?_);rintro e w7 ⟨a7,c7,rfl,hc7,o7,l7⟩;have b7:=b6.below l7;have f7:=f6.below l7;have s7:=cells9 b7;refine ⟨_,rfl,s7,?_⟩;simp only[BZ.z,Act.put,Nat.reduceAdd];refine Y0.one_call3w (i:=12) (by kernel_rfl) rfl (by rfl) _ _ _ _ rfl (.slice s.a3 d.fr.length s.c3) (.slice a7 Y.length c7) (.bool false) (by rfl) (by rfl) (by rfl) (enters_of func42 (by kernel_rfl) rfl) ((HO.out _ _ _ b7.bel o7.row).mono ?_);rintro e w8 ⟨a8,c8,rfl,hc8,o8,l8⟩;have b8:=b7.below l8;have f8:=f7.below l8;have s8:=cells9 b8;refine ⟨_,rfl,s8,?_⟩;simp only[BZ.z,Act.put,Nat.reduceAdd];refine D7.one_rows (i:=13) (by kernel_rfl) rfl (by rfl) (.tmp 24) (.tmp 32) rfl f8 a8 c8 F (by rfl) (by rfl) o8.row (by omega) (by have h1:=l6.size;have h2:=l7.size;have h3:=l8.size;omega) ?_;intro a9 c9 w9 f9 l9;have b9:=bk_keep b8 l9 (by have h1:=b5.lb.b.lt;omega);have s9:=cells9 b9;refine ⟨s9,?_⟩;simp only[BZ.z,Act.put,Nat.reduceAdd];refine BT.r 14 (.slice a9 (Z.length+F.length) c9) s9 ?_;refine wpAnyH_done (by kernel_rfl) ?_ _;have hb5:=b5.lb.b.lt;obtain ⟨C,hC⟩:∃ C,Z++F=C:=⟨_,rfl⟩
  have hCl:Z.length+F.length=C.length:=by rw[<- hC,List.length_append]
  rw[hC,hCl] at f9;rw[hC] at HB3;rw[hCl];have o9:J0.Own (w.heap.size+3) w9 a9 C:=f9.own.mono (by omega)
  have hC15:C.length<=15:=by omega
  clear hC hCl f9 f8 f7 f6 o8 o7 l6 l7 l8 l9 b6 b7 b8 s5 s6 s7 s8 s9 HG HC HO b5;go_wp2
  go_loopw [9] (fun i w'=>∃ j:Nat,j<=C.length/\i=Iv j/\Bk w k (some ⟨b,off,none⟩) c k.ds.length d s (wN C (k.mem,k.dur) j).1 (wN C (k.mem,k.dur) j).2 w'/\J0.Own (w.heap.size+3) w' a9 C) (fun i _=>C.length-(intOf i).toNat)
  case atStart=>exact ⟨0,Nat.zero_le _,rfl,b9,o9⟩
  case round=>
   obtain ⟨j,hj,rfl,bkr,ow⟩:=hrel;clear b9 o9
   by_cases hlt:j<C.length
   ·obtain ⟨gb,of2,hab,_,hcc⟩:=ow.row.get hlt
    have hw:wN C (k.mem,k.dur) (j+1)=w1 (wN C (k.mem,k.dur) j) (C.getD j 0):=rfl;have ho:=TP.wN_ok HOd.out C j;obtain ⟨⟨m,bb⟩,ep⟩:∃ q,wN C (k.mem,k.dur) j=q:=⟨_,rfl⟩;obtain ⟨z,ez⟩:∃ z,C.getD j 0=z:=⟨_,rfl⟩;rw[ep] at bkr hw ho;rw[ez] at hw
    have hset:=fun W=>HSet.out (m,bb) z W ho
    obtain ⟨⟨m2,b2⟩,ew⟩:∃ q,w1 (m,bb) z=q:=⟨_,rfl⟩;rw[ew] at hw hset;have HWE:Hid (wN C (k.mem,k.dur) (j+1)=(m2,b2)):=hw;have HAB:Hid (a9=some ⟨gb,of2,none⟩):=hab;have HEZ:Hid (C.getD j 0=z):=ez;have b5:=bkr.below ((Below.refl _ _).drew);have o5:=ow.below ((Below.refl _ _).drew);have s5:=cells3 b5 o5 hab hlt ez
    have e1:(0:Int)<=(j:Int):=by omega
    have e2':(j:Int)<(C.length:Int):=by omega
    rw[hab];clear hw ho ep ew hcc hab ez HRow HLn HB3 HSyn;go_wp2;refine AT.region (n:=10) (S:=fun W=>Ce W w.heap.size 0 (.string m)/\Ce W w.heap.size 1 (.string bb)/\Ce W gb (of2+j) (Iv z)) (by kernel_rfl) ?_;refine BU.r 0 (Pv w.heap.size 0) s5 ?_;refine BU.s 1 (.agg #[.string m,.string bb]) s5 ?_;refine BU.r 2 (.slice (some ⟨gb,of2,none⟩) C.length c9) s5 ?_;refine BU.r 3 (Iv j) s5 ?_;refine BU.s 4 (Pv gb (of2+j)) s5 ?_;refine BU.s 5 (Iv z) s5 ?_;refine AT.call1 (i:=6) (by kernel_rfl) rfl (by rfl) (.tmp 52) _ rfl (Iv z) (by rfl) (enters_of func46 (by kernel_rfl) rfl) ((L1.spec_RecAt z _).mono ?_);rintro e u6 ⟨rfl,hu6⟩;subst u6;refine ⟨_,rfl,s5,?_⟩;simp only[BZ.z,Act.put,Nat.reduceAdd];refine AT.call1 (i:=7) (by kernel_rfl) rfl (by rfl) _ _ rfl (Iv 16) (by rfl) (enters_of func47 (by kernel_rfl) rfl) ((HZ.out _).mono ?_);rintro e w6 ⟨rfl,l6⟩;have b6:=b5.below l6;have o6:=o5.below l6;have s6:=cells3 b6 o6 HAB.out hlt HEZ.out;refine ⟨_,rfl,s6,?_⟩;simp only[BZ.z,Act.put,Nat.reduceAdd];refine TK.callT3 (i:=8) (by kernel_rfl) rfl (by rfl) (.tmp 48) (.tmp 53) (.tmp 54) _ rfl (.agg #[.string m,.string bb]) (Iv (L1.recAt z)) (.string z16) (by rfl) (by rfl) (by rfl) (enters_of func45 (by kernel_rfl) rfl) ((hset _).mono ?_);rintro e w7 ⟨rfl,l7⟩;have b7:=b6.below l7;have o7:=o6.below l7;have s7:=cells3 b7 o7 HAB.out hlt HEZ.out;refine ⟨_,rfl,s7,?_⟩;simp only[BZ.z,Act.put,Nat.reduceAdd]
    refine TK.plainT (i:=9) (u:=Pv w.heap.size 0) (w':=w7) (by kernel_rfl) rfl (by rfl) ?_ s7 ?_
    ·go_simp
    simp only[BZ.z,Act.put,Nat.reduceAdd];have e2:=s7.1;have e3:=s7.2.1;have f2:=b7.kb.f0;have f3:=b7.kb.f1;refine AT.store (i:=10) (w':=(w7.setCell ⟨w.heap.size,0,none⟩ (.string m2)).setCell ⟨w.heap.size,1,none⟩ (.string b2)) (by kernel_rfl) rfl (by decide) (by rfl) ?_ ?_
    ·go_simp
    simp only[BZ.z,Act.put,Nat.reduceAdd];refine AT.done (by kernel_rfl) ?_ _;have b8:=bk_set b7 m2 b2;have o8:=(o7.set (B:=w.heap.size) (by omega) 0 (.string m2)).set (B:=w.heap.size) (by omega) 1 (.string b2);clear e2 e3 f2 f3 s5 s6 s7;go_wp2
    go_roundw
    case rel=>exact ⟨j+1,by omega,by go_num,by rw[HWE.out];exact b8,by rw[<- HAB.out];exact o8⟩
    case measure=>simp[intOf];omega
   ·obtain rfl:j=C.length:=by omega
    have ho:=TP.wN_ok HOd.out C C.length;obtain ⟨⟨mm,bb⟩,ep⟩:∃ q,wN C (k.mem,k.dur) C.length=q:=⟨_,rfl⟩;rw[ep] at bkr ho HB3
    have HSy:Hid (∀ W,Bq w W->Calls prog 48 #[.agg #[.string mm,.string bb],N1.val d s] W (Rb (.agg #[.string mm,.string (layN mm bb (rl d) (rl d).length)]) W)):=fun W hb=>HSyn.out _ _ W ho hb
    have HB4:Hid (R=⟨mm,layN mm bb (rl d) (rl d).length,k.ds.eraseIdx p,k.ck⟩):=HB3.out
    generalize layN mm bb (rl d) (rl d).length=xx at HSy HB4
    clear ep ho HB3 HSyn ow HSet HZ;have kc0:=bkr.kb.c0;have kc1:=bkr.kb.c1;have y0:=bkr.lb.c0;have y1:=bkr.lb.c1;have y2:=bkr.lb.c2;have y3:=bkr.lb.c3;have y4:=bkr.lb.c4;have y5:=bkr.lb.c5;have y6:=bkr.lb.c6;have y7:=bkr.lb.c7;have hsy:=HSy.out _ bkr.bel
    go_wp2_with (go_at_call 48;refine hsy.mono ?_;rintro e v1 ⟨rfl,g1⟩;have c1':=bkr.below g1;have kd0:=c1'.kb.c0;have kd1:=c1'.kb.c1;have ke0:=c1'.kb.f0;have ke1:=c1'.kb.f1)
    have c2':=bk_set c1' mm xx;obtain ⟨W0,hW0⟩:∃ W0,(v1.setCell ⟨w.heap.size,0,none⟩ (.string mm)).setCell ⟨w.heap.size,1,none⟩ (.string xx)=W0:=⟨_,rfl⟩;rw[hW0] at c2' ⊢;clear hW0 kc0 kc1 y0 y1 y2 y3 y4 y5 y6 y7 kd0 kd1 ke0 ke1 hsy c1' g1;have c3':=c2'.below ((Below.refl _ _).drew);have s0:W0.drew.cell? ⟨w.heap.size,2,none⟩=some (.slice (some ⟨b,off,none⟩) k.ds.length c):=c3'.kb.c2;have hK3:=c3'.lb.b.lt;obtain ⟨a1,c1,w1,a2,c2,w2,hrun1,hrun2,c4',c5',c6',hl2,hrow,hfre⟩:=HRow.out W0.drew c3'
    rw[show W0.drew.heap.size=W0.heap.size from rfl] at hrun1
    have s1:(W0.drew.alloc (.cells #[] 46)).cell? ⟨w.heap.size,2,none⟩=some (.slice (some ⟨b,off,none⟩) k.ds.length c):=c4'.kb.c2;have s2:Ce w1 w.heap.size 2 (.slice (some ⟨b,off,none⟩) k.ds.length c):=c5'.kb.c2;have s3:Ce w2 w.heap.size 2 (.slice (some ⟨b,off,none⟩) k.ds.length c):=c6'.kb.c2;have t2:=c6'.kb.f2;refine AT.region (n:=13) (S:=fun W=>Ce W w.heap.size 2 (.slice (some ⟨b,off,none⟩) k.ds.length c)) (by kernel_rfl) ?_;refine BU.r 1 (Pv w.heap.size 2) s0 ?_;refine AT.take (i:=2) (v:=.slice (some ⟨b,off,none⟩) k.ds.length c) rfl (by decide) (by kernel_rfl) (by kernel_rfl) (by kernel_rfl) (by kernel_rfl) (fun _ _ _ h=>h) (Or.inl ⟨by rfl,fun w' hS'=>?_⟩) s0 ?_
    ·have hq:=hS'
     go_simp
    simp only[BZ.z,Act.put,Nat.reduceAdd];refine BU.r 3 (Iv p) s0 ?_;refine AT.take (i:=4) (v:=.slice (some ⟨b,off,none⟩) p c) rfl (by decide) (by kernel_rfl) (by kernel_rfl) (by kernel_rfl) (by kernel_rfl) (fun _ _ _ h=>h) (Or.inl ⟨by rfl,fun w' hS'=>?_⟩) s0 ?_
    ·have hq:=hS'
     go_simp
    simp only[BZ.z,Act.put,Nat.reduceAdd];refine BU.r 6 (Pv w.heap.size 2) s0 ?_;refine AT.take (i:=7) (v:=.slice (some ⟨b,off,none⟩) k.ds.length c) rfl (by decide) (by kernel_rfl) (by kernel_rfl) (by kernel_rfl) (by kernel_rfl) (fun _ _ _ h=>h) (Or.inl ⟨by rfl,fun w' hS'=>?_⟩) s0 ?_
    ·have hq:=hS'
     go_simp
    simp only[BZ.z,Act.put,Nat.reduceAdd];refine BU.r 8 (Iv p) s0 ?_;refine AT.take (i:=9) (v:=Iv ((p:Int)+1)) rfl (by decide) (by kernel_rfl) (by kernel_rfl) (by kernel_rfl) (by kernel_rfl) (fun _ _ _ h=>h) (Or.inl ⟨by rfl,fun w' hS'=>?_⟩) s0 ?_
    ·have hq:=hS'
     go_simp
    simp only[BZ.z,Act.put,Nat.reduceAdd];refine AT.take (i:=10) (v:=.slice (some A) (k.ds.length-(p+1)) (c-(p+1))) rfl (by decide) (by kernel_rfl) (by kernel_rfl) (by kernel_rfl) (by kernel_rfl) (fun _ _ _ h=>h) (Or.inl ⟨by rfl,fun w' hS'=>?_⟩) s0 ?_
    ·have hq:=hS'
     go_simp
    simp only[BZ.z,Act.put,Nat.reduceAdd];refine PG.mem1 (i:=0) (w':=W0.drew.alloc (.cells #[] 46)) (u:=Sv W0.heap.size 0 0) (by kernel_rfl) rfl (by rfl) ?_ s1 ?_
    ·go_simp
    simp only[BZ.z,Act.put,Nat.reduceAdd];refine TK.plainT (i:=5) (u:=.slice a1 p c1) (w':=w1) (by kernel_rfl) rfl (by rfl) ?_ s2 ?_
    ·simp[execOp,resolve,invoke,builtin,Act.eval,hrun1,Result.andThen]
    simp only[BZ.z,Act.put,Nat.reduceAdd];refine TK.plainT (i:=11) (u:=.slice a2 (k.ds.length-1) c2) (w':=w2) (by kernel_rfl) rfl (by rfl) ?_ s3 ?_
    ·simp[execOp,resolve,invoke,builtin,Act.eval,hrun2,Result.andThen]
    simp only[BZ.z,Act.put,Nat.reduceAdd];refine TK.plainT (i:=12) (u:=Pv w.heap.size 2) (w':=w2) (by kernel_rfl) rfl (by rfl) ?_ s3 ?_
    ·go_simp
    simp only[BZ.z,Act.put,Nat.reduceAdd];refine AT.store (i:=13) (w':=w2.setCell ⟨w.heap.size,2,none⟩ (.slice a2 (k.ds.length-1) c2)) (by kernel_rfl) rfl (by decide) (by rfl) ?_ ?_
    ·go_simp
    simp only[BZ.z,Act.put,Nat.reduceAdd];refine AT.done (by kernel_rfl) ?_ _;have c7':=bk_row c6' a2 c2 (n':=k.ds.length-1);have hrow2:=owns_set (B:=w.heap.size) (j:=2) (x:=.slice a2 (k.ds.length-1) c2) hrow (by omega);obtain ⟨W9,hW9⟩:∃ W9,w2.setCell ⟨w.heap.size,2,none⟩ (.slice a2 (k.ds.length-1) c2)=W9:=⟨_,rfl⟩;rw[hW9] at c7' hrow2 ⊢;clear hW9 s1 s2 s3 t2 hrun1 hrun2 c4' c5' c6' s0 c3' c2' hrow;have k0:=c7'.kb.c0;have k1:=c7'.kb.c1;have k2:=c7'.kb.c2;have k3:=c7'.kb.c3;have z0:=c7'.ab.c0;have z1:=c7'.ab.c1;have z2:=c7'.ab.c2;have z3:=c7'.ab.c3;have zf0:=c7'.ab.f0;have zf1:=c7'.ab.f1;have zf2:=c7'.ab.f2;have zf3:=c7'.ab.f3;have an:=c7'.ab.put4 (.string mm) (.string xx) (.slice a2 (k.ds.length-1) c2) (Iv k.ck);have hrow3:=owns_set (owns_set (owns_set (owns_set hrow2 (B:=w.heap.size+1) (j:=0) (x:=.string mm) (by omega)) (B:=w.heap.size+1) (j:=1) (x:=.string xx) (by omega)) (B:=w.heap.size+1) (j:=2) (x:=.slice a2 (k.ds.length-1) c2) (by omega)) (B:=w.heap.size+1) (j:=3) (x:=Iv k.ck) (by omega);have be:=(((c7'.bel.setCell (p:=⟨w.heap.size+1,0,none⟩) (Nat.le_succ _) (.string mm)).setCell (p:=⟨w.heap.size+1,1,none⟩) (Nat.le_succ _) (.string xx)).setCell (p:=⟨w.heap.size+1,2,none⟩) (Nat.le_succ _) (.slice a2 (k.ds.length-1) c2)).setCell (p:=⟨w.heap.size+1,3,none⟩) (Nat.le_succ _) (Iv k.ck)
    have HLs:Hid (Lns ((((W9.setCell ⟨w.heap.size+1,0,none⟩ (.string mm)).setCell ⟨w.heap.size+1,1,none⟩ (.string xx)).setCell ⟨w.heap.size+1,2,none⟩ (.slice a2 (k.ds.length-1) c2)).setCell ⟨w.heap.size+1,3,none⟩ (Iv k.ck)) a2 (k.ds.eraseIdx p) (fun j=>if j<p then ss j else ss (j+1))):=HLn.out _ _ _ _ be hrow3
    clear hrow2 hrow3;go_wp2;have v0:=an.c0;have v1':=an.c1;have v2:=an.c2;have v3:=an.c3;refine bodyPost_ret (v:=.tuple #[.agg #[.string mm,.string xx,.slice a2 (k.ds.length-1) c2,Iv k.ck],Iv 0]) (by simp[results,results18,go_sem,v0,v1',v2,v3]) rfl ?_;refine ⟨a2,c2,?_,by rw[HB4.out];exact HLs.out,hfre,by rw[HB4.out];exact HLe.out ▸ hl2.1,hl2.2,be⟩;rw[HB4.out]
    show _=Ending.returned (.tuple #[.agg #[_,_,.slice _ (k.ds.eraseIdx p).length _,_],_])
    rw[HLe.out]
end TTB
namespace TT7
open N0 (Ln)
open N1 (Sl)
open Z0 (dat Row Lns Kp kval kvals)
open KD (KA KA2 Small kob zk)
open AQ (Bx bx_new co Sz wo wo1)
open LF (Btw OwnIn)
open MU (Oh)
open TP (Rt run on tick)
open TQ (wk)
open TE (er Errs)
structure Cx (lo B:Nat) (w w':World):Prop where
 os:w'.os=w.os
 tape:w'.tape=w.tape
 output:w'.output=w.output
 size:w.heap.size<=w'.heap.size
 block:∀ k,k<lo->k≠B->w'.heap[k]? = w.heap[k]?
section
variable {lo lo' B : Nat} {w W W' : World}
theorem Cx.ofBelow (h:Below lo w W):Cx lo B w W:=⟨h.os,h.tape,h.output,h.size,fun k hk _=>h.block k hk⟩
theorem Cx.trans (h:Cx lo B w W) (k:Cx lo B W W'):Cx lo B w W':=⟨k.os.trans h.os,k.tape.trans h.tape,k.output.trans h.output,Nat.le_trans h.size k.size,fun i hi hn=>(k.block i hi hn).trans (h.block i hi hn)⟩
theorem Cx.mono (h:Cx lo B w W) (hl:lo'<=lo):Cx lo' B w W:=⟨h.os,h.tape,h.output,h.size,fun k hk hn=>h.block k (by omega) hn⟩
theorem Cx.set (h:Cx lo B w W) {p:Addr} (hp:p.block=B\/lo<=p.block) (v:Value):Cx lo B w (W.setCell p v):=⟨h.os,h.tape,h.output,by simpa [World.setCell] using h.size,fun k hk hn=>by
 have:(W.setCell p v).heap[k]? = W.heap[k]?:=by
  unfold World.setCell;simp[Array.getElem?_modify];omega
 rw[this];exact h.block k hk hn⟩
theorem Cx.below {n:Nat} (h:Cx lo B w W) (hn:n<=B) (hl:n<=lo):Below n w W:=⟨h.os,h.tape,h.output,h.size,fun k hk=>h.block k (by omega) (by omega)⟩
theorem blk_cx {G:Nat} {vs:List Value} (h:K0.Blk G vs w) (hb:Cx lo B w W) (hG:G<lo) (hx:G≠B):K0.Blk G vs W:=by
 have e:=hb.block G hG hx;refine ⟨fun j hj=>?_,fun j hj=>?_,Nat.lt_of_lt_of_le h.lt hb.size⟩
 ·rw[World.cell?_of_block (a:=⟨G,j,none⟩) e]
  exact h.cell j hj
 ·rw[World.frozen?_of_block (a:=⟨G,j,none⟩) e]
  exact h.free j hj
end
theorem errs_mono {pN pD pB pF pR:Addr} {lo lo':Nat} {w:World} (h:Errs pN pD pB pF pR lo w) (hl:lo<=lo'):Errs pN pD pB pF pR lo' w:=
 ⟨h.gN,h.gD,h.gB,h.gF,h.gR,h.lN,h.lD,h.lB,h.lF,h.lR,by have:=h.sN;omega,by have:=h.sD;omega,by have:=h.sB;omega,by have:=h.sF;omega,by have:=h.sR;omega,by have:=h.s0;omega,h.nN,h.nD,h.nB,h.nF⟩
theorem oh_set {lo hi G:Nat} {a:Option Addr} {ds:List Ln} {W:World} (h:Oh lo hi a ds W) (hx:G<lo\/hi<=G) (j:Nat) (v:Value):Oh lo hi a ds (W.setCell ⟨G,j,none⟩ v):=by
 have ht:Btw G (G+1) W (W.setCell ⟨G,j,none⟩ v):=(Btw.refl _ _ W).set (p:=⟨G,j,none⟩) (Nat.le_refl _) (Nat.lt_succ_self _) v
 rcases hx with hx | hx
 ·exact h.btw ht (by omega)
 ·exact TT5.oh_up h ht hx
theorem quest (k:Kp) (P lo B:Nat) (a:Option Addr) (c:Nat) (x:Value) (pN pD pB pF pR:Addr) (w:World) (hR:Rt k) (hck:0<=k.ck/\k.ck<=999999) (hn:k.ds.length<=1048576) (ht:k.ds.length+Z1.tot k.ds k.ds.length<=1048576) (hP:K0.Blk P (wk k a c) w) (hO:Oh lo P a k.ds w) (hc:k.ds.length<=c) (hcm:c<=maxLen) (hE:Errs pN pD pB pF pR lo w) (hlo:lo<=P) (hB:K0.Blk B [x] w) (hBl:B<lo) :
  Calls prog 22 #[Pv P 0,Pv B 0] w fun e w'=>e=.returned .nilIface/\K0.Blk P (wk (run (on k) k.ds.length).1 a c) w'/\Oh lo P a (run (on k) k.ds.length).1.ds w'/\(∃ ac cc,K0.Blk B [.slice ac (run (on k) k.ds.length).2.length cc] w'/\J0.Own (P+1) w' ac (run (on k) k.ds.length).2)/\Cx lo B w w':=by
 have hPw:=hP.lt;have c5:=(TQ.wk2 hP).2.2.2;have f5:=hP.free 5 (by simp)
 have hP1:K0.Blk P (wk (on k) a c) (w.setCell ⟨P,5,none⟩ (Iv (on k).ck)):=by
  have q:=hP.set 5 (Iv (on k).ck);exact q
 have hO1:=oh_set hO (G:=P) (Or.inr (Nat.le_refl _)) 5 (Iv (on k).ck);have hB1:K0.Blk B [x] (w.setCell ⟨P,5,none⟩ (Iv (on k).ck)):=hB.setOther (by omega) 5 _;have hE1:Errs pN pD pB pF pR lo (w.setCell ⟨P,5,none⟩ (Iv (on k).ck)):=hE.keep ((Below.refl lo w).setCell (p:=⟨P,5,none⟩) hlo _) (Nat.le_refl _) (by omega);have hg:=TT6.giveBackLate (on k) P lo a c pN pD pB pF pR _ (TP.rt_on hR) hn ht hP1 hO1 hc hcm hE1 hlo
 have hon:(on k).ck=min (k.ck+1) 999999:=by
  show (if k.ck<999999 then k.ck+1 else k.ck)=_
  by_cases h:k.ck<999999
  ·rw[if_pos h];omega
  ·rw[if_neg h];omega
 have HX:Hid (∀ V,Below lo (w.setCell ⟨P,5,none⟩ (Iv (on k).ck)) V->K0.Blk B [x] V/\Cx lo B w V):=fun V hV=>⟨J0.blk_keep hB1 hV hBl,(Cx.ofBelow ((Below.refl lo w).setCell (p:=⟨P,5,none⟩) hlo _)).trans (Cx.ofBelow hV)⟩
 have hdl:(on k).ds=k.ds:=rfl
 have hsz:(w.setCell ⟨P,5,none⟩ (Iv (on k).ck)).heap.size=w.heap.size:=by simp[World.setCell]
 rw[hdl,hsz] at hg;have x1:(0:Int)<=k.ck:=hck.1;have x2:k.ck<=999999:=hck.2
 have HBP:Hid (B≠P):=by intro h;omega
 clear hP hO hE hB hP1 hO1 hB1 hE1 hdl hsz hR
 generalize run (on k) k.ds.length=R at hg ⊢
 rw[hon] at hg HX;clear hon;go_enter func22,ntmps22
 go_wp2_with (go_at_call 23;refine hg.mono ?_;rintro e w2 ⟨ac,cc,rfl,f2,k2,o2,b2⟩;obtain ⟨kB,x2'⟩:=HX.out _ b2;have u0:=kB.c0;have u1:=kB.f0)
 go_ret;exact ⟨rfl,k2.setOther HBP.out 0 _,oh_set o2 (Or.inl hBl) 0 _,⟨ac,cc,kB.set 0 _,((f2.own).mono (by omega)).set (by omega) 0 _⟩,x2'.set (Or.inl rfl) _⟩
end TT7
end Go.Proofs.YtlejhfnjmkdobaaGreatDoor
