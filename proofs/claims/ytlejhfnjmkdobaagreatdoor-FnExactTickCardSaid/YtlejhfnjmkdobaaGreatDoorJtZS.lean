/- Joined texts. -/
import Derived.Test.YtlejhfnjmkdobaaGreatDoorJtZN
set_option linter.unusedVariables false
set_option linter.unusedSimpArgs false
set_option maxRecDepth 10000
set_option maxHeartbeats 16000000
namespace Go.Proofs.YtlejhfnjmkdobaaGreatDoor
open ChangeShapes WideShapes ChangeAt RowKit
open Go.Proofs.Tryz
namespace PF
open N0 (Ln)
open N1 (Sl val vals Lists LB lb_new)
open Z0 (dat Row Lns Kp kval kvals dz sz0 At)
open Z2 (LAt at_of)
open I2 (ints)
open LF (OwnIn)
open LH (HL)
open KC (flat flat_len flat_at flat_one)
open KD (kob zk Small)
theorem flat_snoc (d:Ln):∀ (xs:List Ln) (ss:Nat->Sl),flat (xs ++ [d]) ss=flat xs ss++vals d (ss xs.length)
 | [],ss=>by simp[flat]
 | x :: r,ss=>by
  rw[List.cons_append,flat,flat,flat_snoc d r,List.append_assoc];rfl
theorem flat_congr:∀ (xs:List Ln) (ss tt:Nat->Sl),(∀ i,i<xs.length->ss i=tt i)->flat xs ss=flat xs tt
 | [],ss,tt,_=>rfl
 | x :: r,ss,tt,h=>by
  rw[flat,flat,h 0 (by simp),flat_congr r _ (fun j=>tt (j+1)) (fun i hi=>h (i+1) (by simpa using hi))]
def more (ss:Nat->Sl) (j:Nat) (s:Sl):Nat->Sl:=fun i=>if i<j then ss i else s
theorem flat_more {ds:List Ln} {j:Nat} (hj:j<ds.length) (ss:Nat->Sl) (s:Sl):flat (ds.take (j+1)) (more ss j s)=flat (ds.take j) ss++vals (dat ds j) s:=by
 have e:ds.take (j+1)=ds.take j ++ [dat ds j]:=by
  rw[List.take_add_one,List.getElem?_eq_getElem hj];simp[dat,hj]
 have hl:(ds.take j).length=j:=by simp;omega
 rw[e,flat_snoc,hl,flat_congr (ds.take j) (more ss j s) ss (fun i hi=>by rw[hl] at hi;simp[more,hi])];simp[more]
def RX (base:Nat) (g:Option Nat) (W:World) (a:Option Addr) (zs:List Int):Prop:=zs=[]\/∃ b,a=some ⟨b,0,none⟩/\base<=b/\g≠some b/\K0.Blk b (ints zs) W
variable {base : Nat} {g g' : Option Nat} {w W W' : World} {a : Option Addr} {zs : List Int} {d : Ln} {s : Sl}
theorem RX.below (h:RX base g W a zs) (hb:Bq W W'):RX base g W' a zs:=h.imp id fun ⟨b,e,h1,h2,h3⟩=>⟨b,e,h1,h2,h3.below hb⟩
theorem RX.set (h:RX base g W a zs) {B:Nat} (hB:B<base) (j:Nat) (v:Value):RX base g (W.setCell ⟨B,j,none⟩ v) a zs:=h.imp id fun ⟨b,e,h1,h2,h3⟩=>⟨b,e,h1,h2,h3.setOther (by omega) j v⟩
theorem RX.grown (h:RX base g W a zs) (hg:W.grownBy W' g) (h':∀ x,g'=some x->g=some x\/x=W.heap.size):RX base g' W' a zs:=
 h.imp id fun ⟨b,e,h1,h2,h3⟩=>⟨b,e,h1,fun q=>by
  rcases h' b q with h' | h'
  ·exact h2 h'
  ·have:=h3.lt
   omega,D7.blk_grown h3 hg h2⟩
theorem RX.row (h:RX base g W a zs):P0.Row W a zs:=by
 rcases h with h | ⟨b,rfl,_,_,h⟩
 ·exact Or.inl h
 ·exact I2.row_of_blk h
theorem rx_in {lo hi:Nat} (h:OwnIn lo hi W a zs) (hb:base<=lo) (hg:∀ x,g=some x->x<lo):RX base g W a zs:=
 h.imp id fun ⟨b,e,h1,h2,h3⟩=>⟨b,e,by omega,fun q=>by have:=hg b q;omega,h3⟩
structure LX (base:Nat) (g:Option Nat) (d:Ln) (s:Sl) (W:World):Prop where
 r1:RX base g W s.a1 d.pg
 r2:RX base g W s.a2 d.po
 r3:RX base g W s.a3 d.fr
structure LQ (base:Nat) (ds:List Ln) (j:Nat) (ss:Nat->Sl) (a:Option Addr) (cap:Nat) (W:World):Prop where
 own:W.ownsRow base 46 8 (.slice a j cap) j (flat (ds.take j) ss)
 sub:∀ i,i<j->LX base (Value.slice a j cap).ownBlock (dat ds i) (ss i) W
variable {ds : List Ln} {j cap : Nat} {ss : Nat → Sl}
theorem LQ.below (h:LQ base ds j ss a cap W) (hb:Bq W W'):LQ base ds j ss a cap W':=⟨F0.owns_below h.own hb,fun i hi=>⟨(h.sub i hi).r1.below hb,(h.sub i hi).r2.below hb,(h.sub i hi).r3.below hb⟩⟩
theorem LQ.set (h:LQ base ds j ss a cap W) {B:Nat} (hB:B<base) (k:Nat) (v:Value):LQ base ds j ss a cap (W.setCell ⟨B,k,none⟩ v):=
 ⟨ownsRow_setCell_below h.own (a:=⟨B,k,none⟩) hB v,fun i hi=>⟨(h.sub i hi).r1.set hB k v,(h.sub i hi).r2.set hB k v,(h.sub i hi).r3.set hB k v⟩⟩
theorem lq_nil (ds:List Ln) (ss:Nat->Sl) (W:World):LQ base ds 0 ss none 0 W:=⟨⟨by simp[flat],Or.inl ⟨rfl,rfl⟩⟩,fun i hi=>by omega⟩
theorem LQ.lt (h:LQ base ds j ss a cap W):∀ x,(Value.slice a j cap).ownBlock=some x->x<W.heap.size:=fun x hx=>(h.own.lt x hx).2
theorem LQ.lns (h:LQ base ds ds.length ss a cap W):Lns W a ds ss:=by
 refine ⟨?_,fun i hi=>⟨(h.sub i hi).r1.row,(h.sub i hi).r2.row,(h.sub i hi).r3.row⟩⟩;have ho:=h.own;rw[List.take_length] at ho
 rcases ho.2 with ⟨_,h0⟩ | ⟨g,c,cur,hv,_⟩
 ·exact Or.inl (List.eq_nil_of_length_eq_zero h0)
 ·simp at hv
  obtain ⟨rfl,rfl⟩:=hv;obtain ⟨_,hk⟩:=KC.blk_of_owns ho (flat_len ds ss);exact Or.inr ⟨g,0,rfl,hk.lt,fun i hi=>by rw[Nat.zero_add];exact at_of hk (flat_at ds ss i hi)⟩
theorem LQ.step {lo m1 m2 hi cap':Nat} {a':Option Addr} (h:LQ base ds j ss a cap W) (hl:HL lo m1 m2 hi s (dat ds j).pg (dat ds j).po (dat ds j).fr W) (hb:base<=lo) (hg:∀ x,(Value.slice a j cap).ownBlock=some x->x<lo) (hj:j<ds.length)
  (ho:W'.ownsRow base 46 8 (.slice a' (j+1) cap') (j+1) (flat (ds.take j) ss++vals (dat ds j) s)) (hw:W.grownBy W' (Value.slice a j cap).ownBlock) (hx:∀ x,(Value.slice a' (j+1) cap').ownBlock=some x->(Value.slice a j cap).ownBlock=some x\/x=W.heap.size) :
  LQ base ds (j+1) (more ss j s) a' cap' W':=by
 refine ⟨by rw[flat_more hj];exact ho,fun i hi=>?_⟩
 by_cases hij:i<j
 ·have e:more ss j s i=ss i:=if_pos hij
  rw[e];have q:=h.sub i hij;exact ⟨q.r1.grown hw hx,q.r2.grown hw hx,q.r3.grown hw hx⟩
 ·obtain rfl:i=j:=by omega
  have e:more ss i s i=s:=if_neg hij;rw[e];exact ⟨(rx_in hl.p1 hb hg).grown hw hx,(rx_in hl.p2 (by have:=hl.le;omega) (fun x q=>by have:=hg x q;have:=hl.le;omega)).grown hw hx,(rx_in hl.p3 (by have:=hl.le;omega) (fun x q=>by have:=hg x q;have:=hl.le;omega)).grown hw hx⟩
end PF
namespace PG
open N0 (Ln)
open N1 (Sl val vals Lists LB lb_new)
open Z0 (dat Row Lns Kp kval kvals dz sz0 At)
open LH (HL)
open KC (flat flat_len flat_at flat_one)
open KD (kob zk Small)
open PF (LQ lq_nil more)
section
open AT (wpAnyT)
variable {P : Program} {ops : Array Oper} {Q : Exit → Act → World → Prop} {md : Region.Mode} {S : World → Prop} {n : Nat}
theorem mem1 {a:Act} {w w':World} {u:Value} {i:Nat} {o:Oper} {listed:Array Bool} {fuel:Nat} (hr:Region.ready md ops listed=[i]) (ho:ops[i]? = some o) (hw:Region.wanted o (yielded ops a.tmps)=true)
  (he:(execOp a.eval o).run P w=.ok (.value u) w') (hS:S w') (h:wpAnyT P md ops Q S n fuel (listed.setIfInBounds i true) (a.put o.dst u) w'):wpAnyT P md ops Q S n (fuel+1) listed a w:=by
 refine AT.all hr (by simp) ?_;intro j hj
 obtain rfl:j=i:=by simpa using hj
 unfold wpOp;rw[ho];refine Y0.of_if hw (.inl ?_);unfold Oper.wp;rw[he];exact ⟨fun _=>hS,h⟩
theorem app1 {a:Act} {w:World} {i:Nat} {o:Oper} {listed:Array Bool} {fuel:Nat} (hr:Region.ready md ops listed=[i]) (ho:ops[i]? = some o) (hw:Region.wanted o (yielded ops a.tmps)=true)
  (h:Oper.wp P o a w (fun a' w'=>(i<n->S w')/\wpAnyT P md ops Q S n fuel (listed.setIfInBounds i true) a' w') Q):wpAnyT P md ops Q S n (fuel+1) listed a w:=by
 refine AT.all hr (by simp) ?_;intro j hj
 obtain rfl:j=i:=by simpa using hj
 unfold wpOp;rw[ho];exact Y0.of_if hw (.inl h)
end
theorem vals_one (d:Ln) (s:Sl):∀ u ∈ vals d s,u.oneCell'=true:=by
 intro u h;simp at h
 rcases h with rfl | rfl | rfl | rfl | rfl | rfl | rfl | rfl <;> rfl
structure Cb (w:World) (k:Kp) (a:Option Addr) (c j:Nat) (ab:Option Addr) (cc:Nat) (W:World):Prop where
 box:K0.Blk w.heap.size (kvals k a c) W
 ans:K0.Blk (w.heap.size+1) Z3.zero4 W
 cpy:K0.Blk (w.heap.size+1+1) [.string k.mem,.string k.dur,.slice ab j cc,.int .i64 k.ck] W
variable {w W W' : World} {k : Kp} {a ab : Option Addr} {c j cc : Nat} {ss : Nat → Sl} {row : Option Nat}
theorem Cb.below (h:Cb w k a c j ab cc W) (hb:Bq W W'):Cb w k a c j ab cc W':=⟨h.box.below hb,h.ans.below hb,h.cpy.below hb⟩
theorem Cb.set (h:Cb w k a c j ab cc W) (ab':Option Addr) (j' cc':Nat):Cb w k a c j' ab' cc' (W.setCell ⟨w.heap.size+1+1,2,none⟩ (.slice ab' j' cc')):=
 ⟨h.box.setOther (by omega) _ _,h.ans.setOther (by omega) _ _,h.cpy.set 2 _⟩
def Ct (w:World) (k:Kp) (a:Option Addr) (c j:Nat) (ss:Nat->Sl) (ab:Option Addr) (cc:Nat) (W:World):Prop:=Cb w k a c j ab cc W/\LQ (w.heap.size+3) k.ds j ss ab cc W/\Bq w W
theorem Ct.below (h:Ct w k a c j ss ab cc W) (hb:Bq W W'):Ct w k a c j ss ab cc W':=⟨h.1.below hb,h.2.1.below hb,h.2.2.trans (hb.mono h.2.2.size)⟩
theorem Ct.lt (h:Ct w k a c j ss ab cc W):∀ x,(Value.slice ab j cc).ownBlock=some x->x<W.heap.size:=h.2.1.lt
theorem Ct.grown (h:Ct w k a c j ss ab cc W) (hg:W.grownBy W' (Value.slice ab j cc).ownBlock):Cb w k a c j ab cc W'/\Bq w W':=by
 have hn:∀ x,(Value.slice ab j cc).ownBlock=some x->w.heap.size+3<=x:=fun x hx=>(h.2.1.own.lt x hx).1
 exact ⟨⟨D7.blk_grown h.1.box hg (fun q=>by have:=hn _ q;omega),D7.blk_grown h.1.ans hg (fun q=>by have:=hn _ q;omega),D7.blk_grown h.1.cpy hg (fun q=>by have:=hn _ q;omega)⟩,F0.below_grown h.2.2 hg (fun g q=>by have:=hn _ q;omega) h.2.2.size⟩
abbrev cob (k:Kp):Obj:=.cells #[.string k.mem,.string k.dur,.slice none 0 0,.int .i64 k.ck] 31
theorem ct_new (w:World) (k:Kp) (a:Option Addr) (c:Nat) (ss:Nat->Sl):Ct w k a c 0 ss none 0 (((w.alloc (kob k a c)).alloc zk).alloc (cob k)):=
 ⟨⟨((K0.blk_new (kvals k a c) w 31).alloc _).alloc _,(K0.blk_at Z3.zero4 _ 31 (by simp)).alloc _,K0.blk_at [.string k.mem,.string k.dur,.slice none 0 0,Iv k.ck] _ 31 (by simp)⟩,lq_nil _ _ _,(((Below.refl _ _).alloc (Nat.le_refl _) _).alloc (by simp) _).alloc (by simp;omega) _⟩
def SA (k:Kp) (w:World) (e:Ending) (w':World):Prop:=∃ a' c' ss,e=.returned (kval k a' c')/\LQ (w.heap.size+3) k.ds k.ds.length ss a' c' w'/\Bq w w'
theorem l06Copy (k:Kp) (a:Option Addr) (c:Nat) (s0:Nat->Sl) (w:World) (hn:k.ds.length<=1048576) (hz:Small k.ds) (hR:Lns w a k.ds s0) :
  Calls prog 16 #[kval k a c] w (SA k w):=by
 have t0:=ct_new w k a c s0
 have HL:Hid (∀ W,Bq w W->Lns W a k.ds s0):=fun W hb=>hR.below hb
 have HZ:Hid (Small k.ds):=hz;have b0:=(K0.blk_new (kvals k a c) w 31).alloc zk;have c0:=b0.c0;have c1:=b0.c1;have c3:=b0.c3;obtain ⟨i0,hi0,hz0,hz1,hz2⟩:=info_parts Z2.infoL;clear hR hz b0;unfold SA;go_enter func16,ntmps16;go_wp2
 go_loopw [4] (fun i w'=>∃ (j:Nat) (ss:Nat->Sl) (ab:Option Addr) (cc:Nat),j<=k.ds.length/\i=Iv j/\Ct w k a c j ss ab cc w') (fun i _=>k.ds.length-(intOf i).toNat)
 case atStart=>exact ⟨0,s0,none,0,Nat.zero_le _,rfl,t0⟩
 case round=>
  obtain ⟨j,ss,ab,cc,hj,rfl,tr⟩:=hrel;clear t0 c0 c1 c3;have c2:=tr.1.box.c2
  by_cases hlt:j<k.ds.length
  ·have ls:=(HL.out _ tr.2.2).sub j hlt
   obtain ⟨q1,q2,q3,q4,q5⟩:=HZ.out j hlt;obtain ⟨b,off,rfl,hlt0,hc⟩:=(HL.out _ tr.2.2).row.get hlt;have HJ:Hid (j<k.ds.length):=hlt
   have HA:Hid (∀ W,Bq w W->∃ b' off',some (⟨b,off,none⟩:Addr)=some ⟨b',off',none⟩/\b'<W.heap.size/\∀ j,j<k.ds.length->At W b' (off'+j*8) (dat k.ds j) (s0 j)):=fun W hb=>(HL.out W hb).row.get HJ.out
   obtain ⟨d,ed⟩:∃ d,dat k.ds j=d:=⟨_,rfl⟩;obtain ⟨s,es⟩:∃ s,s0 j=s:=⟨_,rfl⟩;have HD:Hid (dat k.ds j=d):=ed
   have HS:Hid (∀ W,Cb w k (some ⟨b,off,none⟩) c j ab cc W->Bq w W->Ce W (w.heap.size+1+1) 2 (.slice ab j cc)/\Ce W w.heap.size 2 (.slice (some ⟨b,off,none⟩) k.ds.length c)/\Ce W b (off+j*8) (Iv d.ino)/\Ce W b (off+j*8+1) (Iv d.cl)/\Ce W b (off+j*8+2) (Iv d.un)/\Ce W b (off+j*8+3) (.string d.rc)/\Ce W b (off+j*8+4) (.slice s.a1 d.pg.length s.c1)/\Ce W b (off+j*8+5) (.string d.sav)/\Ce W b (off+j*8+6) (.slice s.a2 d.po.length s.c2)/\Ce W b (off+j*8+7) (.slice s.a3 d.fr.length s.c3)):=fun W h hb=>by
    obtain ⟨b',off',e',_,h'⟩:=HA.out W hb;simp at e';obtain ⟨rfl,rfl⟩:=e';obtain ⟨y0,y1,y2,y3,y4,y5,y6,y7⟩:=h' j HJ.out;rw[ed] at y0 y1 y2 y3 y4 y5 y6 y7;rw[es] at y4 y6 y7;exact ⟨h.cpy.c2,h.box.c2,y0,y1,y2,y3,y4,y5,y6,y7⟩
   rw[ed,es] at ls;rw[ed] at q1 q2 q3 q4 q5;have t4:=tr.below ((Below.refl _ wr).drew);have hcp:Hid (Calls prog 29 #[N1.val d s] wr.drew (LI.Ans d wr.drew)):=LI.spec_copy d s wr.drew (by omega) (by omega) (by omega) (ls.below ((Below.refl _ wr).drew));have s4:=HS.out _ t4.1 t4.2.2
   have x1:(0:Int)<=(j:Int):=by omega
   have x2:(j:Int)<(k.ds.length:Int):=by omega
   have z4:w.heap.size+3<=wr.drew.heap.size:=t4.1.cpy.lt;clear ed es hc ls HA;go_wp2;refine AT.region (n:=11) (S:=fun W=>Ce W (w.heap.size+1+1) 2 (.slice ab j cc)/\Ce W w.heap.size 2 (.slice (some ⟨b,off,none⟩) k.ds.length c)/\Ce W b (off+j*8) (Iv d.ino)/\Ce W b (off+j*8+1) (Iv d.cl)/\Ce W b (off+j*8+2) (Iv d.un)/\Ce W b (off+j*8+3) (.string d.rc)/\Ce W b (off+j*8+4) (.slice s.a1 d.pg.length s.c1)/\Ce W b (off+j*8+5) (.string d.sav)/\Ce W b (off+j*8+6) (.slice s.a2 d.po.length s.c2)/\Ce W b (off+j*8+7) (.slice s.a3 d.fr.length s.c3)) (by kernel_rfl) ?_;refine BU.r 0 (Pv (w.heap.size+1+1) 2) s4 ?_;refine BU.s 1 (.slice ab j cc) s4 ?_;refine BU.r 2 (Pv w.heap.size 2) s4 ?_;refine BU.s 3 (.slice (some ⟨b,off,none⟩) k.ds.length c) s4 ?_;refine BU.r 4 (Iv j) s4 ?_;refine BU.s 5 (Pv b (off+j*8)) s4 ?_;refine BU.s 6 (N1.val d s) s4 ?_;refine AT.call1 (i:=7) (by kernel_rfl) rfl (by rfl) (.tmp 23) _ rfl (N1.val d s) (by rfl) (enters_of func29 (by kernel_rfl) rfl) (hcp.out.mono ?_);rintro e w5 ⟨s',m1,m2,hi,rfl,hl,hh,b5⟩;have t5:=t4.below b5;have s5:=HS.out _ t5.1 t5.2.2;have z5:=b5.size;refine ⟨_,rfl,s5,?_⟩;simp only[BZ.z,Act.put,Nat.reduceAdd];have nb:=K0.below_new w5 (.cells (N1.Lc d s') 46);have t6:=t5.below nb;have s6:=HS.out _ t6.1 t6.2.2;have hl6:=hl.below nb
   refine mem1 (i:=8) (w':=w5.alloc (.cells (N1.Lc d s') 46)) (u:=Sv w5.heap.size 1 1) (by kernel_rfl) rfl (by rfl) ?_ s6 ?_
   ·go_simp
   simp only[BZ.z,Act.put,Nat.reduceAdd];refine app1 (i:=9) (by kernel_rfl) rfl (by rfl) ?_;refine wp_append_lies (w5.alloc (.cells (N1.Lc d s') 46)) (.tmp 18) (.tmp 25) 29 rfl (w.heap.size+3) 46 i0 (.agg Z2.zero8) 8 128 underlying29 hi0 hz0 hz1 hz2 rfl (by omega) (.slice ab j cc) j _ (by rfl) t6.2.1.own ⟨w5.heap.size,0,none⟩ 1 1 (N1.vals d s') (by rfl) rfl (World.news_of_block (heap_alloc_new w5 _)) (vals_one d s') (by omega) (by unfold maxLen;omega) (by omega) (by simp;omega) _ rfl ?_;intro g' cap' w7 ho' hg' hx' hlt';have t7:=t6.grown hg';have s7:=HS.out _ t7.1 t7.2;have lq7:=LQ.step t6.2.1 (by rw[HD.out];exact hl6) (by omega) t4.lt HJ.out (by rw[HD.out];exact ho') hg' (fun x hx=>by simp[Value.ownBlock] at hx;subst hx;exact hx');refine ⟨fun _=>s7,?_⟩;simp only[BZ.z,Act.put,Nat.reduceAdd];refine BU.r 10 (Pv (w.heap.size+1+1) 2) s7 ?_;have f7:=t7.1.cpy.free 2 (by simp);obtain ⟨n1,n2,y0,y1,y2,y3,y4,y5,y6,y7⟩:=s7;refine AT.store (i:=11) (w':=w7.setCell ⟨w.heap.size+1+1,2,none⟩ (Sv g' (j+1) cap')) (by kernel_rfl) rfl (by decide) (by rfl) ?_ ?_
   ·go_simp
   simp only[BZ.z,Act.put,Nat.reduceAdd];refine AT.done (by kernel_rfl) ?_ _;have t8:=t7.1.set (some ⟨g',0,none⟩) (j+1) cap';have l8:=lq7.set (B:=w.heap.size+1+1) (by omega) 2 (Sv g' (j+1) cap');have m8:=t7.2.setCell (p:=⟨w.heap.size+1+1,2,none⟩) (by show w.heap.size<=w.heap.size+1+1;omega) (Sv g' (j+1) cap');go_wp2
   go_roundw
   case rel=>exact ⟨j+1,more ss j s',some ⟨g',0,none⟩,cap',HJ.out,by go_num,t8,l8,m8⟩
   case measure=>simp[intOf];omega
  ·obtain rfl:j=k.ds.length:=by omega
   have d0:=tr.1.cpy.c0;have d1:=tr.1.cpy.c1;have d2:=tr.1.cpy.c2;have d3:=tr.1.cpy.c3;have y0:=tr.1.ans.c0;have y1:=tr.1.ans.c1;have y2:=tr.1.ans.c2;have y3:=tr.1.ans.c3;have g0:=tr.1.ans.f0;have g1:=tr.1.ans.f1;have g2:=tr.1.ans.f2;have g3:=tr.1.ans.f3;have qq:=tr.1.ans.put4 (.string k.mem) (.string k.dur) (.slice ab k.ds.length cc) (Iv k.ck);have ll:=(((tr.2.1.set (B:=w.heap.size+1) (by omega) 0 (.string k.mem)).set (B:=w.heap.size+1) (by omega) 1 (.string k.dur)).set (B:=w.heap.size+1) (by omega) 2 (.slice ab k.ds.length cc)).set (B:=w.heap.size+1) (by omega) 3 (Iv k.ck);have mm:=(((tr.2.2.setCell (p:=⟨w.heap.size+1,0,none⟩) (Nat.le_succ _) (.string k.mem)).setCell (p:=⟨w.heap.size+1,1,none⟩) (Nat.le_succ _) (.string k.dur)).setCell (p:=⟨w.heap.size+1,2,none⟩) (Nat.le_succ _) (.slice ab k.ds.length cc)).setCell (p:=⟨w.heap.size+1,3,none⟩) (Nat.le_succ _) (Iv k.ck);have v0:=qq.c0;have v1:=qq.c1;have v2:=qq.c2;have v3:=qq.c3;clear HL HZ;go_wp2;exact bodyPost_ret (v:=kval k ab cc) (by simp[results,results16,go_sem,v0,v1,v2,v3]) rfl ⟨ab,cc,ss,rfl,ll,mm⟩
end PG
end Go.Proofs.YtlejhfnjmkdobaaGreatDoor
