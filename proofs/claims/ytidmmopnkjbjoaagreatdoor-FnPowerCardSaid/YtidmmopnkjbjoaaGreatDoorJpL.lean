/- Joined texts. -/
import Derived.Test.YtidmmopnkjbjoaaGreatDoorJpJ
import Derived.Test.YtidmmopnkjbjoaaGreatDoorJpI
set_option linter.unusedVariables false
set_option linter.unusedSimpArgs false
set_option maxRecDepth 10000
set_option maxHeartbeats 16000000
namespace Go.Proofs.YtidmmopnkjbjoaaGreatDoor
open ChangeShapes WideShapes ChangeAt RowKit
open Go.Proofs.Tryz
section
variable {w W W' : World} {d : ak} {s : aA} {g1 g2 g3 B : Nat}
theorem EW (h:fD d<=1048576):d.pg.length<=1048576/\d.po.length<=1048576/\d.fr.length<=1048576/\d.rc.size<=1048576/\d.aH.size<=1048576:=by unfold fD at h;omega
end
section
variable {E : Nat → List aV} {K : Nat → Int} {F : Nat → Nat} {P : Nat → ByteArray} {d k x : Nat}
def eh (E:Nat->List aV):Nat->Nat->ByteArray->Prop
 | x,0,p=>x=0/\p=⟨#[]⟩
 | x,k+1,p=>∃ d q nm,eh E d k q/\((x:Int),nm) ∈ E d/\p=q++(⟨#[47]⟩++nm)
theorem eh.zero {E:Nat->List aV}:eh E 0 0 ⟨#[]⟩:=⟨rfl,rfl⟩
theorem eh.down {E:Nat->List aV} {d k:Nat} {q:ByteArray} {x:Nat} {nm:ByteArray} (h:eh E d k q) (hm:((x:Int),nm) ∈ E d):eh E x (k+1) (q++(⟨#[47]⟩++nm)):=⟨d,q,nm,h,hm,rfl⟩
theorem eh.or {E:Nat->List aV} {x:Nat} {p:ByteArray}:∀ {k:Nat},eh E x k p->(x=0/\k=0/\p=⟨#[]⟩)\/∃ d k' q nm,k=k'+1/\eh E d k' q/\((x:Int),nm) ∈ E d/\p=q++(⟨#[47]⟩++nm)
 | 0,h=>Or.inl ⟨h.1,rfl,h.2⟩
 | k+1,⟨d,q,nm,h,hm,e⟩=>Or.inr ⟨d,k,q,nm,rfl,h,hm,e⟩
theorem eh.ind {E:Nat->List aV} {motive:(x k:Nat)->(p:ByteArray)->eh E x k p->Prop} (zero:motive 0 0 ⟨#[]⟩ eh.zero) (down:∀ {d k:Nat} {q:ByteArray} {x:Nat} {nm:ByteArray} (hd:eh E d k q) (hm:((x:Int),nm) ∈ E d),motive d k q hd->motive x (k+1) (q++(⟨#[47]⟩++nm)) (eh.down hd hm)):∀ {x k:Nat} {p:ByteArray} (h:eh E x k p),motive x k p h
 | x,0,p,h=>by obtain ⟨rfl,rfl⟩:=h;exact zero
 | x,k+1,p,h=>by obtain ⟨d,q,nm,hd,hm,rfl⟩:=h;exact down hd hm (eh.ind zero down hd)
def od (q:ByteArray):ByteArray:=if q.size=0 then ⟨#[47]⟩ else q
theorem IY (a:ByteArray):a ++ ⟨#[]⟩=a:=by apply gm;simp[mz]
theorem P5 (a:ByteArray):(⟨#[]⟩:ByteArray)++a=a:=by apply gm;simp[mz]
theorem EX (a b c:ByteArray):(a++b)++c=a++(b++c):=by apply gm;simp[mz]
theorem aah (hS:sG E K) {p:ByteArray} (h:eW E x k p):∃ q,eh E x k q/\p=od q/\(0<x->0<q.size)/\(x=0->q=⟨#[]⟩):=by
 induction h using eW.ind with
 | zero=>exact ⟨⟨#[]⟩,eh.zero,rfl,fun h=>absurd h (by decide),fun _=>rfl⟩
 | @down d k p x nm hd hm ih=>
  obtain ⟨q,hq,hp,h1,h2⟩:=ih;have hx:=(hS.ino _ _ hm).1;have hne:0<(q++((⟨#[47]⟩:ByteArray)++nm)).size:=by rw[fk,fk];have:(⟨#[47]⟩:ByteArray).size=1:=rfl;omega
  refine ⟨_,eh.down hq hm,?_,fun _=>hne,fun e=>?_⟩
  ·rw[od,aG (by omega)];by_cases h0:d=0
   ·rw[h2 h0] at hp ⊢;rw[hp,jq,aF h0,IY,P5];rfl
   have:=h1 (by omega);rw[od,aG (by omega)] at hp;rw[hp,jq,aG h0,EX]
  ·simp only at hx;omega
theorem eh.size (hs:∀ i e,e ∈ E i->e.2.size<=14) {q:ByteArray} (h:eh E x k q):q.size<=15*k:=by
 induction h using eh.ind with
 | zero=>decide
 | @down d k q x nm _ hm ih=>
  have:=hs _ _ hm;rw[fk,fk];have h1:(⟨#[47]⟩:ByteArray).size=1:=rfl;simp only at this;omega
theorem aai (ht:gU E K=true) (hS:sG E K) {e:aV} (hd:d<8) (he:e ∈ E d):eJ (cr E 8) e.1=[(d,e)]:=by
 have hi:=hS.ino _ _ he;obtain ⟨x,hx⟩:∃ x:Nat,e.1=(x:Int):=⟨e.1.toNat,by omega⟩;have m1:(d,e) ∈ eJ (cr E 8) e.1:=sg.2 ⟨EC he hd,by simp⟩;have hone:=uY.1 ht x (by omega) (by omega);rw[hx] at m1 ⊢;unfold lg at hone;simp only[cj,qB,kY] at hone;rcases BC (cr E 8) x with hp | hp | ⟨p,hp,_⟩
 ·rw[(qP _ _).1 hp] at m1;simp at m1
 ·rcases hone.2 with hk | hr
  ·rw[hk,hp] at hone;simp at hone
  rw[zd _ _ _ (by omega),hp,wU _ _ _ (by decide)] at hr;cases hr
 rw[hp] at m1 ⊢;simp only[lW] at m1;rw[m1]
theorem aaj (ht:gU E K=true) (hS:sG E K) {e:aV} (hd:d<8) (he:e ∈ E d):de (cr E 8) e.1=d/\sB (cr E 8) e.1=e.2:=by have h:=aai ht hS hd he;unfold de sB;rw[h];exact ⟨rfl,rfl⟩
theorem aak (h:fM E K [] F P) (hS:sG E K) (mR:K 0=2) (ht:gU E K=true) (hx:x<8) (hk:K x≠0):∃ k,k<=8/\eW E x k (P x):=by
 by_cases h0:x=0
 ·subst h0;rw[h.zero];exact ⟨0,by decide,eW.zero⟩
 have hd:=h.done hS mR;rw[ht] at hd;have:=BD.1 hd x (by omega) hx;simp only[sC,dC] at this;rw[aG hk] at this;exact h.at_ x (by omega)
end
abbrev gx:=Int × Int
def ek (l:List gx) (i:Nat):gx:=l.getD i (0,0)
theorem zt (l:List gx) (i:Nat) (h:i<l.length):ek l i=l[i]:=by simp[ek,List.getD,h]
def pT (l:List gx) (k:Int):Bool:=l.any fun r=>decide (r.1<=k/\k<r.1+r.2)
def vj (l:List gx) (i:Int) (n:Nat):Bool:=(List.range n).all fun j=>pT l (i+(j:Int))
theorem P6 {l:List gx} {i:Int} {n:Nat}:vj l i n=true ↔ ∀ k,i<=k->k<i+(n:Int)->pT l k=true:=by
 unfold vj;rw[AV];constructor
 ·intro h k h0 h1;have:=h (k-i).toNat (mA.2 (by omega));rwa [show i+((k-i).toNat:Int)=k by omega] at this
 intro h j hj;have:=mA.1 hj;exact h _ (by omega) (by omega)
section
open Go.Shelf
theorem BP {l:List UInt8} {k:Nat} (hl:l.length=768) (hk:k<96):(cI l k).length=8:=by rw[cI,fO,jC];omega
theorem P7 {W:World} {G o k:Nat} {l:List UInt8} (h:W.rangeAt G o (Lib.byteCells l)) {x:List UInt8} (hx:cI l k=x):∀ j b,x[j]? = some b->af W G (o+k*8+j) (.int .u8 (b.toNat:Int)):=by intro j b hb;subst hx;have:=zj h (k*8) 8;rw[BI] at this;exact this j _ (by simp only[Lib.byteCells,List.getElem?_map];rw[show List.take 8 (List.drop (k*8) l)=cI l k from rfl,hb];rfl)
def IZ (G:Nat) (la:List UInt8) (k:Nat) (W:World):Prop:=∃ lb:List UInt8,lb.length=768/\kB G la lb W/\cI la k≠cI lb k
set_option maxRecDepth 100000 in
theorem P8 (n G:Nat) (la:List UInt8) (hla:la.length=768) (I:Nat->World->Prop) (hrd:∀ k W,I k W->∃ lb:List UInt8,lb.length=768/\kB G la lb W) (Wh:∀ k W lb,k<96->I k W->lb.length=768->kB G la lb W->cI la k=cI lb k->I (k+1) W) (l:Nat) (J:Nat->World->Prop) (Jx:World->Prop) (W:World) (VJ:∀ k W,J k W->I k W) (hJ:∀ k W,J k W->I (k+1) W->J (k+1) W) (hJd:∀ k W,J k W->J k W.drew) (LU:∀ k W m,J k W->J k (W.drewN m)) (hY:∀ k W,k<96->J k W->IZ G la k W->YieldAt Fence.wide (n-1-1) prog l #[ad (k:Int)] W fun e V=>(e=.returned (.bool true)/\J (k+1) V)\/(e=.returned (.bool false)/\Jx V)) (h0:J 0 W):CallsIn Fence.wide (n-1) prog 130 (#[aD G 0] ++ #[.func (.yield l) #[] #[]]) W fun e V=>(∃ v,e=.returned v)/\(J 96 V\/Jx V):=by
 have hro:Fence.wide.round=none:=rfl;refine callsIn_of_wp func130 rfl trivial ?_ rfl;simp only[ntmps130,nh,dA,fB,Nat.reduceAdd,Nat.reduceSub,Nn,WZ,Xa,Xb,iX,nS];gi_wp2
 gi_loopw [5] (fun i wr=>∃ k:Nat,k<=96/\i=ad k/\J k wr) (fun i _=>96-(intOf i).toNat)
 case atStart=>exact ⟨0,aS _,rfl,h0⟩
 case round=>
 obtain ⟨k,hk,rfl,hj⟩:=hrel;by_cases hlt:k<96
 ·have e1:(0:Int)<=(k:Int):=by omega
  have e2:(k:Int)<96:=by omega
  have hjd:=hJd _ _ hj;obtain ⟨lb,hlb,hD⟩:=hrd _ _ (VJ _ _ hjd);obtain ⟨x0,x1,x2,x3,x4,x5,x6,x7,hx⟩:=EN (cI la k) (BP hla hlt);obtain ⟨y0,y1,y2,y3,y4,y5,y6,y7,hy⟩:=EN (cI lb k) (BP hlb hlt);have hD0:kB G la lb wr:=⟨hD.m,hD.d,hD.t,hD.lt⟩;have cx:=P7 hD0.m hx;have cy:=P7 hD0.d hy;simp only[cR] at cx;have m0:=cx 0 x0 rfl;have m1:=cx 1 x1 rfl;have m2:=cx 2 x2 rfl;have m3:=cx 3 x3 rfl;have m4:=cx 4 x4 rfl;have m5:=cx 5 x5 rfl;have m6:=cx 6 x6 rfl;have m7:=cx 7 x7 rfl;have n0:=cy 0 y0 rfl;have n1:=cy 1 y1 rfl;have n2:=cy 2 y2 rfl;have n3:=cy 3 y3 rfl;have n4:=cy 4 y4 rfl;have n5:=cy 5 y5 rfl;have n6:=cy 6 y6 rfl;have n7:=cy 7 y7 rfl;simp only[mZ] at m0 n0;have heq:=ZR [x0,x1,x2,x3,x4,x5,x6,x7] [y0,y1,y2,y3,y4,y5,y6,y7] rfl rfl;simp only[Lib.byteCells,mX,AS] at heq;clear cx cy;have hmx:prog.follows .mixedOrders=true:=by kernel_rfl
  by_cases hne : [x0,x1,x2,x3,x4,x5,x6,x7]=[y0,y1,y2,y3,y4,y5,y6,y7]
  ·simp only[hne,decide_true] at heq;have hn:∀ m,J (k+1) (wr.drewN m):=fun m=>hJ _ _ (LU _ _ m hj) (Wh _ _ lb hlt (VJ _ _ (LU _ _ m hj)) hlb ⟨hD.m,hD.d,hD.t,hD.lt⟩ (by rw[hx,hy,hne]));clear LU hJd Wh hY;gi_wp2
   refine wpIn_region_quiet_lit rfl (by kernel_rfl) (by kernel_rfl) ?_;repeat (gi_big_quiet_step (fail))
   refine BigFrame.wpQuietIn_skip (fun _ _ _ _=>trivial) rfl ?_;simp only[Act.put,Array.setIfInBounds,nh,dA,fB,Nat.reduceAdd,Nat.reduceLT,↓reduceDIte,List.set_toArray,lX,jS];repeat (gi_big_quiet_step (fail))
   refine wpQuietIn_nil ?_;rintro _ ⟨nq,rfl⟩;gi_wp2
   go_roundw;case rel=>exact ⟨k+1,by omega,by go_num,hn _⟩
   case measure=>simp[intOf];omega
  simp only[hne,decide_false] at heq;obtain ⟨fn,tmps,assign,body,hyl,hR0⟩:=hY k wr.drew hlt hjd ⟨lb,hlb,hD,by rw[hx,hy];exact hne⟩;have hR:RoundIn Fence.wide (n-1-1) prog l fn tmps assign body wr.drew fun e V=>∃ b:Bool,e=.returned (.bool b)/\(b=true->J (k+1) V)/\(b=false->Jx V):=
   hR0.mono fun e V h=>by
    rcases h with ⟨rfl,h⟩ | ⟨rfl,h⟩;·exact ⟨true,rfl,fun _=>h,fun h=>by cases h⟩
    exact ⟨false,rfl,fun h=>(by cases h),fun _=>h⟩
  clear hR0;gi_wp2
  gi_region_with (first
   | (refine hR.mono ?_;rintro e W3 ⟨b,rfl,hJ3,hJx3⟩)
   | (refine ⟨(fun h=>by cases h),hR.mono ?_⟩;rintro e W3 ⟨b,rfl,hJ3,hJx3⟩))
  all_goals
   cases b
   ·gi_wp2
    refine bL (results_none rfl _ _ _) rfl ?_;exact ⟨⟨_,rfl⟩,.inr (hJx3 (by trivial))⟩
   ·gi_wp2
    go_roundw;case rel=>exact ⟨k+1,by omega,by go_num,hJ3 (by trivial)⟩
    case measure=>simp[intOf];omega
 obtain rfl:k=96:=by omega
 gi_wp2
 go_end0
 exact ⟨⟨_,rfl⟩,.inl hj⟩
end
section
open Go.Shelf
theorem EY {G:Nat} {la lb:List UInt8} {W V:World} {row:Option Nat} (h:kB G la lb W) (hg:W.grownBy V row) (hr:∀ r,row=some r->∃ o:Obj,W.heap[r]? = some o/\o.isCells=false):kB G la lb V:=by refine ⟨fun j v hj=>Ba (h.m j v hj) hg hr,fun j v hj=>Ba (h.d j v hj) hg hr,fun j hj=>?_,cS h.lt hg.size⟩;obtain ⟨u,hu⟩:=aiJ.1 (h.t j hj).1;exact ⟨by rw[Ba hu hg hr];rfl,(frozen_kept hu hg hr).trans (h.t j hj).2⟩
def eo (b o:Nat) (v:Value) (W:World):Prop:=W.cell? ⟨b,o,none⟩=some v/\W.frozen? ⟨b,o,none⟩=false/\b<W.heap.size
theorem eo.own {b o:Nat} {v:Value} {W V:World} {row:Option Nat} (h:eo b o v W) (hg:W.grownBy V row) (hr:∀ r,row=some r->∃ o:Obj,W.heap[r]? = some o/\o.isCells=false):eo b o v V:=⟨Ba h.1 hg hr,(frozen_kept h.1 hg hr).trans h.2.1,cS h.2.2 hg.size⟩
theorem eo.below {b o:Nat} {v:Value} {W V:World} (h:eo b o v W) (hb:aj W V):eo b o v V:=⟨(hb.cell (p:=⟨b,o,none⟩) h.2.2).trans h.1,(hb.frozen (p:=⟨b,o,none⟩) h.2.2).trans h.2.1,cS h.2.2 hb.size⟩
theorem eo.set {b o g off:Nat} {v:Value} {W:World} (h:eo b o v W) (hn:b≠g) (vs:List Value):eo b o v (W.setCells g off vs):=⟨(Nj g vs off W ⟨b,o,none⟩ (fun e=>absurd e hn)).trans h.1,by rw[World.frozen?_setCells];exact h.2.1,by rw[yP];exact h.2.2⟩
theorem eo.alloc {b o:Nat} {v:Value} {W:World} (h:eo b o v W) (ob:Obj):eo b o v (W.alloc ob):=h.below ((aK _ _).alloc (aq _) ob)
theorem xh (W:World) (v:Value) (T:TypeId) (C:Array Value) (j:Nat) (hj:C[j]? = some v):eo W.heap.size j v (W.alloc (.cells C T)):=⟨by rw[rV];exact hj,by simp[AP],by simp⟩
theorem EZ {G:Nat} {la lb:List UInt8} {W V:World} (h:kB G la lb W) (hb:aj W V):kB G la lb V:=⟨IT h.m hb h.lt,IT h.d hb h.lt,ZE h.t hb h.lt,cS h.lt hb.size⟩
theorem aal {l l':List UInt8} (h:Lib.byteCells l=Lib.byteCells l'):l=l':=by
 have hi:Function.Injective (fun b:UInt8=>Value.int .u8 (b.toNat:Int)):=fun x y e=>by
  injection e with _ e
  exact UInt8.toNat_inj.1 (Int.ofNat.inj e)
 exact List.map_inj_right (fun x y e=>hi e) |>.1 h
theorem P9 {G:Nat} {la lb lb':List UInt8} {W:World} (h:kB G la lb W) (h':kB G la lb' W) (e:lb.length=lb'.length):lb=lb':=by
 apply aal;apply A5;intro j;by_cases hj:j<(Lib.byteCells lb).length
 ·have hj':j<(Lib.byteCells lb').length:=by rw[my] at hj ⊢;omega
  have a:=h.d j _ (gD hj);have b:=h'.d j _ (gD hj');rw[gD hj,gD hj',<- a,<- b]
 rw[pJ (by omega),pJ (by rw[my] at hj ⊢;omega)]
theorem Qa {G k:Nat} {la ld le:List UInt8} {W:World} (h:kB G la ld W) (hla:la.length=768) (hld:ld.length=768) (hk:k<96) (he:ld.take (k*8)++cI la k++ld.drop (k*8+8)=le):kB G la le (W.setCells G (768+k*8) (Lib.byteCells (cI la k))):=by
 have hr:(cI la k).length=8:=BP hla hk;have hrb:(Lib.byteCells (cI la k)).length=8:=by rw[my,hr]
 have AB:(Lib.byteCells la).length=768:=by rw[my,hla]
 refine ⟨A6 h.m _ _ _ (by rw[AB];omega),?_,DW h.t _ _ _,by rw[yP];exact h.lt⟩;subst he;have h1:=zj h.d 0 (k*8);have h2:=zj h.d (k*8+8) 768;rw[BI] at h1 h2;have e1:(ld.drop 0).take (k*8)=ld.take (k*8):=rfl;have e2:(ld.drop (k*8+8)).take 768=ld.drop (k*8+8):=qx (by rw[jC];omega);rw[e1] at h1;rw[e2] at h2;have l1:(Lib.byteCells (ld.take (k*8))).length=k*8:=by rw[my,fO];omega
 rw[NA,NA];refine EM (EM (A6 h1 _ _ _ (by rw[l1];omega)) ?_) ?_
 ·rw[l1];exact A7 _ _ _ _ (by rw[hrb];exact zm h.t (by omega) (by omega))
 rw[bY,l1,hrb];exact A6 h2 _ _ _ (by rw[hrb];omega)
end
section
open Go.Shelf
attribute [local go_sem] Xc
def og (x y:Nat) (k:Nat):Bool:=decide (x<=k/\k<=y)
def jZ (x y m:Nat) (k:Nat):Bool:=decide (x<=k/\k<=y/\k<m)
structure kC (w:World) (G f1 f2 f3 x y:Nat) (la ld:List UInt8) (W:World):Prop where
 dl:kB G la ld W
 c1:eo f1 0 (.int .i64 x) W
 c2:eo f2 0 (.int .i64 y) W
 c3:eo f3 0 (.pointer (some ⟨G,0,none⟩)) W
 r0:eo (w.heap.size+1) 0 (.string ⟨#[]⟩) W
 r1:eo (w.heap.size+1) 1 (.string ⟨#[]⟩) W
 ah:aj w W
variable {w W V : World} {G f1 f2 f3 x y : Nat} {la ld le : List UInt8}
theorem kC.own {row:Option Nat} {B:Nat} (h:kC w G f1 f2 f3 x y la ld W) (hB:w.heap.size<=B) (hg:W.grownBy V row) (hr:∀ r,row=some r->B<=r/\∃ o:Obj,W.heap[r]? = some o/\o.isCells=false):kC w G f1 f2 f3 x y la ld V:=
  ⟨EY h.dl hg fun r e=>(hr r e).2,h.c1.own hg fun r e=>(hr r e).2,h.c2.own hg fun r e=>(hr r e).2,h.c3.own hg fun r e=>(hr r e).2,h.r0.own hg fun r e=>(hr r e).2,h.r1.own hg fun r e=>(hr r e).2,
   h.ah.grown hg h.ah.size fun r e=>bt hB (hr r e).1⟩
theorem kC.set {k:Nat} (h:kC w G f1 f2 f3 x y la ld W) (hn:f1≠G/\f2≠G/\f3≠G/\w.heap.size+1≠G/\w.heap.size<=G) (hla:la.length=768) (hld:ld.length=768) (hk:k<96) (he:ld.take (k*8)++cI la k++ld.drop (k*8+8)=le):kC w G f1 f2 f3 x y la le (W.setCells G (768+k*8) (Lib.byteCells (cI la k))):=⟨Qa h.dl hla hld hk he,h.c1.set hn.1 _,h.c2.set hn.2.1 _,h.c3.set hn.2.2.1 _,h.r0.set hn.2.2.2.1 _,h.r1.set hn.2.2.2.1 _,qF hn.2.2.2.2 _ _ _ h.ah⟩
theorem kC.drew (h:kC w G f1 f2 f3 x y la ld W):kC w G f1 f2 f3 x y la ld W.drew:=⟨⟨h.dl.m,h.dl.d,h.dl.t,h.dl.lt⟩,h.c1,h.c2,h.c3,h.r0,h.r1,h.ah.drew⟩
theorem I5 (B:Nat) (W:World) (g o:Nat):∀ (vs:List Value) (o:Nat) (V:World),KeepsFrom B W V->KeepsFrom B W (V.setCells g o vs)
 | [],_,_,h=>h
 | v :: r,o,V,h=>I5 B W g o r (o+1) _ (h.trans ((KeepsOthers.setCell _ _ _).from _))
theorem Qb (B:Nat) (W:World):KeepsFrom B W W.drew:=⟨aq _,fun _ _ _ h _=>h⟩
theorem Qc {x y k i:Nat} (hi:i≠k):jZ x y k i=jZ x y (k+1) i:=by simp only[jZ];congr 1;apply propext;omega
theorem E3 {k g:Nat}:∀ (vs:List Value),k≠g->∀ (o:Nat) (W:World) (_:Unit),(W.setCells g o vs).heap[k]? = W.heap[k]?
 | [],_,_,_,_=>rfl
 | v :: r,h,o,W,u=>(E3 r h (o+1) _ u).trans (Nv _ _ _ _ h)
theorem zu:(prog.info? 25).map (·.size)=some 2:=by kernel_rfl
theorem E5 {B:Nat} {w W:World} {a b:ByteArray} (h:gv B w a b W) (o:Obj):gv B w a b (W.alloc o):=h.below ((aK _ _).alloc (aq _) o)
theorem aam {a b:ByteArray} {w2 w3:World} (h1:gv w.heap.size w a b w2) (hG:((w2.alloc (.cells #[ad (x:Int)] 3)).alloc (.cells #[ad (y:Int)] 3)).heap.size<=G) (hD:kB G la ld w3) (b3:aj ((w2.alloc (.cells #[ad (x:Int)] 3)).alloc (.cells #[ad (y:Int)] 3)) w3):kC w G w2.heap.size (w2.heap.size+1) w3.heap.size x y la ld (w3.alloc (.cells #[aD G 0] 163))/\w2.heap.size≠G/\w2.heap.size+1≠G/\w3.heap.size≠G/\w.heap.size+1≠G/\w.heap.size<=G/\¬ w.heap.size+1=w3.heap.size:=by have hb:=(aK w3.heap.size w3).alloc (aq _) (.cells #[aD G 0] 163);have g1:=((xh w2 (ad (x:Int)) 3 #[ad (x:Int)] 0 rfl).alloc (.cells #[ad (y:Int)] 3)).below b3;have g2:=(xh (w2.alloc (.cells #[ad (x:Int)] 3)) (ad (y:Int)) 3 #[ad (y:Int)] 0 rfl).below b3;rw[AZ] at g2;have h3:=(E5 (E5 h1 (.cells #[ad (x:Int)] 3)) (.cells #[ad (y:Int)] 3)).below b3;have hs:=h1.lt;have hl:=hD.lt;simp only[AZ] at hG;refine ⟨⟨EZ hD hb,g1.below hb,g2.below hb,xh w3 _ _ _ 0 rfl,eo.below ⟨h3.r0,h3.f0,h3.lt⟩ hb,eo.below ⟨h3.r1,h3.f1,h3.lt⟩ hb,h3.ah.alloc h3.ah.size _⟩,?_,?_,?_,?_,?_,?_⟩ <;> (have:=h3.lt;omega)
theorem kC.below (h:kC w G f1 f2 f3 x y la ld W) (hb:aj W V):kC w G f1 f2 f3 x y la ld V:=⟨EZ h.dl hb,h.c1.below hb,h.c2.below hb,h.c3.below hb,h.r0.below hb,h.r1.below hb,h.ah.trans (hb.mono h.ah.size)⟩
structure nD (D:Nat) (w:World) (G f1 f2 f3 x y:Nat) (la ld:List UInt8) (W:World):Prop where
 fl:kC w G f1 f2 f3 x y la ld W
 dk:W.heap[D]? = some (.deferred (some []))
theorem nD.below {D:Nat} (h:nD D w G f1 f2 f3 x y la ld W) (hb:aj W V):nD D w G f1 f2 f3 x y la ld V:=⟨h.fl.below hb,(hb.block D (mY.1 h.dk).1).trans h.dk⟩
theorem nD.drew {D:Nat} (h:nD D w G f1 f2 f3 x y la ld W):nD D w G f1 f2 f3 x y la ld W.drew:=⟨h.fl.drew,h.dk⟩
theorem Qd {D:Nat} (h:nD D w G f1 f2 f3 x y la ld W) (hl:la.length=768):Calls prog 132 #[aD G 0] W fun e w'=>e=.returned (.string ⟨la.toArray⟩)/\nD D w G f1 f2 f3 x y la ld w':=(IV la G 0 W hl h.fl.dl.lt h.fl.dl.m).mono fun _ _ ⟨he,hb⟩=>⟨he,h.below hb⟩
theorem Qe {D:Nat} (h:nD D w G f1 f2 f3 x y la ld W) (hl:ld.length=768):Calls prog 132 #[aD G 768] W fun e w'=>e=.returned (.string ⟨ld.toArray⟩)/\nD D w G f1 f2 f3 x y la ld w':=(IV ld G 768 W hl h.fl.dl.lt h.fl.dl.d).mono fun _ _ ⟨he,hb⟩=>⟨he,h.below hb⟩
set_option maxRecDepth 100000 in
theorem aan (a b:ByteArray) (i n:Int) (w:World) (ha:a.size=768) (hb:b.size=768) (hi:0<=i) (hn:1<=n) (hin:i+n<=768):Calls prog 134 #[.agg #[.string a,.string b],.int .i64 i,.int .i64 n] w (aT (.agg #[.string a,.string ⟨(cK a.data.toList b.data.toList (og (i.toNat / 8) ((i.toNat+n.toNat-1) / 8))).toArray⟩]) w):=by
 obtain ⟨m,rfl⟩:∃ m:Nat,i=m:=⟨i.toNat,by omega⟩;obtain ⟨c,rfl⟩:∃ c:Nat,n=c:=⟨n.toNat,by omega⟩;have hla:a.data.toList.length=768:=by rw[<- cV];exact ha
 have hlb:b.data.toList.length=768:=by rw[<- cV];exact hb
 have hok:cT a b=true:=za ha hb;have yv:cZ a.size (m:Int) (c:Int)=true:=bF (by omega);have hF:=zb a b w;simp only[WN];obtain ⟨x,hx⟩:∃ x,m / 8=x:=⟨_,rfl⟩;obtain ⟨y,hy⟩:∃ y,(m+c-1) / 8=y:=⟨_,rfl⟩;rw[hx,hy];have q1:(m:Int) / 8=(x:Int):=by omega
 have q2:((m:Int)+(c:Int)-1) / 8=(y:Int):=by omega
 have q3:Int.tdiv (m:Int) 8=(x:Int):=by rw[aiP (by omega)];exact q1
 have q4:Int.tdiv ((m:Int)+(c:Int)-1) 8=(y:Int):=by rw[aiP (by omega)];exact q2
 have hxy:Hid (x<=y/\y<96):=show _/\_ by omega
 clear hx hy;have hn0:((c:Int) == 0)=false:=by simp;omega
 refine (H3 (n:=5)).1 ?_;refine callsIn_of_wp_marks func134 rfl trivial ?_ rfl;simp only[ntmps134,nh,dA,fB,Nat.reduceAdd,Nat.reduceSub,Nn,WZ,Xa,Xb,iX,nS];refine H6.2 ?_;go_wp2_with (first
  | (go_at_call 35;refine (YP _ _ (by omega) (by omega) hF).mono ?_;rintro e w1 ⟨rfl,h1⟩;have c0:=h1.c0;have c1:=h1.c1;have h2:=(E5 h1 (.cells #[.int .i64 x] 3));have h3:=E5 h2 (.cells #[.int .i64 y] 3);have d0:=h3.c0;have d1:=h3.c1)
  | (go_at_call 139;refine (tH _ _ _ _ (by unfold maxLen;omega)).mono ?_;rintro e w2 ⟨rfl,rfl⟩;rw[yv])
  | (go_at_call 129;refine (Py a b _ ha hb).mono ?_;rintro e w3 ⟨G,rfl,hG,hD,b3⟩;rename_i w2 _))
 obtain ⟨hfl,hn1⟩:=aam h1 hG hD b3;have hnf:=hn1.2.2.2.2.2;replace hn1:=(⟨hn1.1,hn1.2.1,hn1.2.2.1,hn1.2.2.2.1,hn1.2.2.2.2.1⟩:_/\_/\_/\_/\_);clear d0 d1 h2 h3 c0 c1;have hsz:w.heap.size<=(w3.alloc (.cells #[.pointer (some ⟨G,0,none⟩)] 163)).heap.size:=hfl.ah.size;obtain ⟨WL,DH⟩:∃ WL,w3.alloc (.cells #[.pointer (some ⟨G,0,none⟩)] 163)=WL:=⟨_,rfl⟩;rw[DH] at hfl hsz ⊢;clear DH h1 hG hD b3 hF;obtain ⟨f1,hf1⟩:∃ f1,w2.heap.size=f1:=⟨_,rfl⟩;obtain ⟨f3,hf3⟩:∃ f3,w3.heap.size=f3:=⟨_,rfl⟩;rw[hf1,hf3] at hfl hn1 ⊢;rw[hf3] at hnf;clear hf1 hf3;refine H6.1 (Pa (n:=5) (gf:=130) (N:=96) (bd:=#[.pointer (some ⟨G,0,none⟩)]) rfl (bh func130 (by kernel_rfl) rfl) rfl
  (fun k W=>kC w G f1 (f1+1) f3 x y a.data.toList (cK a.data.toList b.data.toList (jZ x y k)) W) (IZ G a.data.toList)
  (fun c W=>c=.exit 0/\kC w G f1 (f1+1) f3 x y a.data.toList (cK a.data.toList b.data.toList (og x y)) W)
  (fun k W V cI h hg hr=>h.own hsz hg hr) (fun k W V cI ⟨lb',h1,h2,h3⟩ hg hr=>⟨lb',h1,EY h2 hg (fun r e=>(hr r e).2),h3⟩) (fun c W V cI h hg hr=>⟨h.1,h.2.own hsz hg hr⟩)
  (by rw[EE _ _ hlb _ (fun k _=>by simp[jZ])];exact hfl)
  (fun l J Jx W a1 a2 a3 a4 a5 a6=>P8 5 G a.data.toList hla _ (fun k W h=>⟨_,ja _ _ _,h.dl⟩) (fun k W lb' hk h hl' hd' he=>by have e:=P9 hd' h.dl (by rw[hl',ja]);subst e;rw[Pb _ _ (jZ x y k) (jZ x y (k+1)) k hla (fun i _ hi=>Qc hi) hk (by simp[jZ]) he];exact h) l J Jx W a1 a2 a3 a4 a5 a6) ?round ?done ?stop)
 case round=>
  rintro l k W V hk hI -;clear hfl;have e1:(0:Int)<=(k:Int):=by omega
  have e2:(k:Int)<96:=by omega
  have c1:=hI.c1.1;have c2:=hI.c2.1;have c3:=hI.c3.1;by_cases h1:(y:Int)<(k:Int)
  ·have e:=wX a.data.toList b.data.toList (jZ x y k) (og x y) (fun i _=>by simp only[jZ,og];congr 1;apply propext;omega);gi_wp2
   refine ⟨trivial,?_⟩;gi_wp2
   exact ⟨Xd _ _,rfl,e ▸ hI⟩
  by_cases h2:(x:Int)<=(k:Int)
  ·obtain ⟨ld,hld⟩:∃ ld,cK a.data.toList b.data.toList (jZ x y k)=ld:=⟨_,rfl⟩;have hll:ld.length=768:=by rw[<- hld,ja]
   have he:Hid (ld.take (k*8)++cI a.data.toList k++ld.drop (k*8+8)=cK a.data.toList b.data.toList (jZ x y (k+1))):=by rw[<- hld];exact IP _ _ _ _ k hla hk (fun i _ hi=>Qc hi) (by simp only[jZ];exact bF (by omega))
   rw[hld] at hI;have hset:=(hI.drew).set hn1 hla hll hk he;have hrl:(Lib.byteCells (cI a.data.toList k)).length=8:=by rw[my,BP hla hk]
   have hrow:V.rangeAt G (k*8) (Lib.byteCells (cI a.data.toList k)):=by have:=zj hI.dl.m (k*8) 8;rw[BI,cR] at this;exact this
   have hfin:∀ a',IN WL.heap.size (fun k W=>kC w G f1 (f1+1) f3 x y a.data.toList (cK a.data.toList b.data.toList (jZ x y k)) W) (fun c W=>c=.exit 0/\kC w G f1 (f1+1) f3 x y a.data.toList (cK a.data.toList b.data.toList (og x y)) W) k V .normal a' (V.drew.setCells G (768+k*8) (Lib.byteCells (cI a.data.toList k))):=fun a'=>⟨I5 _ _ _ 0 _ _ _ (Qb _ _),hset⟩;let S:World->Prop:=fun W'=>eo f3 0 (.pointer (some ⟨G,0,none⟩)) W'/\W'.rangeAt G (k*8) (Lib.byteCells (cI a.data.toList k))/\W'.there G (768+k*8) 8
   have cQ:S V.drew:=⟨hI.c3,hrow,zm hI.dl.t (by omega) (by omega)⟩;gi_wp2
   refine Pg _ (fun A=>A.eval (.tmp 9)=.pointer (some ⟨f3,0,none⟩)/\A.eval (.tmp 10)=.int .i64 (k:Int)/\56<A.tmps.size) ⟨rfl,rfl,by simp⟩ ?_;rintro A ⟨h9,h10,hsz'⟩;have tm:A.tmps[9]?.getD undef=.pointer (some ⟨f3,0,none⟩):=by rw[<- Bb];exact h9
   have aiz:A.tmps[10]?.getD undef=.int .i64 (k:Int):=by rw[<- Bb];exact h10
   have oR:46<A.tmps.size:=by omega
   have oN:47<A.tmps.size:=by omega
   have oT:48<A.tmps.size:=by omega
   have s49:49<A.tmps.size:=by omega
   have pf:50<A.tmps.size:=by omega
   have oM:51<A.tmps.size:=by omega
   have pz:52<A.tmps.size:=by omega
   have s53:53<A.tmps.size:=by omega
   have oO:54<A.tmps.size:=by omega
   have ph:55<A.tmps.size:=by omega
   have oW:56<A.tmps.size:=by omega
   clear hsz';refine Pe (S:=S) (by simp) (by rintro ⟨_,_,h⟩;exact h.elim) (by kernel_rfl) ?_;refine bG (i:=1) (v:=.int .i64 (k:Int)) rfl (by kernel_rfl) (by kernel_rfl) (by kernel_rfl) (fun _ _ _ h=>h) (Or.inl ⟨by rfl,fun w' hS'=>?_⟩) cQ ?_
   ·simp only[ao,execOp,cC,cD,cB,cF,Nat.reduceEqDiff,cG,h9,h10,oR,oN,oT,s49,pf,oM,pz,s53,oO,ph,oW];go_simp
   simp only[ao];refine bG (i:=3) (v:=.int .i64 (k:Int)) rfl (by kernel_rfl) (by kernel_rfl) (by kernel_rfl) (fun _ _ _ h=>h) (Or.inl ⟨by rfl,fun w' hS'=>?_⟩) cQ ?_
   ·simp only[ao,execOp,cC,cD,cB,cF,Nat.reduceEqDiff,cG,h9,h10,oR,oN,oT,s49,pf,oM,pz,s53,oO,ph,oW];go_simp
   simp only[ao];refine bG (i:=0) (v:=.pointer (some ⟨G,0,none⟩)) rfl (by kernel_rfl) (by kernel_rfl) (by kernel_rfl) (fun _ _ _ h=>h) (Or.inl ⟨by rfl,fun w' hS'=>?_⟩) cQ ?_
   ·have hc:=hS'.1.1;simp only[ao,execOp,cC,cD,cB,cF,Nat.reduceEqDiff,cG,h9,h10,oR,oN,oT,s49,pf,oM,pz,s53,oO,ph,oW];go_simp
   simp only[ao];refine bG (i:=2) (v:=.pointer (some ⟨G,0,none⟩)) rfl (by kernel_rfl) (by kernel_rfl) (by kernel_rfl) (fun _ _ _ h=>h) (Or.inl ⟨by rfl,fun w' hS'=>?_⟩) cQ ?_
   ·have hc:=hS'.1.1;simp only[ao,execOp,cC,cD,cB,cF,Nat.reduceEqDiff,cG,h9,h10,oR,oN,oT,s49,pf,oM,pz,s53,oO,ph,oW];go_simp
   simp only[ao];refine bG (i:=4) (v:=.pointer (some ⟨G,0,none⟩)) rfl (by kernel_rfl) (by kernel_rfl) (by kernel_rfl) (fun _ _ _ h=>h) (Or.inl ⟨by rfl,fun w' hS'=>?_⟩) cQ ?_
   ·simp only[ao,execOp,cC,cD,cB,cF,Nat.reduceEqDiff,cG,h9,h10,oR,oN,oT,s49,pf,oM,pz,s53,oO,ph,oW];go_simp
   simp only[ao];refine bG (i:=5) (v:=.pointer (some ⟨G,0,none⟩)) rfl (by kernel_rfl) (by kernel_rfl) (by kernel_rfl) (fun _ _ _ h=>h) (Or.inl ⟨by rfl,fun w' hS'=>?_⟩) cQ ?_
   ·simp only[ao,execOp,cC,cD,cB,cF,Nat.reduceEqDiff,cG,h9,h10,oR,oN,oT,s49,pf,oM,pz,s53,oO,ph,oW];go_simp
   simp only[ao];refine bG (i:=6) (v:=.pointer (some ⟨G,k*8,none⟩)) rfl (by kernel_rfl) (by kernel_rfl) (by kernel_rfl) (fun _ _ _ h=>h) (Or.inl ⟨by rfl,fun w' hS'=>?_⟩) cQ ?_
   ·simp only[ao,execOp,cC,cD,cB,cF,Nat.reduceEqDiff,cG,h9,h10,oR,oN,oT,s49,pf,oM,pz,s53,oO,ph,oW];go_simp
   simp only[ao];refine bG (i:=7) (v:=.agg (Lib.byteCells (cI a.data.toList k)).toArray) rfl (by kernel_rfl) (by kernel_rfl) (by kernel_rfl) (fun _ _ _ h=>h) (yieldsIf_load_mid (by rfl) 166 (.tmp 52) rfl G (k*8) (by simp only[cC,cD,cB,cF,Nat.reduceEqDiff,cG,h9,h10,oR,oN,oT,s49,pf,oM,pz,s53,oO,ph,oW]) _ _ (fun w' hS'=>hS'.2.1) underlying166 rfl (by rw[EJ,hrl])) cQ ?_;simp only[ao];refine bG (i:=8) (v:=.pointer (some ⟨G,0,none⟩)) rfl (by kernel_rfl) (by kernel_rfl) (by kernel_rfl) (fun _ _ _ h=>h) (Or.inl ⟨by rfl,fun w' hS'=>?_⟩) cQ ?_
   ·simp only[ao,execOp,cC,cD,cB,cF,Nat.reduceEqDiff,cG,h9,h10,oR,oN,oT,s49,pf,oM,pz,s53,oO,ph,oW];go_simp
   simp only[ao];refine bG (i:=9) (v:=.pointer (some ⟨G,768,none⟩)) rfl (by kernel_rfl) (by kernel_rfl) (by kernel_rfl) (fun _ _ _ h=>h) (Or.inl ⟨by rfl,fun w' hS'=>?_⟩) cQ ?_
   ·simp only[ao,execOp,cC,cD,cB,cF,Nat.reduceEqDiff,cG,h9,h10,oR,oN,oT,s49,pf,oM,pz,s53,oO,ph,oW];go_simp
   simp only[ao];refine bG (i:=10) (v:=.pointer (some ⟨G,768+k*8,none⟩)) rfl (by kernel_rfl) (by kernel_rfl) (by kernel_rfl) (fun _ _ _ h=>h) (Or.inl ⟨by rfl,fun w' hS'=>?_⟩) cQ ?_
   ·simp only[ao,execOp,cC,cD,cB,cF,Nat.reduceEqDiff,cG,h9,h10,oR,oN,oT,s49,pf,oM,pz,s53,oO,ph,oW];go_simp
   simp only[ao];refine BH (i:=11) (by kernel_rfl) rfl rfl 166 (.tmp 56) (.tmp 53) rfl G (768+k*8) (Lib.byteCells (cI a.data.toList k)) (by simp only[cC,cD,cB,cF,Nat.reduceEqDiff,cG,h9,h10,oR,oN,oT,s49,pf,oM,pz,s53,oO,ph,oW]) (by simp only[cC,cD,cB,cF,Nat.reduceEqDiff,cG,h9,h10,oR,oN,oT,s49,pf,oM,pz,s53,oO,ph,oW]) (by rw[hrl];exact cQ.2.2) (by rw[EJ,hrl]) (DR _)
    ⟨cQ.1.set hn1.2.2.1 _,A6 cQ.2.1 _ _ _ (by rw[hrl];omega),DW cQ.2.2 _ _ _⟩ (by kernel_rfl) ?_
   exact ⟨(hfin A).1,(hfin A).2⟩
  have e:=wX a.data.toList b.data.toList (jZ x y k) (jZ x y (k+1)) (fun i _=>by simp only[jZ];congr 1;apply propext;omega);gi_wp2
  rw[e] at hI;exact ⟨Xd _ _,hI⟩
 case done=>
  rintro D W hD hI hK;have hlt1:=hfl.r0.2.2;clear hfl;rw[wX _ _ (jZ x y 96) (og x y) (fun i hi=>by simp only[jZ,og];congr 1;apply propext;omega)] at hI;go_wp2;rename_i K hKr;obtain ⟨ld,hld⟩:∃ ld,cK a.data.toList b.data.toList (og x y)=ld:=⟨_,rfl⟩;have hll:ld.length=768:=by rw[<- hld,ja]
  rw[hld] at hI;have hself:(⟨a.data.toList.toArray⟩:ByteArray)=a:=yL a;have gC:nD D w G f1 (f1+1) f3 x y a.data.toList ld W.drew:=nD.drew ⟨hI,hK⟩;refine zg _ (fun A=>A.eval (.tmp 9)=.pointer (some ⟨f3,0,none⟩)/\A.eval (.tmp 6)=.pointer (some ⟨w.heap.size+1,0,none⟩)/\65<A.tmps.size/\A.defers=[{ target:=.collected D,args:=#[] }]) ⟨rfl,rfl,by simp,rfl⟩ ?_;rintro A ⟨h9,h6,hsz',hdf⟩;have tm:A.tmps[9]?.getD undef=.pointer (some ⟨f3,0,none⟩):=by rw[<- Bb];exact h9
  have iq:57<A.tmps.size:=by omega
  have ig:58<A.tmps.size:=by omega
  have iu:59<A.tmps.size:=by omega
  have im:60<A.tmps.size:=by omega
  have iv:61<A.tmps.size:=by omega
  have iw:62<A.tmps.size:=by omega
  have gY:63<A.tmps.size:=by omega
  have il:64<A.tmps.size:=by omega
  have ie:65<A.tmps.size:=by omega
  clear hsz';have cQ:eo f3 0 (.pointer (some ⟨G,0,none⟩)) W.drew:=gC.fl.c3;refine Xe ?_;refine et (S:=eo f3 0 (.pointer (some ⟨G,0,none⟩))) (by kernel_rfl) ?_;refine bG (i:=0) (v:=.pointer (some ⟨G,0,none⟩)) rfl (by kernel_rfl) (by kernel_rfl) (by kernel_rfl) (fun _ _ _ h=>h) (Or.inl ⟨by rfl,fun w' hS'=>?_⟩) cQ ?_
  ·have hc:=hS'.1;simp only[ao,execOp,cC,cD,cB,cF,Nat.reduceEqDiff,cG,h9,h6,iq,ig,iu,im,iv,iw,gY,il,ie];go_simp
  simp only[ao];refine bG (i:=4) (v:=.pointer (some ⟨G,0,none⟩)) rfl (by kernel_rfl) (by kernel_rfl) (by kernel_rfl) (fun _ _ _ h=>h) (Or.inl ⟨by rfl,fun w' hS'=>?_⟩) cQ ?_
  ·have hc:=hS'.1;simp only[ao,execOp,cC,cD,cB,cF,Nat.reduceEqDiff,cG,h9,h6,iq,ig,iu,im,iv,iw,gY,il,ie];go_simp
  simp only[ao];refine bG (i:=1) (v:=.pointer (some ⟨G,0,none⟩)) rfl (by kernel_rfl) (by kernel_rfl) (by kernel_rfl) (fun _ _ _ h=>h) (Or.inl ⟨by rfl,fun w' hS'=>?_⟩) cQ ?_
  ·simp only[ao,execOp,cC,cD,cB,cF,Nat.reduceEqDiff,cG,h9,h6,iq,ig,iu,im,iv,iw,gY,il,ie];go_simp
  simp only[ao];refine bG (i:=5) (v:=.pointer (some ⟨G,0,none⟩)) rfl (by kernel_rfl) (by kernel_rfl) (by kernel_rfl) (fun _ _ _ h=>h) (Or.inl ⟨by rfl,fun w' hS'=>?_⟩) cQ ?_
  ·simp only[ao,execOp,cC,cD,cB,cF,Nat.reduceEqDiff,cG,h9,h6,iq,ig,iu,im,iv,iw,gY,il,ie];go_simp
  simp only[ao];refine bG (i:=2) (v:=.pointer (some ⟨G,0,none⟩)) rfl (by kernel_rfl) (by kernel_rfl) (by kernel_rfl) (fun _ _ _ h=>h) (Or.inl ⟨by rfl,fun w' hS'=>?_⟩) cQ ?_
  ·simp only[ao,execOp,cC,cD,cB,cF,Nat.reduceEqDiff,cG,h9,h6,iq,ig,iu,im,iv,iw,gY,il,ie];go_simp
  simp only[ao];refine bG (i:=6) (v:=.pointer (some ⟨G,768,none⟩)) rfl (by kernel_rfl) (by kernel_rfl) (by kernel_rfl) (fun _ _ _ h=>h) (Or.inl ⟨by rfl,fun w' hS'=>?_⟩) cQ ?_
  ·simp only[ao,execOp,cC,cD,cB,cF,Nat.reduceEqDiff,cG,h9,h6,iq,ig,iu,im,iv,iw,gY,il,ie];go_simp
  simp only[ao];refine ze (i:=3) (by kernel_rfl) rfl rfl (.tmp 59) _ rfl (.pointer (some ⟨G,0,none⟩)) (by simp only[cC,cD,cB,cF,Nat.reduceEqDiff,cG,h9,h6,iq,ig,iu,im,iv,iw,gY,il,ie]) (bh func132 (by kernel_rfl) rfl) ((Qd gC hla).mono ?_);rintro e w4 ⟨rfl,h4⟩;refine ⟨_,rfl,h4.fl.c3,?_⟩;simp only[ao];refine ze (i:=7) (by kernel_rfl) rfl rfl (.tmp 63) _ rfl (.pointer (some ⟨G,768,none⟩)) (by simp only[cC,cD,cB,cF,Nat.reduceEqDiff,cG,h9,h6,iq,ig,iu,im,iv,iw,gY,il,ie]) (bh func132 (by kernel_rfl) rfl) ((Qe h4 hll).mono ?_);rintro e w5 ⟨rfl,h5⟩;refine ⟨_,rfl,h5.fl.c3,?_⟩;simp only[ao];refine bG (i:=8) (v:=.agg #[.string ⟨a.data.toList.toArray⟩,.string ⟨ld.toArray⟩]) rfl (by kernel_rfl) (by kernel_rfl) (by kernel_rfl) (fun _ _ _ h=>h) (Or.inl ⟨by rfl,fun w' hS'=>?_⟩) h5.fl.c3 ?_
  ·simp only[ao,execOp,cC,cD,cB,cF,Nat.reduceEqDiff,cG,h9,h6,iq,ig,iu,im,iv,iw,gY,il,ie];go_simp
  simp only[ao];have hth:w5.there (w.heap.size+1) 0 2:=fun j hj=>by
   match j,hj with
   | 0,_=>exact ⟨by rw[h5.fl.r0.1];rfl,h5.fl.r0.2.1⟩
   | 1,_=>exact ⟨by rw[h5.fl.r1.1];rfl,h5.fl.r1.2.1⟩
  refine BH (i:=9) (by kernel_rfl) rfl rfl 25 (.tmp 6) (.tmp 65) rfl (w.heap.size+1) 0 [.string ⟨a.data.toList.toArray⟩,.string ⟨ld.toArray⟩] (by simp only[cC,cD,cB,cF,Nat.reduceEqDiff,cG,h9,h6,iq,ig,iu,im,iv,iw,gY,il,ie]) (by simp only[cC,cD,cB,cF,Nat.reduceEqDiff,cG,h9,h6,iq,ig,iu,im,iv,iw,gY,il,ie]) hth zu (by simp[Value.oneCell']) (h5.fl.c3.set (fun e=>hnf e.symm) _) (by kernel_rfl) ?_;refine Xf ?_;have hh:(w5.setCells (w.heap.size+1) 0 [.string ⟨a.data.toList.toArray⟩,.string ⟨ld.toArray⟩]).heap[D]? = some (.deferred (some [])):=(E3 _ (by omega) _ _ ()).trans h5.dk;have pd:=A7 w5 (w.heap.size+1) 0 [.string ⟨a.data.toList.toArray⟩,.string ⟨ld.toArray⟩] hth;have hbel:=qF (bP w.heap.size) [.string ⟨a.data.toList.toArray⟩,.string ⟨ld.toArray⟩] 0 _ h5.fl.ah;rw[hself] at hh pd hbel ⊢;obtain ⟨W6,rG⟩:∃ W6,w5.setCells (w.heap.size+1) 0 [.string a,.string ⟨ld.toArray⟩]=W6:=⟨_,rfl⟩;rw[rG] at hh pd hbel ⊢;refine hKr _ _ ?_;refine zg _ (fun A2=>A2.eval (.tmp 6)=.pointer (some ⟨w.heap.size+1,0,none⟩)/\A2.defers=[{ target:=.collected D,args:=#[] }]) ⟨by simp only[ao,zh,cC,cD,cB,cF,Nat.reduceEqDiff,cG,h9,h6,iq,ig,iu,im,iv,iw,gY,il,ie],by simp only[ao,zh,IS];exact hdf⟩ ?_;rintro A2 ⟨k6,CN⟩;have hr':(W6.putObj D (.deferred none)).rangeAt (w.heap.size+1) 0 [.string a,.string ⟨ld.toArray⟩]:=fun j v hj=>Ba (pd j v hj) (Xg _ D _) (fun r e=>by cases e;exact ⟨_,hh,rfl⟩);have hlv:=NB (P:=prog) _ _ _ 25 _ _ hr' underlying25 rfl zu;have hbb:=hbel.trans (belowK_b (w:=w) (aq _) W6 D _ (.deferred none) (by omega) hh rfl rfl);clear hKr h4 h5 hth pd hbel gC cQ;refine wp_ret ?_;refine IQ CN hh ⟨.agg #[.string a,.string ⟨ld.toArray⟩],?_,?_⟩
  ·rw[EK rfl];show ((asAddr (A2.eval (.tmp 6))).run prog _).andThen _=_
   rw[k6];simp only[asAddr,H4,H5];exact hlv
  exact ⟨by rw[<- hld],hbb⟩
 case stop=>
 rintro D c W hD ⟨rfl,hI⟩ hK;have hlt1:=hfl.r0.2.2;clear hfl;refine H6.2 ?_;go_wp2;rename_i K hKr;obtain ⟨ld,hld⟩:∃ ld,cK a.data.toList b.data.toList (og x y)=ld:=⟨_,rfl⟩;have hll:ld.length=768:=by rw[<- hld,ja]
 rw[hld] at hI;have hself:(⟨a.data.toList.toArray⟩:ByteArray)=a:=yL a;have gC:nD D w G f1 (f1+1) f3 x y a.data.toList ld W.drew:=nD.drew ⟨hI,hK⟩;refine zg _ (fun A=>A.eval (.tmp 9)=.pointer (some ⟨f3,0,none⟩)/\A.eval (.tmp 6)=.pointer (some ⟨w.heap.size+1,0,none⟩)/\65<A.tmps.size/\A.defers=[{ target:=.collected D,args:=#[] }]) ⟨rfl,rfl,by simp,rfl⟩ ?_;rintro A ⟨h9,h6,hsz',hdf⟩;have tm:A.tmps[9]?.getD undef=.pointer (some ⟨f3,0,none⟩):=by rw[<- Bb];exact h9
 have iq:57<A.tmps.size:=by omega
 have ig:58<A.tmps.size:=by omega
 have iu:59<A.tmps.size:=by omega
 have im:60<A.tmps.size:=by omega
 have iv:61<A.tmps.size:=by omega
 have iw:62<A.tmps.size:=by omega
 have gY:63<A.tmps.size:=by omega
 have il:64<A.tmps.size:=by omega
 have ie:65<A.tmps.size:=by omega
 clear hsz';have cQ:eo f3 0 (.pointer (some ⟨G,0,none⟩)) W.drew:=gC.fl.c3;refine Xe ?_;refine et (S:=eo f3 0 (.pointer (some ⟨G,0,none⟩))) (by kernel_rfl) ?_;refine bG (i:=0) (v:=.pointer (some ⟨G,0,none⟩)) rfl (by kernel_rfl) (by kernel_rfl) (by kernel_rfl) (fun _ _ _ h=>h) (Or.inl ⟨by rfl,fun w' hS'=>?_⟩) cQ ?_
 ·have hc:=hS'.1;simp only[ao,execOp,cC,cD,cB,cF,Nat.reduceEqDiff,cG,h9,h6,iq,ig,iu,im,iv,iw,gY,il,ie];go_simp
 simp only[ao];refine bG (i:=4) (v:=.pointer (some ⟨G,0,none⟩)) rfl (by kernel_rfl) (by kernel_rfl) (by kernel_rfl) (fun _ _ _ h=>h) (Or.inl ⟨by rfl,fun w' hS'=>?_⟩) cQ ?_
 ·have hc:=hS'.1;simp only[ao,execOp,cC,cD,cB,cF,Nat.reduceEqDiff,cG,h9,h6,iq,ig,iu,im,iv,iw,gY,il,ie];go_simp
 simp only[ao];refine bG (i:=1) (v:=.pointer (some ⟨G,0,none⟩)) rfl (by kernel_rfl) (by kernel_rfl) (by kernel_rfl) (fun _ _ _ h=>h) (Or.inl ⟨by rfl,fun w' hS'=>?_⟩) cQ ?_
 ·simp only[ao,execOp,cC,cD,cB,cF,Nat.reduceEqDiff,cG,h9,h6,iq,ig,iu,im,iv,iw,gY,il,ie];go_simp
 simp only[ao];refine bG (i:=5) (v:=.pointer (some ⟨G,0,none⟩)) rfl (by kernel_rfl) (by kernel_rfl) (by kernel_rfl) (fun _ _ _ h=>h) (Or.inl ⟨by rfl,fun w' hS'=>?_⟩) cQ ?_
 ·simp only[ao,execOp,cC,cD,cB,cF,Nat.reduceEqDiff,cG,h9,h6,iq,ig,iu,im,iv,iw,gY,il,ie];go_simp
 simp only[ao];refine bG (i:=2) (v:=.pointer (some ⟨G,0,none⟩)) rfl (by kernel_rfl) (by kernel_rfl) (by kernel_rfl) (fun _ _ _ h=>h) (Or.inl ⟨by rfl,fun w' hS'=>?_⟩) cQ ?_
 ·simp only[ao,execOp,cC,cD,cB,cF,Nat.reduceEqDiff,cG,h9,h6,iq,ig,iu,im,iv,iw,gY,il,ie];go_simp
 simp only[ao];refine bG (i:=6) (v:=.pointer (some ⟨G,768,none⟩)) rfl (by kernel_rfl) (by kernel_rfl) (by kernel_rfl) (fun _ _ _ h=>h) (Or.inl ⟨by rfl,fun w' hS'=>?_⟩) cQ ?_
 ·simp only[ao,execOp,cC,cD,cB,cF,Nat.reduceEqDiff,cG,h9,h6,iq,ig,iu,im,iv,iw,gY,il,ie];go_simp
 simp only[ao];refine ze (i:=3) (by kernel_rfl) rfl rfl (.tmp 59) _ rfl (.pointer (some ⟨G,0,none⟩)) (by simp only[cC,cD,cB,cF,Nat.reduceEqDiff,cG,h9,h6,iq,ig,iu,im,iv,iw,gY,il,ie]) (bh func132 (by kernel_rfl) rfl) ((Qd gC hla).mono ?_);rintro e w4 ⟨rfl,h4⟩;refine ⟨_,rfl,h4.fl.c3,?_⟩;simp only[ao];refine ze (i:=7) (by kernel_rfl) rfl rfl (.tmp 63) _ rfl (.pointer (some ⟨G,768,none⟩)) (by simp only[cC,cD,cB,cF,Nat.reduceEqDiff,cG,h9,h6,iq,ig,iu,im,iv,iw,gY,il,ie]) (bh func132 (by kernel_rfl) rfl) ((Qe h4 hll).mono ?_);rintro e w5 ⟨rfl,h5⟩;refine ⟨_,rfl,h5.fl.c3,?_⟩;simp only[ao];refine bG (i:=8) (v:=.agg #[.string ⟨a.data.toList.toArray⟩,.string ⟨ld.toArray⟩]) rfl (by kernel_rfl) (by kernel_rfl) (by kernel_rfl) (fun _ _ _ h=>h) (Or.inl ⟨by rfl,fun w' hS'=>?_⟩) h5.fl.c3 ?_
 ·simp only[ao,execOp,cC,cD,cB,cF,Nat.reduceEqDiff,cG,h9,h6,iq,ig,iu,im,iv,iw,gY,il,ie];go_simp
 simp only[ao];have hth:w5.there (w.heap.size+1) 0 2:=fun j hj=>by
  match j,hj with
  | 0,_=>exact ⟨by rw[h5.fl.r0.1];rfl,h5.fl.r0.2.1⟩
  | 1,_=>exact ⟨by rw[h5.fl.r1.1];rfl,h5.fl.r1.2.1⟩
 refine BH (i:=9) (by kernel_rfl) rfl rfl 25 (.tmp 6) (.tmp 65) rfl (w.heap.size+1) 0 [.string ⟨a.data.toList.toArray⟩,.string ⟨ld.toArray⟩] (by simp only[cC,cD,cB,cF,Nat.reduceEqDiff,cG,h9,h6,iq,ig,iu,im,iv,iw,gY,il,ie]) (by simp only[cC,cD,cB,cF,Nat.reduceEqDiff,cG,h9,h6,iq,ig,iu,im,iv,iw,gY,il,ie]) hth zu (by simp[Value.oneCell']) (h5.fl.c3.set (fun e=>hnf e.symm) _) (by kernel_rfl) ?_;refine Xf ?_;have hh:(w5.setCells (w.heap.size+1) 0 [.string ⟨a.data.toList.toArray⟩,.string ⟨ld.toArray⟩]).heap[D]? = some (.deferred (some [])):=(E3 _ (by omega) _ _ ()).trans h5.dk;have pd:=A7 w5 (w.heap.size+1) 0 [.string ⟨a.data.toList.toArray⟩,.string ⟨ld.toArray⟩] hth;have hbel:=qF (bP w.heap.size) [.string ⟨a.data.toList.toArray⟩,.string ⟨ld.toArray⟩] 0 _ h5.fl.ah;rw[hself] at hh pd hbel ⊢;obtain ⟨W6,rG⟩:∃ W6,w5.setCells (w.heap.size+1) 0 [.string a,.string ⟨ld.toArray⟩]=W6:=⟨_,rfl⟩;rw[rG] at hh pd hbel ⊢;refine hKr _ _ ?_;refine zg _ (fun A2=>A2.eval (.tmp 6)=.pointer (some ⟨w.heap.size+1,0,none⟩)/\A2.defers=[{ target:=.collected D,args:=#[] }]) ⟨by simp only[ao,zh,cC,cD,cB,cF,Nat.reduceEqDiff,cG,h9,h6,iq,ig,iu,im,iv,iw,gY,il,ie],by simp only[ao,zh,IS];exact hdf⟩ ?_;rintro A2 ⟨k6,CN⟩;have hr':(W6.putObj D (.deferred none)).rangeAt (w.heap.size+1) 0 [.string a,.string ⟨ld.toArray⟩]:=fun j v hj=>Ba (pd j v hj) (Xg _ D _) (fun r e=>by cases e;exact ⟨_,hh,rfl⟩);have hlv:=NB (P:=prog) _ _ _ 25 _ _ hr' underlying25 rfl zu;have hbb:=hbel.trans (belowK_b (w:=w) (aq _) W6 D _ (.deferred none) (by omega) hh rfl rfl);clear hKr h4 h5 hth pd hbel gC cQ;refine wp_ret ?_;refine IQ CN hh ⟨.agg #[.string a,.string ⟨ld.toArray⟩],?_,?_⟩
 ·rw[EK rfl];show ((asAddr (A2.eval (.tmp 6))).run prog _).andThen _=_
  rw[k6];simp only[asAddr,H4,H5];exact hlv
 exact ⟨by rw[<- hld],hbb⟩
end
section
def zv (x y:Nat) (k:Nat):Bool:=decide (x<=k/\k<=y)
def oh (x y m:Nat) (k:Nat):Bool:=decide (x<=k/\k<=y/\k<m)
theorem aao {x y k i:Nat} (hi:i≠k):oh x y k i=oh x y (k+1) i:=by simp only[oh];congr 1;apply propext;omega
variable {B : Nat} {w W : World} {a b : ByteArray}
theorem I6 (h:gv B w a b W) (x:ByteArray):gv B w a x (W.setCell ⟨B,1,none⟩ (.string x)):=
  ⟨(fJ _ _ _ _ (by simp)).trans h.c0,rW _ _ _ h.c1,(fJ _ _ _ _ (by simp)).trans h.r0,(fJ _ _ _ _ (by simp)).trans h.r1,
   by rw[iI];exact h.f0,by rw[iI];exact h.f1,by rw[iI];exact h.g0,by rw[iI];exact h.g1,
   by have:=h.lt;simpa [World.setCell] using this,h.ah.setCell (p:=⟨B,1,none⟩) (aq _) _⟩
theorem Qf (n:Int) (h0 : -9223372036854775808<=n) (h1:n<=9223372036854775807):(Lit.int .i64 n).wf=true:=by simp[Lit.wf,IntKind.min,IntKind.max,IntKind.signed,IntKind.bits];omega
theorem Qg (a b:ByteArray) (k:Nat) (w:World) (ha:a.size=768) (hb:b.size=768) (hk:k<96):Calls prog 71 #[.agg #[.string a,.string b],ad (k:Int)] w (aT (.agg #[.string a,.string (bJ b ((k:Int)*8) (aO a ((k:Int)*8) 8))]) w):=by
 have hF:=zb a b w;have wk:(Lit.int .i64 ((k:Int)*8)).wf=true:=Qf _ (by omega) (by omega);have hp:(aO a ((k:Int)*8) 8).size=8:=by rw[EF a k ha hk];show (cI a.data.toList k).toArray.size=8;rw[nh,cI,fO,jC,<- cV];omega
 obtain ⟨p,eZ⟩:∃ p,aO a ((k:Int)*8) 8=p:=⟨_,rfl⟩;rw[eZ] at hp ⊢;go_enter func71,ntmps71;go_wp2;obtain ⟨W,hW⟩:∃ W,(w.alloc (.cells #[.string a,.string b] 25)).alloc (.cells #[.string ⟨#[]⟩,.string ⟨#[]⟩] 25)=W:=⟨_,rfl⟩;rw[hW] at hF ⊢;have c0:=hF.c0;have c1:=hF.c1;have g1:=hF.g1;have gC:=hF.drew;have hwr:IntKind.i64.wrap ((k:Int)*8)=(k:Int)*8:=by rw[se];omega
 have hpt:Hid (∀ W,Calls prog 78 #[.string a,ad ((k:Int)*8),ad 8] W fun e w'=>e=.returned (.string p)/\W=w'):=fun W=>(np _ _ _ _ (by unfold maxLen;omega) wk rfl).mono fun _ _ h=>⟨by rw[h.1,eZ],h.2.symm⟩;clear eZ hW;go_region_with (first
  | (go_at_call 78;refine (hpt.out _).mono ?_;rintro e w3 ⟨rfl,rfl⟩)
  | (go_at_call 60;refine (OO (B:=w.heap.size) (w:=w) (a:=a) (b:=b) _ _ _ (by omega) (by omega) gC).mono ?_;rintro e w4 ⟨rfl,h4⟩;have z0:=h4.c1;have z1:=h4.g1))
 all_goals
  have h5:=I6 h4 (bJ b ((k:Int)*8) p);have y0:=h5.c0;have y1:=h5.c1;have y2:=h5.r0;have y3:=h5.r1;have y4:=h5.f0;have y5:=h5.f1;go_wp2;have q:=qO (a:=a) (b:=bJ b ((k:Int)*8) p) y2 y3;exact bL (v:=.agg #[.string a,.string (bJ b ((k:Int)*8) p)]) (by simp[results,results71,go_sem,q.1,q.2]) rfl ⟨rfl,h5.done _ _⟩
end
def vk (a b:ByteArray) (i n:Int):Bool:=cT a b && (cZ a.size i n && !decide (n=0))
def mf (a b:ByteArray) (i n:Int):ByteArray:=if vk a b i n then ⟨(cK a.data.toList b.data.toList (zv (i.toNat / 8) ((i.toNat+n.toNat-1) / 8))).toArray⟩ else b
theorem Qh {a b:ByteArray} {i n:Int} (h:vk a b i n=true):(a.size=768/\b.size=768)/\0<=i/\1<=n/\i+n<=768:=by simp only[vk,cj,lV,qy] at h;have h1:=nW h.1;have h2:=si h.2.1;have h3:=h.2.2;refine ⟨h1,?_⟩;omega
theorem I7 (la lb:List UInt8) (p:Nat->Bool):(⟨(cK la lb p).toArray⟩:ByteArray).size=768:=by
 show (cK la lb p).toArray.size=768
 rw[nh,ja]
theorem I8 (a b:ByteArray) (i n:Int) (w:World) (ha:a.size<=281474976710656) (hb:b.size<=281474976710656) (wi:(Lit.int .i64 i).wf=true) (wn:(Lit.int .i64 n).wf=true):Calls prog 77 #[.agg #[.string a,.string b],ad i,ad n] w (aT (.agg #[.string a,.string (mf a b i n)]) w):=by
 have hF:=zb a b w;have hm:a.size<=maxLen:=by unfold maxLen;omega
 by_cases hok:cT a b=true
 ·by_cases h1n:n<1
  ·have e:mf a b i n=b:=by
    rw[mf,aG];intro h;have:=Qh h;omega
   rw[e];go_enter func77,ntmps77;go_wp2_with (go_at_call 25;refine (uW _ _ ha hb hF).mono ?_;rintro e w1 ⟨rfl,h1⟩;obtain ⟨d0,d1,d2,d3,d4,d5,d6,d7,d8,d9⟩:=id h1);have q:=qO (a:=a) (b:=b) d2 d3;exact bL (v:=.agg #[.string a,.string b]) (by simp[results,results77,go_sem,q.1,q.2]) rfl ⟨rfl,h1.done _ _⟩
  by_cases yv:cZ a.size i n=true
  ·have hgo:vk a b i n=true:=by rw[vk,hok,yv,bq (by omega:¬ n=0)];rfl
   obtain ⟨⟨yI,GR⟩,hi,hn,hin⟩:=Qh hgo;have e:mf a b i n=⟨(cK a.data.toList b.data.toList (zv (i.toNat / 8) ((i.toNat+n.toNat-1) / 8))).toArray⟩:=aF hgo;rw[e];clear e hgo;have hps:((aO a i n).size:Int)=n:=by rw[aO,aF yv,lU];omega
   obtain ⟨m,rfl⟩:∃ m:Nat,i=m:=⟨i.toNat,by omega⟩;obtain ⟨c,rfl⟩:∃ c:Nat,n=c:=⟨n.toNat,by omega⟩;simp only[WN];have hpn:(((aO a (m:Int) (c:Int)).size:Int) != (c:Int))=false:=by rw[hps];simp
   have hlb:b.data.toList.length=768:=by rw[<- cV];exact GR
   obtain ⟨x,hx⟩:∃ x,m / 8=x:=⟨_,rfl⟩;obtain ⟨y,hy⟩:∃ y,(m+c-1) / 8=y:=⟨_,rfl⟩;rw[hx,hy];have hx':(m:Int) / 8=(x:Int):=by omega
   have hy':((m:Int)+(c:Int)-1) / 8=(y:Int):=by omega
   have hxy:x<=y:=by omega
   have hy95:y<=95:=by omega
   have hpt:Hid (∀ W,Calls prog 78 #[.string a,ad (m:Int),ad (c:Int)] W fun e w'=>e=.returned (.string (aO a (m:Int) (c:Int)))/\W=w'):=fun W=>(np _ _ _ _ hm wi wn).mono fun _ _ h=>⟨h.1,h.2.symm⟩;clear hps yv;go_enter func77,ntmps77;go_wp2_with (first
    | (go_at_call 25;refine (uW _ _ ha hb hF).mono ?_;rintro e w1 ⟨rfl,h1⟩;have c0:=h1.c0;have c1:=h1.c1)
    | (go_at_call 78;refine (hpt.out _).mono ?_;rintro e w' ⟨rfl,rfl⟩))
   go_loopw [7] (fun t w'=>∃ k:Nat,x<=k/\k<=y+1/\t=ad k/\gv w.heap.size w a ⟨(cK a.data.toList b.data.toList (oh x y k)).toArray⟩ w') (fun t _=>y+1-(intOf t).toNat);case atStart=>
    refine ⟨x,aq _,by omega,rfl,?_⟩;rw[EE _ _ hlb (oh x y x) (fun k _=>bq (by omega)),show (⟨b.data.toList.toArray⟩:ByteArray)=b from yL b]
    exact h1
   case round=>
   obtain ⟨k,hxk,Wz,rfl,jx⟩:=hrel;have z0:=jx.c0;have z1:=jx.c1;clear h1 c0 c1 hF;by_cases hlt:k<=y
   ·have e1:(k:Int)<=(y:Int):=by omega
    have HM:Hid (bJ ⟨(cK a.data.toList b.data.toList (oh x y k)).toArray⟩ ((k:Int)*8) (aO a ((k:Int)*8) 8)=⟨(cK a.data.toList b.data.toList (oh x y (k+1))).toArray⟩):=Pc a b.data.toList (oh x y k) (oh x y (k+1)) k yI (by omega) (fun i _ hi=>aao hi) (bF (by omega));have hbs:=I7 a.data.toList b.data.toList (oh x y k);obtain ⟨bk,hbk⟩:∃ bk:ByteArray,(⟨(cK a.data.toList b.data.toList (oh x y k)).toArray⟩:ByteArray)=bk:=⟨_,rfl⟩;rw[hbk] at jx z1 HM hbs;have ahn:k<96:=by omega
    clear hbk hpt;go_wp2_with (go_at_call 71;refine (Qg a bk k _ yI hbs ahn).mono ?_;rintro e w2 ⟨rfl,b2⟩;have h4:=jx.below b2;have v0:=h4.c0;have v1:=h4.c1;have v2:=h4.g0;have v3:=h4.g1);have h5:=I6 (h4.GA a) (bJ bk ((k:Int)*8) (aO a ((k:Int)*8) 8));go_roundw;case rel=>exact ⟨k+1,by omega,by omega,by go_num,by rw[<- HM.out];exact h5⟩
    case measure=>simp[intOf];omega
   obtain rfl:k=y+1:=by omega
   have hmc:=wX a.data.toList b.data.toList (oh x y (y+1)) (zv x y) (fun i _=>by simp only[oh,zv];congr 1;apply propext;omega);rw[hmc] at jx z1;obtain ⟨bk,hbk⟩:∃ bk:ByteArray,(⟨(cK a.data.toList b.data.toList (zv x y)).toArray⟩:ByteArray)=bk:=⟨_,rfl⟩;rw[hbk] at jx z1;have HB:Hid ((⟨(cK a.data.toList b.data.toList (zv x y)).toArray⟩:ByteArray)=bk):=hbk;have d2:=jx.r0;have d3:=jx.r1;have d4:=jx.f0;have d5:=jx.f1;clear hbk hmc hpt;go_wp2;have q:=qO (a:=a) (b:=bk) d2 d3;exact bL (v:=.agg #[.string a,.string bk]) (by simp[results,results77,go_sem,q.1,q.2]) rfl ⟨by rw[HB.out],jx.done _ _⟩
  have Vd:cZ a.size i n=false:=by simpa using yv
  have e:mf a b i n=b:=by rw[mf,vk,Vd,dH,dU];rfl
  rw[e];have hps:((aO a i n).size:Int)=0:=by rw[aO,Vd];rfl
  have hpn:(((aO a i n).size:Int) != n)=true:=by rw[hps];simp;omega
  have hpt:Hid (∀ W,Calls prog 78 #[.string a,ad i,ad n] W fun e w'=>e=.returned (.string (aO a i n))/\W=w'):=fun W=>(np _ _ _ _ hm wi wn).mono fun _ _ h=>⟨h.1,h.2.symm⟩;clear hps yv;go_enter func77,ntmps77;go_wp2_with (first
   | (go_at_call 25;refine (uW _ _ ha hb hF).mono ?_;rintro e w1 ⟨rfl,h1⟩;obtain ⟨d0,d1,d2,d3,d4,d5,d6,d7,d8,d9⟩:=id h1)
   | (go_at_call 78;refine (hpt.out _).mono ?_;rintro e w' ⟨rfl,rfl⟩))
  have q:=qO (a:=a) (b:=b) d2 d3;exact bL (v:=.agg #[.string a,.string b]) (by simp[results,results77,go_sem,q.1,q.2]) rfl ⟨rfl,h1.done _ _⟩
 have hok':cT a b=false:=by simpa using hok
 have e:mf a b i n=b:=by rw[mf,vk,hok'];rfl
 rw[e];go_enter func77,ntmps77;go_wp2_with (go_at_call 25;refine (uW _ _ ha hb hF).mono ?_;rintro e w1 ⟨rfl,h1⟩;obtain ⟨d0,d1,d2,d3,d4,d5,d6,d7,d8,d9⟩:=id h1);have q:=qO (a:=a) (b:=b) d2 d3;exact bL (v:=.agg #[.string a,.string b]) (by simp[results,results77,go_sem,q.1,q.2]) rfl ⟨rfl,h1.done _ _⟩
def kD (w:World) (a:Option Addr) (len:Nat):Prop:=∀ k,k<len->∃ b off z,a=some ⟨b,off,none⟩/\b<w.heap.size/\0<=z/\z<256/\w.cell? ⟨b,off+k,none⟩=some (.int .u8 z)
theorem kD.below {w w':World} {a:Option Addr} {len:Nat} (h:kD w a len) (hb:Below w.heap.size w w'):kD w' a len:=fun k hk=>by obtain ⟨b,off,z,ha,hlt,h0,h1,hc⟩:=h k hk;exact ⟨b,off,z,ha,cS hlt hb.size,h0,h1,(hb.cell (p:=⟨b,off+k,none⟩) hlt).trans hc⟩
structure E7 (w:World) (c:Nat) (a:Option Addr) (len cap:Nat):Prop where
 lt:c<w.heap.size
 cells:∃ (k:Nat) (h:Int),k<=len/\w.cell? ⟨c,0,none⟩=some (.slice a len cap)/\w.cell? ⟨c,1,none⟩=some (.int .i64 (k:Int))/\w.cell? ⟨c,2,none⟩=some (.int .i64 h)
 Gx:w.frozen? ⟨c,1,none⟩=false
 He:w.frozen? ⟨c,2,none⟩=false
structure cA (w0 w:World) (c:Nat) (a:Option Addr) (len cap:Nat):Prop where
 ah:Below w0.heap.size w0 w
 new:w0.heap.size<=c
 cur:E7 w c a len cap
theorem E7.Av {w w':World} {c:Nat} {a:Option Addr} {len cap:Nat} (h:E7 w c a len cap) (hz:c<w'.heap.size) (hb:w'.heap[c]? = w.heap[c]?):E7 w' c a len cap:=by have e:∀ j,w'.cell? ⟨c,j,none⟩=w.cell? ⟨c,j,none⟩:=fun j=>uM (a:=⟨c,j,none⟩) hb;have f:∀ j,w'.frozen? ⟨c,j,none⟩=w.frozen? ⟨c,j,none⟩:=fun j=>yO (a:=⟨c,j,none⟩) hb;obtain ⟨k,x,hk,c0,c1,c2⟩:=h.cells;exact ⟨hz,⟨k,x,hk,by rw[e];exact c0,by rw[e];exact c1,by rw[e];exact c2⟩,by rw[f];exact h.Gx,by rw[f];exact h.He⟩
theorem cA.below {w0 w w':World} {c:Nat} {a:Option Addr} {len cap:Nat} (h:cA w0 w c a len cap) (hb:Below w.heap.size w w'):cA w0 w' c a len cap:=⟨h.ah.trans (hb.mono h.ah.size),h.new,h.cur.Av (cS h.cur.lt hb.size) (hb.block c h.cur.lt)⟩
theorem cA.grown {w0 w w':World} {c g:Nat} {a:Option Addr} {len cap:Nat} (h:cA w0 w c a len cap) (hg:w.grownBy w' (some g)) (hne:c≠g) (hnew:w0.heap.size<=g):cA w0 w' c a len cap:=by refine ⟨⟨hg.os.trans h.ah.os,hg.tape.trans h.ah.tape,hg.output.trans h.ah.output,bt h.ah.size hg.size,fun k hk=>?_⟩,h.new,h.cur.Av (cS h.cur.lt hg.size) (hg.block c h.cur.lt (fun e=>hne (jT e)))⟩;rw[hg.block k (cS hk h.ah.size) (fun e=>by have:=jT e;omega)];exact h.ah.block k hk
theorem E8 (w:World) (row:Option Nat):w.grownBy w row:=⟨rfl,rfl,rfl,aq _,fun _ _ _=>rfl⟩
theorem pU {w w1 w2:World} {row:Option Nat} (h:w.grownBy w1 row) (h':w1.grownBy w2 row):w.grownBy w2 row:=
 ⟨h'.os.trans h.os,h'.tape.trans h.tape,h'.output.trans h.output,bt h.size h'.size,fun k hk hr=>by rw[h'.block k (cS hk h.size) hr];exact h.block k hk hr⟩
theorem I9 {w w1:World} {row:Option Nat} (h:w.grownBy w1 row) (n:Nat):w.grownBy (w1.drewN n) row:=⟨h.os,h.tape,h.output,h.size,h.block⟩
theorem om {w w1 w2:World} {row:Option Nat} (h:w.grownBy w1 row) (hb:Below w1.heap.size w1 w2):w.grownBy w2 row:=
 ⟨hb.os.trans h.os,hb.tape.trans h.tape,hb.output.trans h.output,bt h.size hb.size,fun k hk hr=>by rw[hb.block k (cS hk h.size)];exact h.block k hk hr⟩
theorem BQ {w w1:World} {g j:Nat} (h:w.grownBy w1 (some g)) (v:Value):w.grownBy (w1.setCell ⟨g,j,none⟩ v) (some g):=by
 refine ⟨h.os,h.tape,h.output,?_,fun k hk hr=>?_⟩;·simpa using h.size
 have hne:k≠g:=fun e=>hr (by rw[e]);rw[<- h.block k hk hr];exact Nv w1 ⟨g,j,none⟩ v k hne
theorem cA.Vk {w0 w:World} {c:Nat} {a:Option Addr} {len cap:Nat} (h:cA w0 w c a len cap) (x:Int):cA w0 (w.setCell ⟨c,2,none⟩ (.int .i64 x)) c a len cap:=by
 obtain ⟨k,y,hk,c0,c1,c2⟩:=h.cur.cells;refine ⟨h.ah.setCell (p:=⟨c,2,none⟩) h.new _,h.new,⟨by simpa using h.cur.lt,⟨k,x,hk,?_,?_,?_⟩,?_,?_⟩⟩;·rw[fJ _ _ _ _ (fun e=>by cases e)];exact c0
 ·rw[fJ _ _ _ _ (fun e=>by cases e)];exact c1
 ·exact rW _ _ _ c2
 ·rw[iI];exact h.cur.Gx
 rw[iI];exact h.cur.He
theorem cA.ahR {w0 w:World} {c:Nat} {a:Option Addr} {len cap:Nat} (h:cA w0 w c a len cap) (x:Int) (n:Nat) (hx:x=(n:Int)) (hn:n<=len):cA w0 (w.setCell ⟨c,1,none⟩ (.int .i64 x)) c a len cap:=by
 subst hx;obtain ⟨k,y,hk,c0,c1,c2⟩:=h.cur.cells;refine ⟨h.ah.setCell (p:=⟨c,1,none⟩) h.new _,h.new,⟨by simpa using h.cur.lt,⟨n,y,hn,?_,?_,?_⟩,?_,?_⟩⟩;·rw[fJ _ _ _ _ (fun e=>by cases e)];exact c0
 ·exact rW _ _ _ c1
 ·rw[fJ _ _ _ _ (fun e=>by cases e)];exact c2
 ·rw[iI];exact h.cur.Gx
 rw[iI];exact h.cur.He
theorem cA.drewN {w0 w:World} {c:Nat} {a:Option Addr} {len cap:Nat} (h:cA w0 w c a len cap) (n:Nat):cA w0 (w.drewN n) c a len cap:=h.below ⟨rfl,rfl,rfl,aq _,fun _ _=>rfl⟩
end Go.Proofs.YtidmmopnkjbjoaaGreatDoor
