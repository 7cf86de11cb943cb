/- Joined texts. -/
import Derived.Test.YtidmmopnkjbjoaaGreatDoorJpZC
import Derived.Test.YtidmmopnkjbjoaaGreatDoorJpZD
set_option linter.unusedVariables false
set_option linter.unusedSimpArgs false
set_option maxRecDepth 10000
set_option maxHeartbeats 16000000
namespace Go.Proofs.YtidmmopnkjbjoaaGreatDoor
open ChangeShapes WideShapes ChangeAt RowKit
open Go.Proofs.Tryz
section
def eE (G:Nat) (a:Option Addr) (ds:List ak) (ss:Nat->aA):Prop:=(ds ≠ []->∀ g o,a=some ⟨g,o,none⟩->g≠G)/\∀ j,j<ds.length->((au ds j).pg ≠ []->∀ g o,(ss j).a1=some ⟨g,o,none⟩->g≠G)/\((au ds j).po ≠ []->∀ g o,(ss j).a2=some ⟨g,o,none⟩->g≠G)/\((au ds j).fr ≠ []->∀ g o,(ss j).a3=some ⟨g,o,none⟩->g≠G)
structure lH (G:Nat) (W W':World):Prop where
 size:W.heap.size<=W'.heap.size
 block:∀ k,k<W.heap.size->k≠G->W'.heap[k]? = W.heap[k]?
section
variable {G : Nat} {W W' : World} {a : Option Addr} {ds : List ak} {ss : Nat → aA}
theorem cN (W:World) (G j:Nat) (v:Value):lH G W (W.setCell ⟨G,j,none⟩ v):=⟨by simp[World.setCell],fun k hk hn=>by unfold World.setCell;simp[NG,Ne.symm hn]⟩
theorem lH.trans {W'':World} (h:lH G W W') (k:lH G W' W''):lH G W W'':=⟨bt h.size k.size,fun i hi hn=>(k.block i (cS hi h.size) hn).trans (h.block i hi hn)⟩
theorem ui {zs:List Int} {p:Option Addr} (h:aI W p zs) (hb:lH G W W') (hn:zs ≠ []->∀ g o,p=some ⟨g,o,none⟩->g≠G):aI W' p zs:=by
 by_cases h0:zs=[];·exact Or.inl h0
 rcases h with h | ⟨b,off,e,hlt,hc⟩;·exact absurd h h0
 refine Or.inr ⟨b,off,e,cS hlt hb.size,fun j hj=>?_⟩;rw[uM (a:=⟨b,off+j,none⟩) (hb.block b hlt (hn h0 b off e))];exact hc j hj
theorem kj (h:aZ W a ds ss) (hb:lH G W W') (hc:eE G a ds ss):aZ W' a ds ss:=by
 refine ⟨?_,fun j hj=>?_⟩
 ·by_cases h0:ds=[];·exact Or.inl h0
  rcases h.row with h1 | ⟨b,off,e,hlt,hcc⟩;·exact absurd h1 h0
  refine Or.inr ⟨b,off,e,cS hlt hb.size,fun j hj=>?_⟩;have hcell:∀ o v,W.cell? ⟨b,o,none⟩=some v->W'.cell? ⟨b,o,none⟩=some v:=fun o v hv=>by rw[uM (a:=⟨b,o,none⟩) (hb.block b hlt (hc.1 h0 b off e))];exact hv
  obtain ⟨y0,y1,y2,y3,y4,y5,y6,y7⟩:=hcc j hj;exact ⟨hcell _ _ y0,hcell _ _ y1,hcell _ _ y2,hcell _ _ y3,hcell _ _ y4,hcell _ _ y5,hcell _ _ y6,hcell _ _ y7⟩
 obtain ⟨c1,c2,c3⟩:=hc.2 j hj;have:=h.sub j hj;exact ⟨ui this.r1 hb c1,ui this.r2 hb c2,ui this.r3 hb c3⟩
theorem mu (h:fV W a ds) (hb:lH G W W') (hc:eE G a ds ss):fV W' a ds:=fun h0 b o e=>
 have q:=h h0 b o e;⟨cS q.1 hb.size,fun j=>(yO (a:=⟨b,j,none⟩) (hb.block b q.1 (hc.1 h0 b o e))).trans (q.2 j)⟩
theorem Ae (h:aZ W a ds ss) (hG:W.heap.size<=G):eE G a ds ss:=by
 have row:∀ {zs:List Int} {p:Option Addr},aI W p zs->zs ≠ []->∀ g o,p=some ⟨g,o,none⟩->g≠G:=fun hr h0 g o e=>by
  rcases hr with hr | ⟨b,off,e',hlt,_⟩;·exact absurd hr h0
  rw[e] at e';cases e';omega
 refine ⟨fun h0 g o e=>?_,fun j hj=>⟨row (h.sub j hj).r1,row (h.sub j hj).r2,row (h.sub j hj).r3⟩⟩;rcases h.row with h1 | ⟨b,off,e',hlt,_⟩;·exact absurd h1 h0
 rw[e] at e';cases e';omega
theorem ri {p:Nat} {a2:Option Addr} {B:Nat} (h:eE G a ds ss) (hp:p<ds.length) (hf:∀ g o,a2=some ⟨g,o,none⟩->B<=g) (hG:G<B):eE G a2 (ds.eraseIdx p) (fun j=>if j<p then ss j else ss (j+1)):=by
 refine ⟨fun _ g o e=>by have:=hf g o e;omega,fun j hj=>?_⟩;rw[D8,aF hp] at hj;rw[xN];by_cases hjp:j<p
 ·simp only[aF hjp];exact h.2 j (by omega)
 simp only[aG hjp];exact h.2 (j+1) (by omega)
end
theorem Kq {base G:Nat} {g:Option Nat} {W:World} {a:Option Addr} {zs:List Int} (h:lF base g W a zs) (hG:G<base):zs ≠ []->∀ x o,a=some ⟨x,o,none⟩->x≠G:=fun h0 x o e=>by
 rcases h with h | ⟨b,e',hb,_⟩;·exact absurd h h0
 rw[e] at e';cases e';omega
theorem vT {base G c:Nat} {ds:List ak} {ss:Nat->aA} {a:Option Addr} {W:World} (h:gN base ds ds.length ss a c W) (hG:G<base):eE G a ds ss:=⟨fun _ g o e=>by have:=(h.own.lt g (by rw[e];rfl)).1;omega,fun j hj=>⟨Kq (h.sub j hj).r1 hG,Kq (h.sub j hj).r2 hG,Kq (h.sub j hj).r3 hG⟩⟩
theorem Kr {base c:Nat} {ds:List ak} {ss:Nat->aA} {a:Option Addr} {W:World} (h:gN base ds ds.length ss a c W):ds.length<=c/\c<=maxLen:=by
 rcases h.own.2 with ⟨h0,h1⟩ | ⟨g,cc,cur,hv,_,_,hle,hm,_⟩
 ·simp at h0;omega
 simp at hv;omega
theorem To {base c:Nat} {ds:List ak} {ss:Nat->aA} {a:Option Addr} {W:World} (h:gN base ds ds.length ss a c W):fV W a ds:=F8 h.own ds
def iR (a:Option Addr) (ds:List ak) (ss:Nat->aA):Prop:=∀ g o,a=some ⟨g,o,none⟩->∀ j,j<ds.length->((au ds j).pg ≠ []->∀ x y,(ss j).a1=some ⟨x,y,none⟩->x≠g)/\((au ds j).po ≠ []->∀ x y,(ss j).a2=some ⟨x,y,none⟩->x≠g)/\((au ds j).fr ≠ []->∀ x y,(ss j).a3=some ⟨x,y,none⟩->x≠g)
theorem Ks {base g o:Nat} {q:Option Nat} {W:World} {p:Option Addr} {zs:List Int} (h:lF base q W p zs) (hq:q=some g):zs ≠ []->∀ x y,p=some ⟨x,y,none⟩->x≠g:=fun h0 x y e=>by
 rcases h with h | ⟨b,e',-,hn,-⟩;·exact absurd h h0
 rw[e] at e';cases e';rintro rfl;exact hn hq
theorem Tp {base c:Nat} {ds:List ak} {ss:Nat->aA} {a:Option Addr} {W:World} (h:gN base ds ds.length ss a c W):iR a ds ss:=fun g o e j hj=>by
 have hq:(Value.slice a ds.length c).ownBlock=some g:=by rw[e];rfl
 exact ⟨Ks (o:=o) (h.sub j hj).r1 hq,Ks (o:=o) (h.sub j hj).r2 hq,Ks (o:=o) (h.sub j hj).r3 hq⟩
theorem Gd {W:World} {p:Option Addr} {zs:List Int} (h:aI W p zs):zs ≠ []->∀ x y,p=some ⟨x,y,none⟩->x<W.heap.size:=fun h0 x y e=>by
 rcases h with h | ⟨b,off,e',hlt,-⟩;·exact absurd h h0
 rw[e] at e';cases e';exact hlt
theorem Kt {W:World} {a a2:Option Addr} {ds:List ak} {ss:Nat->aA} {p:Nat} (h:aZ W a ds ss) (hp:p<ds.length) (hf:∀ g o,a2=some ⟨g,o,none⟩->W.heap.size<=g):iR a2 (ds.eraseIdx p) (fun j=>if j<p then ss j else ss (j+1)):=fun g o e j hj=>by
 have hg:=hf g o e;rw[D8,aF hp] at hj;rw[xN];have key:∀ i,i<ds.length->((au ds i).pg ≠ []->∀ x y,(ss i).a1=some ⟨x,y,none⟩->x≠g)/\((au ds i).po ≠ []->∀ x y,(ss i).a2=some ⟨x,y,none⟩->x≠g)/\((au ds i).fr ≠ []->∀ x y,(ss i).a3=some ⟨x,y,none⟩->x≠g):=fun i hi=>
  have s:=h.sub i hi;⟨fun h0 x y e=>by have:=Gd s.r1 h0 x y e;omega,fun h0 x y e=>by have:=Gd s.r2 h0 x y e;omega,fun h0 x y e=>by have:=Gd s.r3 h0 x y e;omega⟩
 by_cases hjp:j<p
 ·simp only[aF hjp];exact key j (by omega)
 simp only[aG hjp];exact key (j+1) (by omega)
theorem Tq (k:aL):∀ j,bV k.ck k.ds j+(br k j).2.length=j
 | 0=>rfl
 | j+1=>by
  have ih:=Tq k j;by_cases h:(au k.ds j).un<=k.ck
  ·rw[bV,aF h,br,aF h];simp;omega
  ·rw[bV,aG h,br,aG h];omega
def Af:Value->Nat
 | .slice _ n _=>n
 | _=>0
def Tr (R:aL × List Int) (w:World) (e:Ending) (w':World):Prop:=∃ a' c' ss ac cc,e=.returned (.tuple #[aU R.1 a' c',.slice ac R.2.length cc])/\aZ w' a' R.1.ds ss/\iR a' R.1.ds ss/\(∀ G,G<w.heap.size->eE G a' R.1.ds ss)/\aI w' ac R.2/\aj w w'/\fV w' a' R.1.ds
theorem Ku {R:aL × List Int} {w W:World} {a ac:Option Addr} {c cc:Nat} {ss:Nat->aA} (h1:aZ W a R.1.ds ss) (h0:iR a R.1.ds ss) (hg:∀ G,G<w.heap.size->eE G a R.1.ds ss) (h2:aI W ac R.2) (h3:aj w W) (h4:fV W a R.1.ds):Tr R w (.returned (.tuple #[aU R.1 a c,.slice ac R.2.length cc])) W:=⟨a,c,ss,ac,cc,rfl,h1,h0,hg,h2,h3,h4⟩
structure jO (w:World) (K:aL) (cs:List Int) (a:Option Addr) (c:Nat) (ss:Nat->aA) (a':Option Addr) (cap':Nat) (W:World):Prop where
 box:av w.heap.size (cU K a c) W
 az:av (w.heap.size+1) gV W
 ls:aZ W a K.ds ss
 k0:eE w.heap.size a K.ds ss
 k1:eE (w.heap.size+1) a K.ds ss
 kc:∀ x,(Value.slice a' cs.length cap').ownBlock=some x->eE x a K.ds ss
 cap:K.ds.length<=c/\c<=maxLen
 buf:bo (w.heap.size+2) W a' cs.length cap' cs
 ah:aj w W
 ap:iR a K.ds ss
 kl:∀ G,G<w.heap.size->eE G a K.ds ss
 nf:fV W a K.ds
variable {w W W' : World} {K : aL} {cs : List Int} {a a' : Option Addr} {c cap' : Nat} {ss : Nat → aA}
theorem jO.below (h:jO w K cs a c ss a' cap' W) (hb:aj W W'):jO w K cs a c ss a' cap' W':=⟨h.box.below hb,h.az.below hb,h.ls.below hb,h.k0,h.k1,h.kc,h.cap,h.buf.below hb,h.ah.trans (hb.mono h.ah.size),h.ap,h.kl,vN h.nf hb⟩
theorem oH {base n B j:Nat} {v:Value} {zs:List Int} (h:bo base W a' n cap' zs) (hB:B<base):bo base (W.setCell ⟨B,j,none⟩ v) a' n cap' zs:=⟨h.1,H7 h.2 (a:=⟨B,j,none⟩) hB v⟩
theorem ae5 (h:jO w K cs a c ss a' cap' W) (x:Int):jO w ⟨K.mem,K.ay,K.ds,x⟩ cs a c ss a' cap' (W.setCell ⟨w.heap.size,3,none⟩ (ad x)):=⟨h.box.set 3 (ad x),h.az.aR (by omega) 3 _,kj h.ls (cN _ _ _ _) h.k0,h.k0,h.k1,h.kc,h.cap,oH h.buf (by omega),h.ah.setCell (p:=⟨w.heap.size,3,none⟩) (aq _) _,h.ap,h.kl,mu h.nf (cN _ _ _ _) h.k0⟩
theorem Kv {K2:aL} {a2:Option Addr} {c2:Nat} {s2:Nat->aA} (hb:av w.heap.size (cU K a c) W) (ha:av (w.heap.size+1) gV W) (hl:aZ W a2 K2.ds s2) (h0:eE w.heap.size a2 K2.ds s2) (h1:eE (w.heap.size+1) a2 K2.ds s2) (hc:∀ x,(Value.slice a' cs.length cap').ownBlock=some x->eE x a2 K2.ds s2) (hcap:K2.ds.length<=c2/\c2<=maxLen) (hbuf:bo (w.heap.size+2) W a' cs.length cap' cs) (hbel:aj w W) (hap:iR a2 K2.ds s2) (hkl:∀ G,G<w.heap.size->eE G a2 K2.ds s2) (hnf:fV W a2 K2.ds):jO w K2 cs a2 c2 s2 a' cap' ((((W.setCell ⟨w.heap.size,0,none⟩ (.string K2.mem)).setCell ⟨w.heap.size,1,none⟩ (.string K2.ay)).setCell ⟨w.heap.size,2,none⟩ (.slice a2 K2.ds.length c2)).setCell ⟨w.heap.size,3,none⟩ (ad K2.ck)):=
 ⟨hb.eU _ _ _ _,(((ha.aR (by omega) _ _).aR (by omega) _ _).aR (by omega) _ _).aR (by omega) _ _,kj hl ((((cN _ _ _ _).trans (cN _ _ _ _)).trans (cN _ _ _ _)).trans (cN _ _ _ _)) h0,h0,h1,hc,hcap,oH (oH (oH (oH hbuf (by omega)) (by omega)) (by omega)) (by omega),
  (((hbel.setCell (p:=⟨w.heap.size,0,none⟩) (aq _) _).setCell (p:=⟨w.heap.size,1,none⟩) (aq _) _).setCell (p:=⟨w.heap.size,2,none⟩) (aq _) _).setCell (p:=⟨w.heap.size,3,none⟩) (aq _) _,hap,hkl,mu hnf ((((cN _ _ _ _).trans (cN _ _ _ _)).trans (cN _ _ _ _)).trans (cN _ _ _ _)) h0⟩
theorem Ts {V:World} {x:Int} {g2 cap2 H:Nat} (h:jO w K cs a c ss a' cap' W) (b2:bo (w.heap.size+2) V (some ⟨g2,0,none⟩) (cs.length+1) cap2 (cs ++ [x])) (hb2:Below (w.heap.size+2) W V) (hgr:(W.alloc (.cells #[ad x] 3)).grownBy V (Value.slice a' cs.length cap').ownBlock) (hor:(Value.slice a' cs.length cap').ownBlock=some g2\/g2=H+1) (hH:W.heap.size=H):jO w K (cs ++ [x]) a c ss (some ⟨g2,0,none⟩) cap2 V:=by
 have hla:=h.ls.below (aB W (.cells #[ad x] 3));obtain ⟨G,hG1,hG2⟩:∃ G,lH G (W.alloc (.cells #[ad x] 3)) V/\eE G a K.ds ss:=by
  cases ho:(Value.slice a' cs.length cap').ownBlock with
  | none=>
   rw[ho] at hgr;exact ⟨V.heap.size,⟨hgr.size,fun k hk _=>hgr.block k hk (by simp)⟩,Ae hla hgr.size⟩
  | some y=>
   rw[ho] at hgr;exact ⟨y,⟨hgr.size,fun k hk hn=>hgr.block k hk (by simpa using hn)⟩,h.kc y ho⟩
 refine ⟨fQ h.box hb2 (by omega),fQ h.az hb2 (by omega),kj hla hG1 hG2,h.k0,h.k1,fun y hy=>?_,h.cap,?_,h.ah.trans (hb2.mono (by omega)),h.ap,h.kl,mu (vN h.nf (aB W _)) hG1 hG2⟩
 ·have hy':g2=y:=by simpa [Value.ownBlock] using hy
  subst hy';rcases hor with e | e;·exact h.kc _ e
  exact Ae h.ls (by omega)
 rw[bY];exact b2
theorem ae6 (k:aL) (a0:Option Addr) (c0:Nat) (s0:Nat->aA) (w:World) (hz:rf k) (hL:aZ w a0 k.ds s0):Calls prog 56 #[aU k a0 c0] w (Tr (CA k) w):=by
 have hnn:k.ds.length<=1048576:=by have:=hz.t;omega
 have t0:=tX w k a0 c0;have z0:w.heap.size+2=((w.alloc (cJ k a0 c0)).alloc df).heap.size:=by simp
 obtain ⟨W0,hW0⟩:∃ W0,(w.alloc (cJ k a0 c0)).alloc df=W0:=⟨_,rfl⟩;rw[hW0] at t0 z0;have n0:=aB W0 (.cells #[] 3);have t1:=t0.below n0;have B1:=fq (base:=w.heap.size+2) W0 (by omega);have hcp:=Aa k a0 c0 s0 (W0.alloc (.cells #[] 3)) hnn hz.small (hL.below t1.ah);have z1:(W0.alloc (.cells #[] 3)).heap.size=w.heap.size+2+1:=by rw[z0];simp
 have HK:Hid (∀ a1 c1 ss W,aZ W a1 k.ds ss->_):=fun a1 c1 ss W h=>(xK k) ▸ xJ k a1 c1 ss W hz.m hz.d hz.t (hz.fits ss) h;have c0':=t1.box.c0;have c1':=t1.box.c1;have c2':=t1.box.c2;have c3':=t1.box.c3;have Dm:Hid (∀ w1 a1 c1 ss,gN ((W0.alloc (.cells #[] 3)).heap.size+3) k.ds k.ds.length ss a1 c1 w1->aj (W0.alloc (.cells #[] 3)) w1->zY w k a0 c0 w1/\jO w k [] a1 c1 ss (some ⟨W0.heap.size,0,none⟩) 0 ((((w1.setCell ⟨w.heap.size,0,none⟩ (.string k.mem)).setCell ⟨w.heap.size,1,none⟩ (.string k.ay)).setCell ⟨w.heap.size,2,none⟩ (.slice a1 k.ds.length c1)).setCell ⟨w.heap.size,3,none⟩ (ad k.ck))):=fun w1 a1 c1 ss h hb=>by
  have t2:=t1.below hb;refine ⟨t2,Kv (K:=k) (a:=a0) (c:=c0) t2.box t2.az h.eN (vT h (by omega)) (vT h (by omega)) (fun x hx=>?_) (Kr h) (B1.below hb) t2.ah (Tp h) (fun G hG=>vT h (by omega)) (To h)⟩;have hx':W0.heap.size=x:=by simpa [Value.ownBlock] using hx
  exact vT h (by omega)
 unfold vL at hcp;clear hL t0;cases hok:fj k with
 | false=>
  rw[show CA k=(k,[]) from aG (by rw[hok];decide)]
  rw[hok] at HK;clear hok;go_enter func56,ntmps56;go_wp2_with (first
   | (go_at_call 20;refine hcp.mono ?_;rintro e w1 ⟨a1,c1,ss,rfl,l1,b1⟩;obtain ⟨t2,u1⟩:=Dm.out w1 a1 c1 ss l1 b1;have x0:=t2.box.c0;have x1:=t2.box.c1;have x2:=t2.box.c2;have x3:=t2.box.c3;have g0:=t2.box.f0;have g1:=t2.box.f1;have g2:=t2.box.f2;have g3:=t2.box.f3;have v0:=u1.box.c0;have v1:=u1.box.c1;have v2:=u1.box.c2;have v3:=u1.box.c3)
   | (go_at_call 9;refine (HK.out _ _ _ _ u1.ls).mono ?_;rintro e w2 ⟨rfl,b2⟩;have u2:=u1.below b2;have d0:=u2.box.c0;have d1:=u2.box.c1;have d2:=u2.box.c2;have d3:=u2.box.c3;have y0:=u2.az.c0;have y1:=u2.az.c1;have y2:=u2.az.c2;have y3:=u2.az.c3;have f0:=u2.az.f0;have f1:=u2.az.f1;have f2:=u2.az.f2;have f3:=u2.az.f3))
  have q1:=u2.az.eU (.string k.mem) (.string k.ay) (.slice a1 k.ds.length c1) (ad k.ck);have bb:=(((cN w2 (w.heap.size+1) 0 (.string k.mem)).trans (cN _ (w.heap.size+1) 1 (.string k.ay))).trans (cN _ (w.heap.size+1) 2 (.slice a1 k.ds.length c1))).trans (cN _ (w.heap.size+1) 3 (ad k.ck));have ll:=kj u2.ls bb u2.k1;have mm:=(((u2.ah.setCell (p:=⟨w.heap.size+1,0,none⟩) (bP _) (.string k.mem)).setCell (p:=⟨w.heap.size+1,1,none⟩) (bP _) (.string k.ay)).setCell (p:=⟨w.heap.size+1,2,none⟩) (bP _) (.slice a1 k.ds.length c1)).setCell (p:=⟨w.heap.size+1,3,none⟩) (bP _) (ad k.ck);have e0:=q1.c0;have e1:=q1.c1;have e2:=q1.c2;have e3:=q1.c3;exact bL (v:=.tuple #[aU k a1 c1,bg W0.heap.size 0 0]) (by simp[results,results56,go_sem,e0,e1,e2,e3]) rfl (Ku (R:=(k,[])) ll u2.ap u2.kl (Or.inl rfl) mm (mu u2.nf bb u2.k1))
 | true=>
  have hR:=Ka hok;have Dp:=SO hR;have hck:=aey hok;rw[show CA k=br (aY k) k.ds.length from aF hok]
  rw[hok] at HK;have hdl:(aY k).ds=k.ds:=rfl;have HB:Hid (∀ j a c ss W,j<k.ds.length->(au k.ds j).un<=(aY k).ck->aZ W a (br (aY k) j).1.ds ss->(br (aY k) j).1.ds.length<=c->c<=maxLen->Calls prog 119 #[aU (br (aY k) j).1 a c,ad (bV (aY k).ck k.ds j)] W fun e w'=>∃ a' c',e=.returned (.tuple #[aU (eL (br (aY k) j).1 (bV (aY k).ck k.ds j)) a' c',ad (oF (br (aY k) j).1 (bV (aY k).ck k.ds j))])/\aZ w' a' (eL (br (aY k) j).1 (bV (aY k).ck k.ds j)).ds (fun i=>if i<bV (aY k).ck k.ds j then ss i else ss (i+1))/\(∀ g o,a'=some ⟨g,o,none⟩->W.heap.size<=g)/\(eL (br (aY k) j).1 (bV (aY k).ck k.ds j)).ds.length<=c'/\c'<=maxLen/\aj W w'/\fV w' a' (eL (br (aY k) j).1 (bV (aY k).ck k.ds j)).ds):=fun j a c ss W hj hu h1 h2 h3=>by
   have r:=Ac (aY k) Dp.ok j (by rw[hdl];omega);have hl:=r.len;rw[hdl] at hl;have hz':=aeo Dp (by rw[hdl];exact hz.t) (j:=j) (by rw[hdl];omega);have hp:bV (aY k).ck k.ds j<(br (aY k) j).1.ds.length:=by omega
   have hself:au (br (aY k) j).1.ds (bV (aY k).ck k.ds j)=au k.ds j:=by simpa [hdl] using r.rest 0 (by rw[hdl];omega)
   have th:jJ (br (aY k) j).1.ds ss:=fun i hi=>by have h5:=Fe hi;obtain ⟨q1,q2,q3,q4,q5⟩:=EW (d:=au (br (aY k) j).1.ds i) (by omega);exact ⟨⟨by omega,by omega,by omega⟩,q2,q3⟩
   exact Tg (br (aY k) j).1 a c (bV (aY k).ck k.ds j) ss W r.ok (by omega) hz' th h1 h2 h3 hp (by rw[hself];exact hR.Lo j hj) (SQ Dp (by rw[hdl];omega) hp)
  have HN:Hid (∀ j,j<=k.ds.length->(br (aY k) j).1.ck=(aY k).ck/\(br (aY k) j).1.ds.length=bV (aY k).ck k.ds j+(k.ds.length-j)/\(j<k.ds.length->au (br (aY k) j).1.ds (bV (aY k).ck k.ds j)=au k.ds j)/\bV (aY k).ck k.ds j+(br (aY k) j).2.length=j):=fun j hj=>by have r:=Ac (aY k) Dp.ok j (by rw[hdl];omega);have hl:=r.len;rw[hdl] at hl;exact ⟨r.ck,hl,fun h=>by simpa [hdl] using r.rest 0 (by rw[hdl];omega),Tq (aY k) j⟩
  have x9a:(0:Int)<=k.ck:=hck.1;clear hok hR Dp hz;by_cases h9:k.ck<999999
  ·have hon:aY k=⟨k.mem,k.ay,k.ds,k.ck+1⟩:=by unfold aY;rw[aF h9]
   have MY:Hid (aY k=⟨k.mem,k.ay,k.ds,k.ck+1⟩):=hon;clear hon hck;go_enter func56,ntmps56;go_wp2_with (first
    | (go_at_call 20;refine hcp.mono ?_;rintro e w1 ⟨a1,c1,ss,rfl,l1,b1⟩;obtain ⟨t2,u1⟩:=Dm.out w1 a1 c1 ss l1 b1;have x0:=t2.box.c0;have x1:=t2.box.c1;have x2:=t2.box.c2;have x3:=t2.box.c3;have g0:=t2.box.f0;have g1:=t2.box.f1;have g2:=t2.box.f2;have g3:=t2.box.f3;have v0:=u1.box.c0;have v1:=u1.box.c1;have v2:=u1.box.c2;have v3:=u1.box.c3)
    | (go_at_call 9;refine (HK.out _ _ _ _ u1.ls).mono ?_;rintro e w2 ⟨rfl,b2⟩;have u2:=u1.below b2;have d3:=u2.box.c3;have h3:=u2.box.f3))
   have U3:Hid (jO w (br (aY k) 0).1 (br (aY k) 0).2 a1 c1 ss (some ⟨W0.heap.size,0,none⟩) 0 (w2.setCell ⟨w.heap.size,3,none⟩ (ad (k.ck+1)))):=by have:=ae5 u2 (k.ck+1);rw[<- MY.out] at this;exact this
   clear x0 x1 x2 x3 g0 g1 g2 g3 v0 v1 v2 v3 d3 h3 u1 u2 t2 l1 b1 b2 hcp Dm c0' c1' c2' c3' B1 n0 t1 HK hW0;go_loopw [4,5] (fun p i w'=>∃ (j:Nat) (a:Option Addr) (c:Nat) (ss:Nat->aA) (a':Option Addr) (cap':Nat),j<=k.ds.length/\i=ad (bV (aY k).ck k.ds j:Nat)/\p=.slice a' (br (aY k) j).2.length cap'/\Hid (jO w (br (aY k) j).1 (br (aY k) j).2 a c ss a' cap' w')) (fun p i _=>k.ds.length-((intOf i).toNat+Af p));case atStart=>exact ⟨0,a1,c1,ss,_,0,aS _,rfl,rfl,U3⟩
   case round=>
   obtain ⟨j,a,c,ss,a',cap',hj,rfl,rfl,HS⟩:=hrel;clear U3;obtain ⟨hck,hlen,hdat,hcl⟩:=HN.out j hj;by_cases hlt:j<k.ds.length
   ·have hself:=hdat hlt;have hp:bV (aY k).ck k.ds j<(br (aY k) j).1.ds.length:=by omega
    obtain ⟨b,off,rfl,hbl,hcc⟩:=HS.out.ls.row.get hp;obtain ⟨-,-,y2,-,-,-,-,-⟩:=hcc _ hp;rw[hself] at y2;have hB:=HB.out j (some ⟨b,off,none⟩) c ss wr.drew hlt;have HR1:Hid ((au k.ds j).un<=(aY k).ck->br (aY k) (j+1)=(eL (br (aY k) j).1 (bV (aY k).ck k.ds j),(br (aY k) j).2 ++ [oF (br (aY k) j).1 (bV (aY k).ck k.ds j)])/\bV (aY k).ck k.ds (j+1)=bV (aY k).ck k.ds j):=fun h=>⟨by rw[br];exact aF h,by rw[bV,aF h]⟩;have HR2:Hid (¬ (au k.ds j).un<=(aY k).ck->br (aY k) (j+1)=br (aY k) j/\bV (aY k).ck k.ds (j+1)=bV (aY k).ck k.ds j+1):=fun h=>⟨by rw[br];exact aG h,by rw[bV,aG h]⟩;have k0:=HS.out.box.c0;have k1:=HS.out.box.c1;have k2:=HS.out.box.c2;have k3:=HS.out.box.c3;have oK:Hid (jO w (br (aY k) j).1 (br (aY k) j).2 (some ⟨b,off,none⟩) c ss a' cap' wr.drew):=HS.out.below ((aK _ _).drew);have rJ:Hid (bV (aY k).ck k.ds j<(br (aY k) j).1.ds.length):=hp;generalize hRj:br (aY k) j=Rj at *;generalize ux:bV (aY k).ck k.ds j=pj at *;obtain ⟨un,hun⟩:∃ un,(au k.ds j).un=un:=⟨_,rfl⟩;rw[hun] at y2 hB HR1 HR2;have yl:Hid (Rj.1.ck=(aY k).ck):=hck;have z1:(0:Int)<=(pj:Int):=by omega
    have z2:(pj:Int)<(Rj.1.ds.length:Int):=by omega
    clear hRj ux hdat hself hcc hbl hun hlen HS;by_cases hu:un<=Rj.1.ck
    ·have hB2:=hB (by rw[<- yl.out];exact hu) oK.out.ls oK.out.cap.1 oK.out.cap.2;obtain ⟨r1,r2⟩:=HR1.out (by rw[<- yl.out];exact hu);have rL:Hid (br (aY k) (j+1)=(eL Rj.1 pj,Rj.2 ++ [oF Rj.1 pj])):=r1;have yn:Hid (bV (aY k).ck k.ds (j+1)=pj):=r2;have M9:Hid (∀ W6 a5 c5,aj wr.drew W6->aZ W6 a5 (eL Rj.1 pj).ds (fun i=>if i<pj then ss i else ss (i+1))->(∀ g o,a5=some ⟨g,o,none⟩->wr.drew.heap.size<=g)->(eL Rj.1 pj).ds.length<=c5->c5<=maxLen->fV W6 a5 (eL Rj.1 pj).ds->av w.heap.size (cU Rj.1 (some ⟨b,off,none⟩) c) W6/\jO w (eL Rj.1 pj) Rj.2 a5 c5 (fun i=>if i<pj then ss i else ss (i+1)) a' cap' ((((W6.setCell ⟨w.heap.size,0,none⟩ (.string (eL Rj.1 pj).mem)).setCell ⟨w.heap.size,1,none⟩ (.string (eL Rj.1 pj).ay)).setCell ⟨w.heap.size,2,none⟩ (.slice a5 (eL Rj.1 pj).ds.length c5)).setCell ⟨w.heap.size,3,none⟩ (ad (eL Rj.1 pj).ck))):=fun W6 a5 c5 h1 h2 h3 h4 h5 h7=>by
      have hd:=oK.out;have h6:=hd.below h1;have q0:=hd.az.lt;exact ⟨h6.box,Kv h6.box h6.az h2 (ri hd.k0 rJ.out h3 (by omega)) (ri hd.k1 rJ.out h3 (by omega)) (fun x hx=>ri (hd.kc x hx) rJ.out h3 (hd.buf.2.lt x hx).2) ⟨h4,h5⟩ h6.buf h6.ah (Kt hd.ls rJ.out h3) (fun G hG=>ri (hd.kl G hG) rJ.out h3 (by omega)) h7⟩
     have hsz:=oK.out.az.lt;generalize eL Rj.1 pj=R2 at *;generalize oF Rj.1 pj=cd at *;clear r1 r2 hB HR1 HR2 HB HN hck;go_wp2;go_region
     go_wp2_with (first
      | (go_at_call 119;refine hB2.mono ?_;rintro e w5 ⟨a5,c5,rfl,l5,CZ,DG,CO,b5,yB⟩;have nw:=aB w5 (cJ R2 a5 c5);have b6:=b5.trans (nw.mono b5.size);obtain ⟨kp,u7⟩:=M9.out _ a5 c5 b6 (l5.below nw) CZ DG CO (vN yB nw);have U7:Hid (jO w R2 Rj.2 a5 c5 (fun i=>if i<pj then ss i else ss (i+1)) a' cap' (((((w5.alloc (cJ R2 a5 c5)).setCell ⟨w.heap.size,0,none⟩ (.string R2.mem)).setCell ⟨w.heap.size,1,none⟩ (.string R2.ay)).setCell ⟨w.heap.size,2,none⟩ (.slice a5 R2.ds.length c5)).setCell ⟨w.heap.size,3,none⟩ (ad R2.ck))):=u7;have nx:=bu (cU R2 a5 c5) w5 28;have n0:=nx.c0;have n1:=nx.c1;have n2:=nx.c2;have n3:=nx.c3;have m0:=kp.c0;have m1:=kp.c1;have m2:=kp.c2;have m3:=kp.c3;have o0:=kp.f0;have o1:=kp.f1;have o2:=kp.f2;have o3:=kp.f3;have Nh:Hid (wr.drew.heap.size<=w5.heap.size):=b5.size;clear u7 yB l5 CZ DG CO b5 b6 nw nx kp)
      | (at_builtin;refine Te rfl (.tmp 46) (.tmp 48) rfl U7.out.buf cd (by rfl) (H:=w5.heap.size+1) (by simp) (by rfl) (by omega) (by simp;have:=Nh.out;omega) ?_;intro g8 Mc w8 b8 l8 Na Mg))
     have U8:=Ts U7.out b8 l8 Na Mg (by simp);go_roundw;case rel=>exact ⟨j+1,a5,c5,_,some ⟨g8,0,none⟩,Mc,by omega,by rw[yn.out],by rw[rL.out,bY];rfl,by rw[rL.out];exact U8⟩
     case measure=>simp[intOf,Af];omega
    obtain ⟨r1,r2⟩:=HR2.out (by rw[<- yl.out];exact hu);have rL:Hid (br (aY k) (j+1)=Rj):=r1;have yn:Hid (bV (aY k).ck k.ds (j+1)=pj+1):=r2;have hu':Rj.1.ck<un:=by omega
    clear hB r1 r2 HR1 HR2 HB HN hck hu;go_wp2;go_region
    go_wp2;go_roundw;case rel=>exact ⟨j+1,some ⟨b,off,none⟩,c,ss,a',cap',by omega,by rw[yn.out];go_num,by rw[rL.out],by rw[rL.out];exact oK.out⟩
    case measure=>simp[intOf,Af];omega
   obtain rfl:j=k.ds.length:=by omega
   have uu:=HS.out;have hl2:(br (aY k) k.ds.length).1.ds.length=bV (aY k).ck k.ds k.ds.length:=by omega
   have z2:¬ ((bV (aY k).ck k.ds k.ds.length:Nat):Int)<((br (aY k) k.ds.length).1.ds.length:Int):=by omega
   have HG:Hid (∀ R,R=br (aY k) k.ds.length->R=br (aY k) k.ds.length):=fun R h=>h;obtain ⟨R,hRR⟩:∃ R,br (aY k) k.ds.length=R:=⟨_,rfl⟩;obtain ⟨pj,ux⟩:∃ pj,bV (aY k).ck k.ds k.ds.length=pj:=⟨_,rfl⟩;have HRR:Hid (br (aY k) k.ds.length=R):=hRR;rw[hRR] at uu z2 ⊢;rw[ux] at z2 ⊢;clear HS hck hlen hdat hcl hl2 hRR ux HG HB HN;have q1:=uu.az.eU (.string R.1.mem) (.string R.1.ay) (.slice a R.1.ds.length c) (ad R.1.ck);have bb:=(((cN wr (w.heap.size+1) 0 (.string R.1.mem)).trans (cN _ (w.heap.size+1) 1 (.string R.1.ay))).trans (cN _ (w.heap.size+1) 2 (.slice a R.1.ds.length c))).trans (cN _ (w.heap.size+1) 3 (ad R.1.ck));have ll:=kj uu.ls bb uu.k1;have bf:=oH (oH (oH (oH uu.buf (B:=w.heap.size+1) (j:=0) (v:=.string R.1.mem) (by omega)) (B:=w.heap.size+1) (j:=1) (v:=.string R.1.ay) (by omega)) (B:=w.heap.size+1) (j:=2) (v:=.slice a R.1.ds.length c) (by omega)) (B:=w.heap.size+1) (j:=3) (v:=ad R.1.ck) (by omega);have mm:=(((uu.ah.setCell (p:=⟨w.heap.size+1,0,none⟩) (bP _) (.string R.1.mem)).setCell (p:=⟨w.heap.size+1,1,none⟩) (bP _) (.string R.1.ay)).setCell (p:=⟨w.heap.size+1,2,none⟩) (bP _) (.slice a R.1.ds.length c)).setCell (p:=⟨w.heap.size+1,3,none⟩) (bP _) (ad R.1.ck);have e0:=q1.c0;have e1:=q1.c1;have e2:=q1.c2;have e3:=q1.c3;have y0:=uu.az.c0;have y1:=uu.az.c1;have y2:=uu.az.c2;have y3:=uu.az.c3;have f0:=uu.az.f0;have f1:=uu.az.f1;have f2:=uu.az.f2;have f3:=uu.az.f3;have d0:=uu.box.c0;have d1:=uu.box.c1;have d2:=uu.box.c2;have d3:=uu.box.c3;go_wp2;refine bL (v:=.tuple #[aU R.1 a c,.slice a' R.2.length cap']) (by simp[results,results56,go_sem,e0,e1,e2,e3]) rfl ?_;rw[HRR.out];exact Ku ll uu.ap uu.kl bf.own.row mm (mu uu.nf bb uu.k1)
  ·have hon:aY k=k:=by unfold aY;rw[aG h9]
   have MY:Hid (aY k=k):=hon;have tm:999999<=k.ck:=by omega
   clear hon hck h9;go_enter func56,ntmps56;go_wp2_with (first
    | (go_at_call 20;refine hcp.mono ?_;rintro e w1 ⟨a1,c1,ss,rfl,l1,b1⟩;obtain ⟨t2,u1⟩:=Dm.out w1 a1 c1 ss l1 b1;have x0:=t2.box.c0;have x1:=t2.box.c1;have x2:=t2.box.c2;have x3:=t2.box.c3;have g0:=t2.box.f0;have g1:=t2.box.f1;have g2:=t2.box.f2;have g3:=t2.box.f3;have v0:=u1.box.c0;have v1:=u1.box.c1;have v2:=u1.box.c2;have v3:=u1.box.c3)
    | (go_at_call 9;refine (HK.out _ _ _ _ u1.ls).mono ?_;rintro e w2 ⟨rfl,b2⟩;have u2:=u1.below b2;have d3:=u2.box.c3;have h3:=u2.box.f3))
   have U3:Hid (jO w (br (aY k) 0).1 (br (aY k) 0).2 a1 c1 ss (some ⟨W0.heap.size,0,none⟩) 0 w2):=by
    show jO w (aY k) [] a1 c1 ss (some ⟨W0.heap.size,0,none⟩) 0 w2
    rw[MY.out];exact u2
   clear x0 x1 x2 x3 g0 g1 g2 g3 v0 v1 v2 v3 d3 h3 u1 u2 t2 l1 b1 b2 hcp Dm c0' c1' c2' c3' B1 n0 t1 HK hW0;go_loopw [4,5] (fun p i w'=>∃ (j:Nat) (a:Option Addr) (c:Nat) (ss:Nat->aA) (a':Option Addr) (cap':Nat),j<=k.ds.length/\i=ad (bV (aY k).ck k.ds j:Nat)/\p=.slice a' (br (aY k) j).2.length cap'/\Hid (jO w (br (aY k) j).1 (br (aY k) j).2 a c ss a' cap' w')) (fun p i _=>k.ds.length-((intOf i).toNat+Af p));case atStart=>exact ⟨0,a1,c1,ss,_,0,aS _,rfl,rfl,U3⟩
   case round=>
   obtain ⟨j,a,c,ss,a',cap',hj,rfl,rfl,HS⟩:=hrel;clear U3;obtain ⟨hck,hlen,hdat,hcl⟩:=HN.out j hj;by_cases hlt:j<k.ds.length
   ·have hself:=hdat hlt;have hp:bV (aY k).ck k.ds j<(br (aY k) j).1.ds.length:=by omega
    obtain ⟨b,off,rfl,hbl,hcc⟩:=HS.out.ls.row.get hp;obtain ⟨-,-,y2,-,-,-,-,-⟩:=hcc _ hp;rw[hself] at y2;have hB:=HB.out j (some ⟨b,off,none⟩) c ss wr.drew hlt;have HR1:Hid ((au k.ds j).un<=(aY k).ck->br (aY k) (j+1)=(eL (br (aY k) j).1 (bV (aY k).ck k.ds j),(br (aY k) j).2 ++ [oF (br (aY k) j).1 (bV (aY k).ck k.ds j)])/\bV (aY k).ck k.ds (j+1)=bV (aY k).ck k.ds j):=fun h=>⟨by rw[br];exact aF h,by rw[bV,aF h]⟩;have HR2:Hid (¬ (au k.ds j).un<=(aY k).ck->br (aY k) (j+1)=br (aY k) j/\bV (aY k).ck k.ds (j+1)=bV (aY k).ck k.ds j+1):=fun h=>⟨by rw[br];exact aG h,by rw[bV,aG h]⟩;have k0:=HS.out.box.c0;have k1:=HS.out.box.c1;have k2:=HS.out.box.c2;have k3:=HS.out.box.c3;have oK:Hid (jO w (br (aY k) j).1 (br (aY k) j).2 (some ⟨b,off,none⟩) c ss a' cap' wr.drew):=HS.out.below ((aK _ _).drew);have rJ:Hid (bV (aY k).ck k.ds j<(br (aY k) j).1.ds.length):=hp;generalize hRj:br (aY k) j=Rj at *;generalize ux:bV (aY k).ck k.ds j=pj at *;obtain ⟨un,hun⟩:∃ un,(au k.ds j).un=un:=⟨_,rfl⟩;rw[hun] at y2 hB HR1 HR2;have yl:Hid (Rj.1.ck=(aY k).ck):=hck;have z1:(0:Int)<=(pj:Int):=by omega
    have z2:(pj:Int)<(Rj.1.ds.length:Int):=by omega
    clear hRj ux hdat hself hcc hbl hun hlen HS;by_cases hu:un<=Rj.1.ck
    ·have hB2:=hB (by rw[<- yl.out];exact hu) oK.out.ls oK.out.cap.1 oK.out.cap.2;obtain ⟨r1,r2⟩:=HR1.out (by rw[<- yl.out];exact hu);have rL:Hid (br (aY k) (j+1)=(eL Rj.1 pj,Rj.2 ++ [oF Rj.1 pj])):=r1;have yn:Hid (bV (aY k).ck k.ds (j+1)=pj):=r2;have M9:Hid (∀ W6 a5 c5,aj wr.drew W6->aZ W6 a5 (eL Rj.1 pj).ds (fun i=>if i<pj then ss i else ss (i+1))->(∀ g o,a5=some ⟨g,o,none⟩->wr.drew.heap.size<=g)->(eL Rj.1 pj).ds.length<=c5->c5<=maxLen->fV W6 a5 (eL Rj.1 pj).ds->av w.heap.size (cU Rj.1 (some ⟨b,off,none⟩) c) W6/\jO w (eL Rj.1 pj) Rj.2 a5 c5 (fun i=>if i<pj then ss i else ss (i+1)) a' cap' ((((W6.setCell ⟨w.heap.size,0,none⟩ (.string (eL Rj.1 pj).mem)).setCell ⟨w.heap.size,1,none⟩ (.string (eL Rj.1 pj).ay)).setCell ⟨w.heap.size,2,none⟩ (.slice a5 (eL Rj.1 pj).ds.length c5)).setCell ⟨w.heap.size,3,none⟩ (ad (eL Rj.1 pj).ck))):=fun W6 a5 c5 h1 h2 h3 h4 h5 h7=>by
      have hd:=oK.out;have h6:=hd.below h1;have q0:=hd.az.lt;exact ⟨h6.box,Kv h6.box h6.az h2 (ri hd.k0 rJ.out h3 (by omega)) (ri hd.k1 rJ.out h3 (by omega)) (fun x hx=>ri (hd.kc x hx) rJ.out h3 (hd.buf.2.lt x hx).2) ⟨h4,h5⟩ h6.buf h6.ah (Kt hd.ls rJ.out h3) (fun G hG=>ri (hd.kl G hG) rJ.out h3 (by omega)) h7⟩
     have hsz:=oK.out.az.lt;generalize eL Rj.1 pj=R2 at *;generalize oF Rj.1 pj=cd at *;clear r1 r2 hB HR1 HR2 HB HN hck;go_wp2;go_region
     go_wp2_with (first
      | (go_at_call 119;refine hB2.mono ?_;rintro e w5 ⟨a5,c5,rfl,l5,CZ,DG,CO,b5,yB⟩;have nw:=aB w5 (cJ R2 a5 c5);have b6:=b5.trans (nw.mono b5.size);obtain ⟨kp,u7⟩:=M9.out _ a5 c5 b6 (l5.below nw) CZ DG CO (vN yB nw);have U7:Hid (jO w R2 Rj.2 a5 c5 (fun i=>if i<pj then ss i else ss (i+1)) a' cap' (((((w5.alloc (cJ R2 a5 c5)).setCell ⟨w.heap.size,0,none⟩ (.string R2.mem)).setCell ⟨w.heap.size,1,none⟩ (.string R2.ay)).setCell ⟨w.heap.size,2,none⟩ (.slice a5 R2.ds.length c5)).setCell ⟨w.heap.size,3,none⟩ (ad R2.ck))):=u7;have nx:=bu (cU R2 a5 c5) w5 28;have n0:=nx.c0;have n1:=nx.c1;have n2:=nx.c2;have n3:=nx.c3;have m0:=kp.c0;have m1:=kp.c1;have m2:=kp.c2;have m3:=kp.c3;have o0:=kp.f0;have o1:=kp.f1;have o2:=kp.f2;have o3:=kp.f3;have Nh:Hid (wr.drew.heap.size<=w5.heap.size):=b5.size;clear u7 yB l5 CZ DG CO b5 b6 nw nx kp)
      | (at_builtin;refine Te rfl (.tmp 46) (.tmp 48) rfl U7.out.buf cd (by rfl) (H:=w5.heap.size+1) (by simp) (by rfl) (by omega) (by simp;have:=Nh.out;omega) ?_;intro g8 Mc w8 b8 l8 Na Mg))
     have U8:=Ts U7.out b8 l8 Na Mg (by simp);go_roundw;case rel=>exact ⟨j+1,a5,c5,_,some ⟨g8,0,none⟩,Mc,by omega,by rw[yn.out],by rw[rL.out,bY];rfl,by rw[rL.out];exact U8⟩
     case measure=>simp[intOf,Af];omega
    obtain ⟨r1,r2⟩:=HR2.out (by rw[<- yl.out];exact hu);have rL:Hid (br (aY k) (j+1)=Rj):=r1;have yn:Hid (bV (aY k).ck k.ds (j+1)=pj+1):=r2;have hu':Rj.1.ck<un:=by omega
    clear hB r1 r2 HR1 HR2 HB HN hck hu;go_wp2;go_region
    go_wp2;go_roundw;case rel=>exact ⟨j+1,some ⟨b,off,none⟩,c,ss,a',cap',by omega,by rw[yn.out];go_num,by rw[rL.out],by rw[rL.out];exact oK.out⟩
    case measure=>simp[intOf,Af];omega
   obtain rfl:j=k.ds.length:=by omega
   have uu:=HS.out;have hl2:(br (aY k) k.ds.length).1.ds.length=bV (aY k).ck k.ds k.ds.length:=by omega
   have z2:¬ ((bV (aY k).ck k.ds k.ds.length:Nat):Int)<((br (aY k) k.ds.length).1.ds.length:Int):=by omega
   have HG:Hid (∀ R,R=br (aY k) k.ds.length->R=br (aY k) k.ds.length):=fun R h=>h;obtain ⟨R,hRR⟩:∃ R,br (aY k) k.ds.length=R:=⟨_,rfl⟩;obtain ⟨pj,ux⟩:∃ pj,bV (aY k).ck k.ds k.ds.length=pj:=⟨_,rfl⟩;have HRR:Hid (br (aY k) k.ds.length=R):=hRR;rw[hRR] at uu z2 ⊢;rw[ux] at z2 ⊢;clear HS hck hlen hdat hcl hl2 hRR ux HG HB HN;have q1:=uu.az.eU (.string R.1.mem) (.string R.1.ay) (.slice a R.1.ds.length c) (ad R.1.ck);have bb:=(((cN wr (w.heap.size+1) 0 (.string R.1.mem)).trans (cN _ (w.heap.size+1) 1 (.string R.1.ay))).trans (cN _ (w.heap.size+1) 2 (.slice a R.1.ds.length c))).trans (cN _ (w.heap.size+1) 3 (ad R.1.ck));have ll:=kj uu.ls bb uu.k1;have bf:=oH (oH (oH (oH uu.buf (B:=w.heap.size+1) (j:=0) (v:=.string R.1.mem) (by omega)) (B:=w.heap.size+1) (j:=1) (v:=.string R.1.ay) (by omega)) (B:=w.heap.size+1) (j:=2) (v:=.slice a R.1.ds.length c) (by omega)) (B:=w.heap.size+1) (j:=3) (v:=ad R.1.ck) (by omega);have mm:=(((uu.ah.setCell (p:=⟨w.heap.size+1,0,none⟩) (bP _) (.string R.1.mem)).setCell (p:=⟨w.heap.size+1,1,none⟩) (bP _) (.string R.1.ay)).setCell (p:=⟨w.heap.size+1,2,none⟩) (bP _) (.slice a R.1.ds.length c)).setCell (p:=⟨w.heap.size+1,3,none⟩) (bP _) (ad R.1.ck);have e0:=q1.c0;have e1:=q1.c1;have e2:=q1.c2;have e3:=q1.c3;have y0:=uu.az.c0;have y1:=uu.az.c1;have y2:=uu.az.c2;have y3:=uu.az.c3;have f0:=uu.az.f0;have f1:=uu.az.f1;have f2:=uu.az.f2;have f3:=uu.az.f3;have d0:=uu.box.c0;have d1:=uu.box.c1;have d2:=uu.box.c2;have d3:=uu.box.c3;go_wp2;refine bL (v:=.tuple #[aU R.1 a c,.slice a' R.2.length cap']) (by simp[results,results56,go_sem,e0,e1,e2,e3]) rfl ?_;rw[HRR.out];exact Ku ll uu.ap uu.kl bf.own.row mm (mu uu.nf bb uu.k1)
end
section
structure dS (n:Nat) (k:aL):Prop where
 m:k.mem.size=768
 d:k.ay.size=768
 l:k.ds.length<=n
 t:∀ j,j<k.ds.length->fD (au k.ds j)<=2000
theorem Tt {ds:List ak} {b:Nat} (h:∀ j,j<ds.length->fD (au ds j)<=b):∀ i,i<=ds.length->ft ds i<=b*i
 | 0,_=>aq _
 | i+1,hi=>by have h1:=Tt h i (by omega);have h2:=h i (by omega);rw[ft,Nat.mul_add,Nat.mul_one];omega
theorem dS.sz {n:Nat} {k:aL} (h:dS n k) (hn:n<=100):rf k:=by have h1:=Tt h.t _ (aq _);have h2:=h.l;exact ⟨by have:=h.m;omega,by have:=h.d;omega,by omega⟩
theorem dS.mono {n m:Nat} {k:aL} (h:dS n k) (hn:n<=m):dS m k:=⟨h.m,h.d,bt h.l hn,h.t⟩
def qh (n:Nat) (w:World) (e:Ending) (w':World):Prop:=∃ k a c ss x,e=.returned (.tuple #[aU k a c,x])/\dS n k/\aZ w' a k.ds ss/\iR a k.ds ss/\(∀ G,G<w.heap.size->eE G a k.ds ss)/\aj w w'/\fV w' a k.ds
variable {w W W' : World} {k : aL} {ss : Nat → aA} {a1 : Option Addr} {c1 base : Nat} {m p : ByteArray}
theorem sX (h:kS w k ss a1 c1 base m p W) {V:World} (hV:(((W.setCell ⟨w.heap.size+1,0,none⟩ (.string m)).setCell ⟨w.heap.size+1,1,none⟩ (.string p)).setCell ⟨w.heap.size+1,2,none⟩ (.slice a1 k.ds.length c1)).setCell ⟨w.heap.size+1,3,none⟩ (ad k.ck)=V):av (w.heap.size+1) [.string m,.string p,.slice a1 k.ds.length c1,ad k.ck] V/\gN base k.ds k.ds.length ss a1 c1 V/\aj w V:=by subst hV;have hb:=h.hb;exact ⟨h.az.eU _ _ _ _,(((h.lq.set (by omega) 0 _).set (by omega) 1 _).set (by omega) 2 _).set (by omega) 3 _,(((h.ah.setCell (p:=⟨w.heap.size+1,0,none⟩) (bP _) _).setCell (p:=⟨w.heap.size+1,1,none⟩) (bP _) _).setCell (p:=⟨w.heap.size+1,2,none⟩) (bP _) _).setCell (p:=⟨w.heap.size+1,3,none⟩) (bP _) _⟩
theorem sY {n:Nat} {x:Value} (h0:w.heap.size<=base) (h:gN base k.ds k.ds.length ss a1 c1 W) (hb:aj w W) (hk:dS n ⟨m,p,k.ds,k.ck⟩):qh n w (.returned (.tuple #[aU ⟨m,p,k.ds,k.ck⟩ a1 c1,x])) W:=⟨_,a1,c1,ss,x,rfl,hk,h.eN,Tp h,fun G hG=>vT h (by omega),hb,To h⟩
theorem ae7 (n:Nat) (k:aL) (a:Option Addr) (c:Nat) (s0:Nat->aA) (cl i:Int) (t:ByteArray) (w:World) (hk:dS n k) (hn:n<=100) (hL:aZ w a k.ds s0) (ht:t.size<=1000000):Calls prog 118 #[aU k a c,ad cl,ad i,.string t] w (qh n w):=by
 have hz:=hk.sz hn;have hm:=hk.m;have hd:=hk.d;have t0:=tX w k a c;have hcp:=Aa k a c s0 _ (by have:=hz.t;omega) hz.small (hL.below t0.ah);have HK:Hid (∀ a1 c1 ss W,aZ W a1 k.ds ss->_):=fun a1 c1 ss W h=>(xK k) ▸ xJ k a1 c1 ss W hz.m hz.d hz.t (hz.fits ss) h;have HL:Hid (∀ a1 c1 ss W,aZ W a1 k.ds ss->_):=fun a1 c1 ss W h=>Tn k a1 c1 ss cl i (t.size:Int) W (by have:=hz.t;omega) (hz.fits ss) h;have HC:Hid (∀ W,_):=fun W=>OP k.mem k.ay i t W (by omega) (by omega) (by omega);have hB:dS n ⟨(nX k.mem k.ay i t),k.ay,k.ds,k.ck⟩:=⟨(Cy _ _ _ _).trans hk.m,hk.d,hk.l,hk.t⟩;have c0:=t0.box.c0;have c1:=t0.box.c1;have c2:=t0.box.c2;have c3:=t0.box.c3;have z0:w.heap.size+2=((w.alloc (cJ k a c)).alloc df).heap.size:=by simp
 obtain ⟨W0,hW0⟩:∃ W0,(w.alloc (cJ k a c)).alloc df=W0:=⟨_,rfl⟩;rw[hW0] at t0 hcp c0 c1 c2 c3 z0;unfold vL at hcp;clear hL;cases hok:fj k with
 | false=>
  rw[hok] at HK;clear hok;go_enter func118,ntmps118;go_wp2_with (first
   | (go_at_call 20;refine hcp.mono ?_;rintro e w1 ⟨a1,c1',ss,rfl,l1,b1⟩;have t1:=t0.below b1;have x0:=t1.box.c0;have x1:=t1.box.c1;have x2:=t1.box.c2;have x3:=t1.box.c3;have g0:=t1.box.f0;have g1:=t1.box.f1;have g2:=t1.box.f2;have g3:=t1.box.f3;have u1:=qe t1 l1 (by omega);have d0:=u1.box.c0;have d1:=u1.box.c1;have d2:=u1.box.c2;have d3:=u1.box.c3)
   | (go_at_call 9;refine (HK.out _ _ _ _ u1.lq.eN).mono ?_;rintro e w2 ⟨rfl,b2⟩;have u2:=u1.below b2;have d0:=u2.box.c0;have d1:=u2.box.c1;have d2:=u2.box.c2;have d3:=u2.box.c3;have y0:=u2.az.c0;have y1:=u2.az.c1;have y2:=u2.az.c2;have y3:=u2.az.c3;have e0:=u2.az.f0;have e1:=u2.az.f1;have e2:=u2.az.f2;have e3:=u2.az.f3))
  obtain ⟨V,hV⟩:∃ V,((((w2.setCell ⟨w.heap.size+1,0,none⟩ (.string k.mem)).setCell ⟨w.heap.size+1,1,none⟩ (.string k.ay)).setCell ⟨w.heap.size+1,2,none⟩ (.slice a1 k.ds.length c1')).setCell ⟨w.heap.size+1,3,none⟩ (ad k.ck))=V:=⟨_,rfl⟩;obtain ⟨qq,ll,mm⟩:=sX u2 hV;have v0:=qq.c0;have v1:=qq.c1;have v2:=qq.c2;have v3:=qq.c3;subst hV;exact bL (v:=.tuple #[aU k a1 c1',ad 6]) (by simp[results,results118,go_sem,v0,v1,v2,v3]) rfl (sY (k:=k) (by omega) ll mm hk)
 | true=>
  rw[hok] at HK;clear hok;cases hle:vS cl i (t.size:Int) k.ds with
  | false=>
   rw[hle] at HL;clear hle;go_enter func118,ntmps118;go_wp2_with (first
    | (go_at_call 20;refine hcp.mono ?_;rintro e w1 ⟨a1,c1',ss,rfl,l1,b1⟩;have t1:=t0.below b1;have x0:=t1.box.c0;have x1:=t1.box.c1;have x2:=t1.box.c2;have x3:=t1.box.c3;have g0:=t1.box.f0;have g1:=t1.box.f1;have g2:=t1.box.f2;have g3:=t1.box.f3;have u1:=qe t1 l1 (by omega);have d0:=u1.box.c0;have d1:=u1.box.c1;have d2:=u1.box.c2;have d3:=u1.box.c3)
    | (go_at_call 9;refine (HK.out _ _ _ _ u1.lq.eN).mono ?_;rintro e w2 ⟨rfl,b2⟩;have u2:=u1.below b2;have d0:=u2.box.c0;have d1:=u2.box.c1;have d2:=u2.box.c2;have d3:=u2.box.c3)
    | (go_at_call 120;refine (HL.out _ _ _ _ u2.lq.eN).mono ?_;rintro e w3 ⟨rfl,b3⟩;have u3:=u2.below b3;have d0:=u3.box.c0;have d1:=u3.box.c1;have d2:=u3.box.c2;have d3:=u3.box.c3;have y0:=u3.az.c0;have y1:=u3.az.c1;have y2:=u3.az.c2;have y3:=u3.az.c3;have e0:=u3.az.f0;have e1:=u3.az.f1;have e2:=u3.az.f2;have e3:=u3.az.f3))
   obtain ⟨V,hV⟩:∃ V,((((w3.setCell ⟨w.heap.size+1,0,none⟩ (.string k.mem)).setCell ⟨w.heap.size+1,1,none⟩ (.string k.ay)).setCell ⟨w.heap.size+1,2,none⟩ (.slice a1 k.ds.length c1')).setCell ⟨w.heap.size+1,3,none⟩ (ad k.ck))=V:=⟨_,rfl⟩;obtain ⟨qq,ll,mm⟩:=sX u3 hV;have v0:=qq.c0;have v1:=qq.c1;have v2:=qq.c2;have v3:=qq.c3;subst hV;exact bL (v:=.tuple #[aU k a1 c1',ad 4]) (by simp[results,results118,go_sem,v0,v1,v2,v3]) rfl (sY (k:=k) (by omega) ll mm hk)
  | true=>
   rw[hle] at HL;clear hle;obtain ⟨R,hR⟩:∃ r,(nX k.mem k.ay i t)=r:=⟨_,rfl⟩;rw[hR] at HC hB;clear hR;go_enter func118,ntmps118;go_wp2_with (first
    | (go_at_call 20;refine hcp.mono ?_;rintro e w1 ⟨a1,c1',ss,rfl,l1,b1⟩;have t1:=t0.below b1;have x0:=t1.box.c0;have x1:=t1.box.c1;have x2:=t1.box.c2;have x3:=t1.box.c3;have g0:=t1.box.f0;have g1:=t1.box.f1;have g2:=t1.box.f2;have g3:=t1.box.f3;have u1:=qe t1 l1 (by omega);have d0:=u1.box.c0;have d1:=u1.box.c1;have d2:=u1.box.c2;have d3:=u1.box.c3)
    | (go_at_call 9;refine (HK.out _ _ _ _ u1.lq.eN).mono ?_;rintro e w2 ⟨rfl,b2⟩;have u2:=u1.below b2;have d0:=u2.box.c0;have d1:=u2.box.c1;have d2:=u2.box.c2;have d3:=u2.box.c3)
    | (go_at_call 120;refine (HL.out _ _ _ _ u2.lq.eN).mono ?_;rintro e w3 ⟨rfl,b3⟩;have u3:=u2.below b3;have d0:=u3.box.c0;have d1:=u3.box.c1;have d2:=u3.box.c2;have d3:=u3.box.c3)
    | (go_at_call 165;refine (HC.out _).mono ?_;rintro e w4 ⟨rfl,b4⟩;have u4:=u3.below b4;have p0:=u4.box.c0;have p1:=u4.box.c1;have f0:=u4.box.f0;have f1:=u4.box.f1;have u5:=(u4.Ao R).DF k.ay;have d0:=u5.box.c0;have d1:=u5.box.c1;have d2:=u5.box.c2;have d3:=u5.box.c3;have y0:=u5.az.c0;have y1:=u5.az.c1;have y2:=u5.az.c2;have y3:=u5.az.c3;have e0:=u5.az.f0;have e1:=u5.az.f1;have e2:=u5.az.f2;have e3:=u5.az.f3))
   obtain ⟨V,hV⟩:∃ V,((((((w4.setCell ⟨w.heap.size,0,none⟩ (.string R)).setCell ⟨w.heap.size,1,none⟩ (.string k.ay)).setCell ⟨w.heap.size+1,0,none⟩ (.string R)).setCell ⟨w.heap.size+1,1,none⟩ (.string k.ay)).setCell ⟨w.heap.size+1,2,none⟩ (.slice a1 k.ds.length c1')).setCell ⟨w.heap.size+1,3,none⟩ (ad k.ck))=V:=⟨_,rfl⟩;obtain ⟨qq,ll,mm⟩:=sX u5 hV;have v0:=qq.c0;have v1:=qq.c1;have v2:=qq.c2;have v3:=qq.c3;subst hV;exact bL (v:=.tuple #[aU ⟨R,k.ay,k.ds,k.ck⟩ a1 c1',ad 0]) (by simp[results,results118,go_sem,v0,v1,v2,v3]) rfl (sY (k:=k) (by omega) ll mm hB)
theorem ae8 (n:Nat) (k:aL) (a:Option Addr) (c:Nat) (s0:Nat->aA) (cl i z:Int) (w:World) (hk:dS n k) (hn:n<=100) (hL:aZ w a k.ds s0) (wi:(Lit.int .i64 i).wf=true) (wz:(Lit.int .i64 z).wf=true):Calls prog 57 #[aU k a c,ad cl,ad i,ad z] w (qh n w):=by
 have hz:=hk.sz hn;have hm:=hk.m;have hd:=hk.d;have t0:=tX w k a c;have hcp:=Aa k a c s0 _ (by have:=hz.t;omega) hz.small (hL.below t0.ah);have HK:Hid (∀ a1 c1 ss W,aZ W a1 k.ds ss->_):=fun a1 c1 ss W h=>(xK k) ▸ xJ k a1 c1 ss W hz.m hz.d hz.t (hz.fits ss) h;have HL:Hid (∀ a1 c1 ss W,aZ W a1 k.ds ss->_):=fun a1 c1 ss W h=>Tn k a1 c1 ss cl i z W (by have:=hz.t;omega) (hz.fits ss) h;have HC:Hid (∀ W,_):=fun W=>I8 k.mem k.ay i z W (by omega) (by omega) wi wz;have hB:dS n ⟨k.mem,(mf k.mem k.ay i z),k.ds,k.ck⟩:=⟨hk.m,J7 _ _ _ _ hk.d,hk.l,hk.t⟩;have c0:=t0.box.c0;have c1:=t0.box.c1;have c2:=t0.box.c2;have c3:=t0.box.c3;have z0:w.heap.size+2=((w.alloc (cJ k a c)).alloc df).heap.size:=by simp
 obtain ⟨W0,hW0⟩:∃ W0,(w.alloc (cJ k a c)).alloc df=W0:=⟨_,rfl⟩;rw[hW0] at t0 hcp c0 c1 c2 c3 z0;unfold vL at hcp;clear hL;cases hok:fj k with
 | false=>
  rw[hok] at HK;clear hok;go_enter func57,ntmps57;go_wp2_with (first
   | (go_at_call 20;refine hcp.mono ?_;rintro e w1 ⟨a1,c1',ss,rfl,l1,b1⟩;have t1:=t0.below b1;have x0:=t1.box.c0;have x1:=t1.box.c1;have x2:=t1.box.c2;have x3:=t1.box.c3;have g0:=t1.box.f0;have g1:=t1.box.f1;have g2:=t1.box.f2;have g3:=t1.box.f3;have u1:=qe t1 l1 (by omega);have d0:=u1.box.c0;have d1:=u1.box.c1;have d2:=u1.box.c2;have d3:=u1.box.c3)
   | (go_at_call 9;refine (HK.out _ _ _ _ u1.lq.eN).mono ?_;rintro e w2 ⟨rfl,b2⟩;have u2:=u1.below b2;have d0:=u2.box.c0;have d1:=u2.box.c1;have d2:=u2.box.c2;have d3:=u2.box.c3;have y0:=u2.az.c0;have y1:=u2.az.c1;have y2:=u2.az.c2;have y3:=u2.az.c3;have e0:=u2.az.f0;have e1:=u2.az.f1;have e2:=u2.az.f2;have e3:=u2.az.f3))
  obtain ⟨V,hV⟩:∃ V,((((w2.setCell ⟨w.heap.size+1,0,none⟩ (.string k.mem)).setCell ⟨w.heap.size+1,1,none⟩ (.string k.ay)).setCell ⟨w.heap.size+1,2,none⟩ (.slice a1 k.ds.length c1')).setCell ⟨w.heap.size+1,3,none⟩ (ad k.ck))=V:=⟨_,rfl⟩;obtain ⟨qq,ll,mm⟩:=sX u2 hV;have v0:=qq.c0;have v1:=qq.c1;have v2:=qq.c2;have v3:=qq.c3;subst hV;exact bL (v:=.tuple #[aU k a1 c1',ad 6]) (by simp[results,results57,go_sem,v0,v1,v2,v3]) rfl (sY (k:=k) (by omega) ll mm hk)
 | true=>
  rw[hok] at HK;clear hok;cases hle:vS cl i z k.ds with
  | false=>
   rw[hle] at HL;clear hle;go_enter func57,ntmps57;go_wp2_with (first
    | (go_at_call 20;refine hcp.mono ?_;rintro e w1 ⟨a1,c1',ss,rfl,l1,b1⟩;have t1:=t0.below b1;have x0:=t1.box.c0;have x1:=t1.box.c1;have x2:=t1.box.c2;have x3:=t1.box.c3;have g0:=t1.box.f0;have g1:=t1.box.f1;have g2:=t1.box.f2;have g3:=t1.box.f3;have u1:=qe t1 l1 (by omega);have d0:=u1.box.c0;have d1:=u1.box.c1;have d2:=u1.box.c2;have d3:=u1.box.c3)
    | (go_at_call 9;refine (HK.out _ _ _ _ u1.lq.eN).mono ?_;rintro e w2 ⟨rfl,b2⟩;have u2:=u1.below b2;have d0:=u2.box.c0;have d1:=u2.box.c1;have d2:=u2.box.c2;have d3:=u2.box.c3)
    | (go_at_call 120;refine (HL.out _ _ _ _ u2.lq.eN).mono ?_;rintro e w3 ⟨rfl,b3⟩;have u3:=u2.below b3;have d0:=u3.box.c0;have d1:=u3.box.c1;have d2:=u3.box.c2;have d3:=u3.box.c3;have y0:=u3.az.c0;have y1:=u3.az.c1;have y2:=u3.az.c2;have y3:=u3.az.c3;have e0:=u3.az.f0;have e1:=u3.az.f1;have e2:=u3.az.f2;have e3:=u3.az.f3))
   obtain ⟨V,hV⟩:∃ V,((((w3.setCell ⟨w.heap.size+1,0,none⟩ (.string k.mem)).setCell ⟨w.heap.size+1,1,none⟩ (.string k.ay)).setCell ⟨w.heap.size+1,2,none⟩ (.slice a1 k.ds.length c1')).setCell ⟨w.heap.size+1,3,none⟩ (ad k.ck))=V:=⟨_,rfl⟩;obtain ⟨qq,ll,mm⟩:=sX u3 hV;have v0:=qq.c0;have v1:=qq.c1;have v2:=qq.c2;have v3:=qq.c3;subst hV;exact bL (v:=.tuple #[aU k a1 c1',ad 4]) (by simp[results,results57,go_sem,v0,v1,v2,v3]) rfl (sY (k:=k) (by omega) ll mm hk)
  | true=>
   rw[hle] at HL;clear hle;obtain ⟨R,hR⟩:∃ r,(mf k.mem k.ay i z)=r:=⟨_,rfl⟩;rw[hR] at HC hB;clear hR;go_enter func57,ntmps57;go_wp2_with (first
    | (go_at_call 20;refine hcp.mono ?_;rintro e w1 ⟨a1,c1',ss,rfl,l1,b1⟩;have t1:=t0.below b1;have x0:=t1.box.c0;have x1:=t1.box.c1;have x2:=t1.box.c2;have x3:=t1.box.c3;have g0:=t1.box.f0;have g1:=t1.box.f1;have g2:=t1.box.f2;have g3:=t1.box.f3;have u1:=qe t1 l1 (by omega);have d0:=u1.box.c0;have d1:=u1.box.c1;have d2:=u1.box.c2;have d3:=u1.box.c3)
    | (go_at_call 9;refine (HK.out _ _ _ _ u1.lq.eN).mono ?_;rintro e w2 ⟨rfl,b2⟩;have u2:=u1.below b2;have d0:=u2.box.c0;have d1:=u2.box.c1;have d2:=u2.box.c2;have d3:=u2.box.c3)
    | (go_at_call 120;refine (HL.out _ _ _ _ u2.lq.eN).mono ?_;rintro e w3 ⟨rfl,b3⟩;have u3:=u2.below b3;have d0:=u3.box.c0;have d1:=u3.box.c1;have d2:=u3.box.c2;have d3:=u3.box.c3)
    | (go_at_call 77;refine (HC.out _).mono ?_;rintro e w4 ⟨rfl,b4⟩;have u4:=u3.below b4;have p0:=u4.box.c0;have p1:=u4.box.c1;have f0:=u4.box.f0;have f1:=u4.box.f1;have u5:=(u4.Ao k.mem).DF R;have d0:=u5.box.c0;have d1:=u5.box.c1;have d2:=u5.box.c2;have d3:=u5.box.c3;have y0:=u5.az.c0;have y1:=u5.az.c1;have y2:=u5.az.c2;have y3:=u5.az.c3;have e0:=u5.az.f0;have e1:=u5.az.f1;have e2:=u5.az.f2;have e3:=u5.az.f3))
   obtain ⟨V,hV⟩:∃ V,((((((w4.setCell ⟨w.heap.size,0,none⟩ (.string k.mem)).setCell ⟨w.heap.size,1,none⟩ (.string R)).setCell ⟨w.heap.size+1,0,none⟩ (.string k.mem)).setCell ⟨w.heap.size+1,1,none⟩ (.string R)).setCell ⟨w.heap.size+1,2,none⟩ (.slice a1 k.ds.length c1')).setCell ⟨w.heap.size+1,3,none⟩ (ad k.ck))=V:=⟨_,rfl⟩;obtain ⟨qq,ll,mm⟩:=sX u5 hV;have v0:=qq.c0;have v1:=qq.c1;have v2:=qq.c2;have v3:=qq.c3;subst hV;exact bL (v:=.tuple #[aU ⟨k.mem,R,k.ds,k.ck⟩ a1 c1',ad 0]) (by simp[results,results57,go_sem,v0,v1,v2,v3]) rfl (sY (k:=k) (by omega) ll mm hB)
end
theorem ae9 {n:Nat} {k:aL} (h:dS n k) {p:Nat} (hp:p<k.ds.length):dS n (eL k p):=by
 obtain ⟨h1,h2⟩:=SN (k:=k) ⟨h.m,h.d⟩ (au k.ds p) (oE k (au k.ds p));have hl:(k.ds.eraseIdx p).length=k.ds.length-1:=by rw[D8,aF hp]
 refine ⟨h1,h2,?_,fun j hj=>?_⟩
 ·show (k.ds.eraseIdx p).length<=n
  have:=h.l;omega
 have hj':j<(k.ds.eraseIdx p).length:=hj;show fD (au (k.ds.eraseIdx p) j)<=2000
 rw[xN];split;·exact h.t j (by omega)
 exact h.t (j+1) (by omega)
theorem afa (n:Nat) (k:aL) (a:Option Addr) (c:Nat) (s0:Nat->aA) (cl ino:Int) (w:World) (hk:dS n k) (hn:n<=100) (hL:aZ w a k.ds s0):Calls prog 59 #[aU k a c,ad cl,ad ino] w (qh n w):=by
 have hz:=hk.sz hn;have hnn:k.ds.length<=1048576:=by have:=hz.t;omega
 have t0:=tX w k a c;have hcp:=Aa k a c s0 _ (by have:=hz.t;omega) hz.small (hL.below t0.ah);have HK:Hid (∀ a1 c1 ss W,aZ W a1 k.ds ss->_):=fun a1 c1 ss W h=>(xK k) ▸ xJ k a1 c1 ss W hz.m hz.d hz.t (hz.fits ss) h;have c0:=t0.box.c0;have c1:=t0.box.c1;have c2:=t0.box.c2;have c3:=t0.box.c3;have z0:w.heap.size+2=((w.alloc (cJ k a c)).alloc df).heap.size:=by simp
 obtain ⟨W0,hW0⟩:∃ W0,(w.alloc (cJ k a c)).alloc df=W0:=⟨_,rfl⟩;rw[hW0] at t0 hcp c0 c1 c2 c3 z0;unfold vL at hcp;clear hL;cases hok:fj k with
 | false=>
  rw[hok] at HK;clear hok;go_enter func59,ntmps59;go_wp2_with (first
   | (go_at_call 20;refine hcp.mono ?_;rintro e w1 ⟨a1,c1',ss,rfl,l1,b1⟩;have t1:=t0.below b1;have x0:=t1.box.c0;have x1:=t1.box.c1;have x2:=t1.box.c2;have x3:=t1.box.c3;have g0:=t1.box.f0;have g1:=t1.box.f1;have g2:=t1.box.f2;have g3:=t1.box.f3;have u1:=qe t1 l1 (by omega);have d0:=u1.box.c0;have d1:=u1.box.c1;have d2:=u1.box.c2;have d3:=u1.box.c3)
   | (go_at_call 9;refine (HK.out _ _ _ _ u1.lq.eN).mono ?_;rintro e w2 ⟨rfl,b2⟩;have u2:=u1.below b2;have d0:=u2.box.c0;have d1:=u2.box.c1;have d2:=u2.box.c2;have d3:=u2.box.c3;have y0:=u2.az.c0;have y1:=u2.az.c1;have y2:=u2.az.c2;have y3:=u2.az.c3;have e0:=u2.az.f0;have e1:=u2.az.f1;have e2:=u2.az.f2;have e3:=u2.az.f3))
  obtain ⟨V,hV⟩:∃ V,((((w2.setCell ⟨w.heap.size+1,0,none⟩ (.string k.mem)).setCell ⟨w.heap.size+1,1,none⟩ (.string k.ay)).setCell ⟨w.heap.size+1,2,none⟩ (.slice a1 k.ds.length c1')).setCell ⟨w.heap.size+1,3,none⟩ (ad k.ck))=V:=⟨_,rfl⟩;obtain ⟨qq,ll,mm⟩:=sX u2 hV;have v0:=qq.c0;have v1:=qq.c1;have v2:=qq.c2;have v3:=qq.c3;subst hV;exact bL (v:=.tuple #[aU k a1 c1',ad 6]) (by simp[results,results59,go_sem,v0,v1,v2,v3]) rfl (sY (k:=k) (by omega) ll mm hk)
 | true=>
  rw[hok] at HK;have hR:=Ka hok;have HB:Hid (∀ p a1 c1 ss W,p<k.ds.length->aZ W a1 k.ds ss->k.ds.length<=c1->c1<=maxLen->Calls prog 119 #[aU k a1 c1,ad (p:Int)] W fun e w'=>∃ a' c',e=.returned (.tuple #[aU (eL k p) a' c',ad (oF k p)])/\aZ w' a' (eL k p).ds (fun j=>if j<p then ss j else ss (j+1))/\(∀ g o,a'=some ⟨g,o,none⟩->W.heap.size<=g)/\aj W w'/\fV w' a' (eL k p).ds):=fun p a1 c1 ss W hp h1 h2 h3=>(Tg k a1 c1 p ss W ⟨hk.m,hk.d⟩ (by have:=hz.t;omega) hz.t (hz.fits ss) h1 h2 h3 hp (hR.Lo p hp) (SQ (j:=0) hR (aS _) hp)).mono fun e w' ⟨a',c',e1,l,f,_,_,b⟩=>⟨a',c',e1,l,f,b⟩
  clear hok hR;go_enter func59,ntmps59;go_wp2_with (first
   | (go_at_call 20;refine hcp.mono ?_;rintro e w1 ⟨a1,c1',ss,rfl,l1,b1⟩;have t1:=t0.below b1;have x0:=t1.box.c0;have x1:=t1.box.c1;have x2:=t1.box.c2;have x3:=t1.box.c3;have g0:=t1.box.f0;have g1:=t1.box.f1;have g2:=t1.box.f2;have g3:=t1.box.f3;have u1:=qe t1 l1 (by omega);have d0:=u1.box.c0;have d1:=u1.box.c1;have d2:=u1.box.c2;have d3:=u1.box.c3)
   | (go_at_call 9;refine (HK.out _ _ _ _ u1.lq.eN).mono ?_;rintro e w2 ⟨rfl,b2⟩;have u2:=u1.below b2;have d0:=u2.box.c0;have d1:=u2.box.c1;have d2:=u2.box.c2;have d3:=u2.box.c3))
  clear hcp HK c0 c1 c2 c3 x0 x1 x2 x3 g0 g1 g2 g3 t1 u1 l1 t0;go_loopw [8] (fun i W=>∃ j:Nat,j<=k.ds.length/\i=ad j/\W=w2) (fun i _=>k.ds.length-(intOf i).toNat);case atStart=>exact ⟨0,aS _,rfl,rfl⟩
  case round=>
   obtain ⟨j,hj,rfl,hw⟩:=hrel;subst hw;by_cases hlt:j<k.ds.length
   ·have lr:=u2.lq.eN;obtain ⟨b,off,rfl,hb,hc⟩:=lr.row.get hlt;obtain ⟨r0,r1,-⟩:=hc j hlt;have e1:(0:Int)<=(j:Int):=by omega
    have e2:(j:Int)<(k.ds.length:Int):=by omega
    have hcap:=Kr u2.lq;have hB:=HB.out j _ _ _ _ hlt lr hcap.1 hcap.2;have hK1:=vT (G:=w.heap.size+1) u2.lq (by have:=u2.hb;omega);have hbd:=ae9 hk hlt;obtain ⟨d,ed⟩:∃ d,au k.ds j=d:=⟨_,rfl⟩;rw[ed] at r0 r1;clear ed hc HB;by_cases h1:d.ino=ino
    ·by_cases h2:d.cl=cl
     ·have q1:(d.ino == ino)=true:=by simpa using h1
      have q2:(d.cl == cl)=true:=by simpa using h2
      clear h1 h2;obtain ⟨K,hK⟩:∃ K,eL k j=K:=⟨_,rfl⟩;obtain ⟨cd,hcd⟩:∃ x,oF k j=x:=⟨_,rfl⟩;have hds:Hid (K.ds=k.ds.eraseIdx j):=by show K.ds=_;rw[<- hK];rfl
      rw[hK,hcd] at hB;rw[hK] at hbd;clear hK hcd;go_wp2_with (go_at_call 119;refine hB.mono ?_;rintro e w5 ⟨a5,c5,rfl,l5,f5,b5,yB⟩;have u5:=u2.below b5;have y0:=u5.az.c0;have y1:=u5.az.c1;have y2:=u5.az.c2;have y3:=u5.az.c3;have e0:=u5.az.f0;have e1:=u5.az.f1;have e2:=u5.az.f2;have e3:=u5.az.f3);have qq:=u5.az.eU (.string K.mem) (.string K.ay) (.slice a5 K.ds.length c5) (ad K.ck);have bb:=(((cN w5 (w.heap.size+1) 0 (.string K.mem)).trans (cN _ (w.heap.size+1) 1 (.string K.ay))).trans (cN _ (w.heap.size+1) 2 (.slice a5 K.ds.length c5))).trans (cN _ (w.heap.size+1) 3 (ad K.ck));have ll:=kj l5 bb (by rw[hds.out];exact ri hK1 hlt f5 u2.az.lt);have mm:=(((u5.ah.setCell (p:=⟨w.heap.size+1,0,none⟩) (bP _) (.string K.mem)).setCell (p:=⟨w.heap.size+1,1,none⟩) (bP _) (.string K.ay)).setCell (p:=⟨w.heap.size+1,2,none⟩) (bP _) (.slice a5 K.ds.length c5)).setCell (p:=⟨w.heap.size+1,3,none⟩) (bP _) (ad K.ck);have v0:=qq.c0;have v1:=qq.c1;have v2:=qq.c2;have v3:=qq.c3;have hap:iR a5 K.ds (fun i=>if i<j then ss i else ss (i+1)):=by rw[hds.out];exact Kt lr hlt f5
      exact bL (v:=.tuple #[aU K a5 c5,ad cd]) (by simp[results,results59,go_sem,v0,v1,v2,v3]) rfl ⟨K,a5,c5,_,_,rfl,hbd,ll,hap,fun G hG=>by rw[hds.out];exact ri (vT (G:=G) u2.lq (by have:=u2.hb;omega)) hlt f5 (by have:=u2.az.lt;omega),mm,mu yB bb (by rw[hds.out];exact ri hK1 hlt f5 u2.az.lt)⟩
     have q1:(d.ino == ino)=true:=by simpa using h1
     have q2:(d.cl == cl)=false:=by simpa using h2
     clear h1 h2;go_wp2;go_roundw;case rel=>exact ⟨j+1,by omega,by go_num,by trivial⟩
     case measure=>simp[intOf];omega
    have q1:(d.ino == ino)=false:=by simpa using h1
    clear h1;go_wp2;go_roundw;case rel=>exact ⟨j+1,by omega,by go_num,by trivial⟩
    case measure=>simp[intOf];omega
   obtain rfl:j=k.ds.length:=by omega
   have e9:decide ((k.ds.length:Int)<(k.ds.length:Int))=false:=by simp
   have y0:=u2.az.c0;have y1:=u2.az.c1;have y2:=u2.az.c2;have y3:=u2.az.c3;have e0:=u2.az.f0;have e1:=u2.az.f1;have e2:=u2.az.f2;have e3:=u2.az.f3;go_wp2;obtain ⟨V,hV⟩:∃ V,((((wr.setCell ⟨w.heap.size+1,0,none⟩ (.string k.mem)).setCell ⟨w.heap.size+1,1,none⟩ (.string k.ay)).setCell ⟨w.heap.size+1,2,none⟩ (.slice a1 k.ds.length c1')).setCell ⟨w.heap.size+1,3,none⟩ (ad k.ck))=V:=⟨_,rfl⟩;obtain ⟨qq,ll,mm⟩:=sX u2 hV;have v0:=qq.c0;have v1:=qq.c1;have v2:=qq.c2;have v3:=qq.c3;subst hV;exact bL (v:=.tuple #[aU k a1 c1',ad 1]) (by simp[results,results59,go_sem,v0,v1,v2,v3]) rfl (sY (k:=k) (by omega) ll mm hk)
theorem afb {n:Nat} {k:aL} (h:dS n k):dS n (CA k).1:=by
 unfold CA;split
 ·rename_i hok;have hR:=SO (Ka hok);have hl:(aY k).ds=k.ds:=rfl;have r:=Ac (aY k) hR.ok k.ds.length (aq _);refine ⟨r.ok.1,r.ok.2,bt r.sub.length_le h.l,fun j hj=>?_⟩;obtain ⟨i,hi,e⟩:=Kb (k:=aY k) hR.ok (j:=k.ds.length) (aq _) hj;rw[e];exact h.t i hi
 exact h
theorem afc (n:Nat) (k:aL) (a:Option Addr) (c:Nat) (s0:Nat->aA) (w:World) (hk:dS n k) (hn:n<=100) (hL:aZ w a k.ds s0):Calls prog 56 #[aU k a c] w (qh n w):=(ae6 k a c s0 w (hk.sz hn) hL).mono fun e w' ⟨a',c',ss,ac,cc,he,l,ap,g,_,b⟩=>⟨_,a',c',ss,_,he,afb hk,l,ap,g,b⟩
theorem kT {ops:Array Oper} {Q:Exit->Act->World->Prop} {md:Region.Mode} {S:World->Prop} {oi:Oper} {fuel:Nat} {listed:Array Bool} {A:Act} {W:World} {base g c3:Nat} {a3:Option Addr} {Z:List Int} (i:Nat) (sl x:Operand) (hbuf:bo base W (some ⟨g,0,none⟩) 0 0 []) (hR:aI W a3 Z) (hlen:Z.length<=1000) (hb:base<=W.heap.size) (hs:A.eval sl=bg g 0 0) (hx:A.eval x=.slice a3 Z.length c3) (h:∀ a' cap' w',bo base w' a' Z.length cap' Z->Below base W w'->W.grownBy w' (some g)->(∀ x o,a'=some ⟨x,o,none⟩->(x=g\/x=W.heap.size)/\x<w'.heap.size)->S w'/\wpAnyH prog md ops Q S fuel (listed.setIfInBounds i true) (A.put oi.dst (.slice a' Z.length cap')) w') (ho:ops[i]? = some oi:=by exact rfl) (hw:Region.wanted oi (yielded ops A.tmps)=true:=by rfl) (hop:oi.op=.call { callee:=.builtin .append,args:=#[sl,x],argTypes:=#[29,29] }:=by exact rfl):wpOp prog ops Q i (fun a' w'=>S w'/\wpAnyH prog md ops Q S fuel (listed.setIfInBounds i true) a' w') A W:=by
 obtain ⟨a',cap',w',hrun,r1,r2,r3⟩:=zO oi.type hbuf a3 c3 Z hR (by omega) hb;rw[cR] at hrun r1;obtain ⟨h1,h2⟩:=h a' cap' w' r1 (eK hbuf hb r2) r2 (fun x o e=>by
  have hx:(Value.slice a' Z.length cap').ownBlock=some x:=by rw[e];rfl
  refine ⟨?_,(r1.2.lt x hx).2⟩;rcases r3 x (by rw[cR];exact hx) with h | h
  ·left;have e':g=x:=by simpa [Value.ownBlock] using h
   exact e'.symm
  exact Or.inr h)
 unfold wpOp;rw[ho];refine gT hw (.inl ?_);unfold Oper.wp;rw[show (execOp A.eval oi).run prog W=.ok (.value (.slice a' Z.length cap')) w' by simp[execOp,hop,resolve,invoke,builtin,hs,hx,hrun,Result.andThen]];exact ⟨h1,h2⟩
abbrev Ge (W:World) (B:Nat) (ino cl un:Int) (R:ByteArray) (a:Option Addr) (n c:Nat):World:=(((((((W.setCell ⟨B,0,none⟩ (.int .i64 ino)).setCell ⟨B,1,none⟩ (.int .i64 cl)).setCell ⟨B,2,none⟩ (.int .i64 un)).setCell ⟨B,3,none⟩ (.string R)).setCell ⟨B,4,none⟩ (.slice a n c)).setCell ⟨B,5,none⟩ (.string ⟨#[]⟩)).setCell ⟨B,6,none⟩ (.slice none 0 0)).setCell ⟨B,7,none⟩ (.slice none 0 0)
abbrev Tu (ino cl un:Int) (R:ByteArray) (a:Option Addr) (n c:Nat):List Value:=[.int .i64 ino,.int .i64 cl,.int .i64 un,.string R,.slice a n c,.string ⟨#[]⟩,.slice none 0 0,.slice none 0 0]
abbrev rj:List Value:=[.int .i64 0,.int .i64 0,.int .i64 0,.string ⟨#[]⟩,.slice none 0 0,.string ⟨#[]⟩,.slice none 0 0,.slice none 0 0]
theorem afd {W:World} {B:Nat} (ino cl un:Int) (R:ByteArray) (a:Option Addr) (n c:Nat) (h:av B rj W):av B (Tu ino cl un R a n c) (Ge W B ino cl un R a n c):=by have q:=((((((((h.set 0 (.int .i64 ino)).set 1 (.int .i64 cl)).set 2 (.int .i64 un)).set 3 (.string R)).set 4 (.slice a n c)).set 5 (.string ⟨#[]⟩)).set 6 (.slice none 0 0)).set 7 (.slice none 0 0));simp only[jS,lX] at q;exact q
theorem Tv {w W:World} {B b:Nat} (ino cl un:Int) (R:ByteArray) (a:Option Addr) (n c:Nat) (h:Below b w W) (hB:b<=B):Below b w (Ge W B ino cl un R a n c):=((((((((h.setCell (p:=⟨B,0,none⟩) hB _).setCell (p:=⟨B,1,none⟩) hB _).setCell (p:=⟨B,2,none⟩) hB _).setCell (p:=⟨B,3,none⟩) hB _).setCell (p:=⟨B,4,none⟩) hB _).setCell (p:=⟨B,5,none⟩) hB _).setCell (p:=⟨B,6,none⟩) hB _).setCell (p:=⟨B,7,none⟩) hB _)
theorem afe {W:World} {B b:Nat} (ino cl un:Int) (R:ByteArray) (a:Option Addr) (n c:Nat) {ap:Option Addr} {Z:List Int} (h:aQ b W ap Z) (hne:Z ≠ []->∀ g o,ap=some ⟨g,o,none⟩->g≠B):aQ b (Ge W B ino cl un R a n c) ap Z:=by
 by_cases h0:Z=[];·exact Or.inl h0
 rcases h with h | ⟨g,e,hg,hk⟩;·exact absurd h h0
 have hn:=hne h0 g 0 e;exact Or.inr ⟨g,e,hg,((((((((hk.aR (fun x=>hn x.symm) 0 _).aR (fun x=>hn x.symm) 1 _).aR (fun x=>hn x.symm) 2 _).aR (fun x=>hn x.symm) 3 _).aR (fun x=>hn x.symm) 4 _).aR (fun x=>hn x.symm) 5 _).aR (fun x=>hn x.symm) 6 _).aR (fun x=>hn x.symm) 7 _)⟩
theorem aff {B:Nat} {W:World} (h:av B rj W):af W B 0 (.int .i64 0)/\af W B 1 (.int .i64 0)/\af W B 2 (.int .i64 0)/\af W B 3 (.string ⟨#[]⟩)/\af W B 4 (.slice none 0 0)/\af W B 5 (.string ⟨#[]⟩)/\af W B 6 (.slice none 0 0)/\af W B 7 (.slice none 0 0)/\W.frozen? ⟨B,0,none⟩=false/\W.frozen? ⟨B,1,none⟩=false/\W.frozen? ⟨B,2,none⟩=false/\W.frozen? ⟨B,3,none⟩=false/\W.frozen? ⟨B,4,none⟩=false/\W.frozen? ⟨B,5,none⟩=false/\W.frozen? ⟨B,6,none⟩=false/\W.frozen? ⟨B,7,none⟩=false:=⟨h.cell 0 (by simp),h.cell 1 (by simp),h.cell 2 (by simp),h.cell 3 (by simp),h.cell 4 (by simp),h.cell 5 (by simp),h.cell 6 (by simp),h.cell 7 (by simp),h.free 0 (by simp),h.free 1 (by simp),h.free 2 (by simp),h.free 3 (by simp),h.free 4 (by simp),h.free 5 (by simp),h.free 6 (by simp),h.free 7 (by simp)⟩
theorem afg {p q:ByteArray} (h:p.size+q.size<=9223372036854775807) (W:World):(binOp .add 9 (.string p) (.string q)).run prog W=.ok (.string (p++q)) W:=by simp[binOp,Op.stringOp,go_sem];omega
theorem afh {p q:ByteArray} {A:Act} {o:Oper} {W:World} {x y:Operand} (h:p.size+q.size<=9223372036854775807) (ho:o.op=.binOp .add 9 x y 9:=by rfl) (hx:A.eval x=.string p:=by rfl) (hy:A.eval y=.string q:=by rfl):(execOp A.eval o).run prog W=.ok (.value (.string (p++q))) W:=by have hr:=afg h W;obtain ⟨ev,hev⟩:∃ ev,A.eval=ev:=⟨_,rfl⟩;rw[hev] at hx hy ⊢;simp[execOp,ho,hx,hy,go_sem,hr];exact h
theorem CG {A:Act} {oi:Oper} {W W':World} {v1 v2 u:Value} {sl x:Operand} (hrun:(Builtin.append_ #[26,26] 26 #[v1,v2]).run prog W=.ok u W') (hop:oi.op=.call { callee:=.builtin .append,args:=#[sl,x],argTypes:=#[26,26] }:=by rfl) (hty:oi.type=26:=by rfl) (hs:A.eval sl=v1:=by rfl) (hx:A.eval x=v2:=by rfl):(execOp A.eval oi).run prog W=.ok (.value u) W':=by simp[execOp,hop,hty,resolve,invoke,builtin,hs,hx,hrun,Result.andThen]
theorem Tw {A:Act} {oi:Oper} {W W':World} {v1 v2 u:Value} {sl x:Operand} (hrun:(Builtin.append_ #[29,29] 29 #[v1,v2]).run prog W=.ok u W') (hop:oi.op=.call { callee:=.builtin .append,args:=#[sl,x],argTypes:=#[29,29] }:=by rfl) (hty:oi.type=29:=by rfl) (hs:A.eval sl=v1:=by rfl) (hx:A.eval x=v2:=by rfl):(execOp A.eval oi).run prog W=.ok (.value u) W':=by simp[execOp,hop,hty,resolve,invoke,builtin,hs,hx,hrun,Result.andThen]
theorem afi:(bB 32).size=32:=by decide +kernel
theorem afj:(bB 16).size=16:=by decide +kernel
theorem Kw {b B:Nat} {W:World} {ap:Option Addr} {Z:List Int} (h:aQ b W ap Z) (hne:Z ≠ []->∀ g o,ap=some ⟨g,o,none⟩->g≠B) (j:Nat) (v:Value):aQ b (W.setCell ⟨B,j,none⟩ v) ap Z:=by
 by_cases h0:Z=[];·exact Or.inl h0
 rcases h with h | ⟨g,e,hg,hk⟩;·exact absurd h h0
 exact Or.inr ⟨g,e,hg,hk.aR (fun x=>hne h0 g 0 e x.symm) j v⟩
theorem Tz (m:ByteArray) (Z:List Int) (hm:m.size=768):∀ j,(dj m Z j).size<=32*j
 | 0=>aq _
 | j+1=>by
  have ih:=Tz m Z hm j;have hp:(aO m (Z.getD j 0*32) 32).size<=32:=by
   rw[aO];split
   ·rw[lU];omega
   exact aS _
  rw[dj,fk];omega
theorem afk (z:Int) : -1<=bA z/\bA z<=10000:=by
 unfold bA;split
 ·rename_i h;simp only[aW,cj,dC] at h;omega
 omega
theorem TC (p:ByteArray × ByteArray) (i n:Int) (W:World) (hp:jN p) (hn:(bB n).size=n.toNat) (h0:0<=n) (h1:n<=1000) (i0 : -1<=i) (i1:i<=10000):∃ x y,jN (x,y)/\Calls prog 117 #[.agg #[.string p.1,.string p.2],ad i,.string (bB n)] W (aT (.agg #[.string x,.string y]) W):=by have:=QF p.1 p.2 i (bB n) W (by have:=hp.1;omega) (by have:=hp.2;omega) (by omega) (Jc i (by omega) (by omega)) (by rw[Cy];have:=hp.1;omega);refine ⟨_,_,⟨(Cy _ _ _ _).trans hp.1,?_⟩,this⟩;unfold Cd;exact J7 _ _ _ _ hp.2
theorem Kx {lo n cap m cx:Nat} {a ax:Option Addr} {w W:World} {vs news:List Value} (ho:W.ownsRow lo 49 8 (.slice a n cap) n vs) (hq:Below lo w W) (hb:lo<=W.heap.size) (hl:news.length=m*8) (hc:∀ j u,news[j]? = some u->∃ A,ax=some A/\W.cell? (A.add j)=some u) (h1:∀ u ∈ news,u.oneCell'=true) (hlen:n+m<=1048576):∃ a' cap' V,(Builtin.append_ #[26,26] 26 #[.slice a n cap,.slice ax m cx]).run prog W=.ok (.slice a' (n+m) cap') V/\V.ownsRow lo 49 8 (.slice a' (n+m) cap') (n+m) (vs++news)/\W.grownBy V (Value.slice a n cap).ownBlock/\Below lo w V/\W.heap.size<=V.heap.size:=by
 by_cases h0:m=0
 ·subst h0;obtain ⟨i0,hi,-⟩:=iW Fg;have hle:n<=cap:=by
   rcases ho.2 with ⟨h0,h1⟩ | ⟨g,c,cur,hv,_,_,hle,_⟩;·omega
   simp at hv;omega
  have hn:news=[]:=mW (by omega);subst hn;exact ⟨a,cap,W,yZ W 26 _ 49 i0 underlying26 hi a n cap hle ax cx,by rw[tA];exact ho,⟨rfl,rfl,rfl,aq _,fun _ _ _=>rfl⟩,hq,aq _⟩
 obtain ⟨u,hu⟩:∃ u,news[0]? = some u:=⟨_,gD (by omega)⟩;obtain ⟨A,rfl,-⟩:=hc 0 u hu;obtain ⟨a',cap',V,r,o,g⟩:=Km ho A m cx news hl (fun j u hu=>by obtain ⟨A',e,h⟩:=hc j u hu;cases e;exact h) h1 hlen hb;exact ⟨a',cap',V,r,o,g,lY hq g (fun g hg=>(ho.lt g hg).1) hb,g.size⟩
theorem afl {V:World} {a:Option Addr} {ds:List ak} {ss:Nat->aA} {p:Nat} (hR:aZ V a ds ss) (j:Nat) (u:Value) (hj:((cX ds ss).take (p*8))[j]? = some u):∃ A,a=some A/\V.cell? (A.add j)=some u:=by
 rw[tD] at hj;split at hj
 ·have hi:=(pI.1 hj).1;rw[ou] at hi;obtain ⟨b,off,rfl,-,hcc⟩:=hR.row.get (k:=0) (by omega);exact ⟨_,rfl,by rw[nT];exact Fp hcc j u hj⟩
 cases hj
theorem afm {V:World} {a a2:Option Addr} {ds:List ak} {ss:Nat->aA} {p c:Nat} (hR:aZ V a ds ss) (hc:ds.length<=c) (hA:∀ b off,a=some ⟨b,off,none⟩->a2=if c=p then some ⟨b,off,none⟩ else some ⟨b,off+p*8,none⟩) (j:Nat) (u:Value) (hj:((cX ds ss).drop (p*8))[j]? = some u):∃ A,a2=some A/\V.cell? (A.add j)=some u:=by rw[qD] at hj;have hi:=(pI.1 hj).1;rw[ou] at hi;obtain ⟨b,off,rfl,-,hcc⟩:=hR.row.get (k:=0) (by omega);rw[hA b off rfl,aG (by omega)];exact ⟨_,rfl,by rw[nT,mD];exact Fp hcc _ u hj⟩
theorem Ag {lo g p c:Nat} {w W:World} {a:Option Addr} {ds:List ak} {ss:Nat->aA} (hR:aZ W a ds ss) (hq:Below lo w W) (hb:lo<=W.heap.size) (ho:W.ownsRow lo 49 8 (bg g 0 0) 0 []) (hp:p<=ds.length) (hn:ds.length<=1000):∃ f c' V,(Builtin.append_ #[26,26] 26 #[bg g 0 0,.slice a p c]).run prog W=.ok (.slice f p c') V/\V.ownsRow lo 49 8 (.slice f p c') p ((cX ds ss).take (p*8))/\W.grownBy V (some g)/\Below lo w V/\W.heap.size<=V.heap.size:=by obtain ⟨f,c',V,r,o,x,y,z⟩:=Kx (m:=p) (cx:=c) (news:=(cX ds ss).take (p*8)) ho hq hb (by rw[fO,ou];omega) (afl hR) (fun u hu=>zE ds ss u (Xl hu)) (by omega);rw[cR] at r o;rw[iX] at o;exact ⟨f,c',V,r,o,x,y,z⟩
theorem Gf {lo g p c:Nat} {w W:World} {a:Option Addr} {vs:List Value} {d:ak} {s:aA} (hk:av g (eI d s) W) (hq:Below lo w W) (hb:lo<=W.heap.size) (ho:W.ownsRow lo 49 8 (.slice a p c) p vs) (hn:p<=1000):∃ f c' V,(Builtin.append_ #[26,26] 26 #[.slice a p c,bg g 1 1]).run prog W=.ok (.slice f (p+1) c') V/\V.ownsRow lo 49 8 (.slice f (p+1) c') (p+1) (vs++eI d s)/\Below lo w V/\W.heap.size<=V.heap.size:=by
 obtain ⟨f,c',V,r,o,x,y,z⟩:=Kx (m:=1) (cx:=1) (ax:=some ⟨g,0,none⟩) (news:=eI d s) ho hq hb rfl (fun j u hu=>⟨_,rfl,by
  rw[nT,cR];have hj:=pI.1 hu;rw[hk.cell j hj.1,hj.2]⟩) (SJ d s) (by omega)
 exact ⟨f,c',V,r,o,y,z⟩
theorem Gg {lo p c ca L:Nat} {w W:World} {f a a2:Option Addr} {ds:List ak} {ss:Nat->aA} {vs:List Value} (hR:aZ W a ds ss) (hq:Below lo w W) (hb:lo<=W.heap.size) (ho:W.ownsRow lo 49 8 (.slice f (p+1) c) (p+1) vs) (hp:p<=ds.length) (hn:ds.length<=1000) (hc:ds.length<=ca) (hA:∀ b off,a=some ⟨b,off,none⟩->a2=if ca=p then some ⟨b,off,none⟩ else some ⟨b,off+p*8,none⟩) (hL:L=ds.length+1):∃ f' c' V,(Builtin.append_ #[26,26] 26 #[.slice f (p+1) c,.slice a2 (ds.length-p) (ca-p)]).run prog W=.ok (.slice f' L c') V/\V.ownsRow lo 49 8 (.slice f' L c') L (vs++(cX ds ss).drop (p*8))/\Below lo w V/\W.heap.size<=V.heap.size:=by obtain ⟨f',c',V,r,o,x,y,z⟩:=Kx (m:=ds.length-p) (cx:=ca-p) (news:=(cX ds ss).drop (p*8)) ho hq hb (by rw[jC,ou];omega) (afm hR hc hA) (fun u hu=>zE ds ss u (List.mem_of_mem_drop hu)) (by omega);rw[show p+1+(ds.length-p)=L by omega] at r o;exact ⟨f',c',V,r,o,y,z⟩
theorem afn {A:Act} {oi:Oper} {W:World} {a:Option Addr} {n c p:Nat} {x y:Operand} (hp:p<=n) (hc:n<=c) (hcm:c<=maxLen) (hf:(a=none/\c=0)\/∃ g,a=some (⟨g,0,none⟩:Addr)) (hop:oi.op=.slice 26 x none (some y) none:=by rfl) (hx:A.eval x=.slice a n c:=by rfl) (hy:A.eval y=ad p:=by rfl):(execOp A.eval oi).run prog W=.ok (.value (.slice a p c)) W:=by
 obtain ⟨ev,hev⟩:∃ ev,A.eval=ev:=⟨_,rfl⟩;rw[hev] at hx hy ⊢;have h0:(0:Int)<=(p:Int):=by omega
 have h1:(p:Int)<=(n:Int):=by omega
 have h2:(p:Int)<=(c:Int):=by omega
 rcases hf with ⟨rfl,rfl⟩ | ⟨g,rfl⟩
 ·obtain rfl:n=0:=by omega
  obtain rfl:p=0:=by omega
  simp[execOp,hop,hx,hy,go_sem]
 simp[execOp,hop,hx,hy,go_sem,h0,h1,h2]
theorem afo {A:Act} {oi:Oper} {W:World} {a a2:Option Addr} {n c p:Nat} {x y:Operand} (hp:p<=n) (hc:n<=c) (hcm:c<=maxLen) (hf:(a=none/\c=0)\/∃ g,a=some (⟨g,0,none⟩:Addr)) (hA:∀ b off,a=some ⟨b,off,none⟩->a2=if c=p then some ⟨b,off,none⟩ else some ⟨b,off+p*8,none⟩) (hB:a=none->a2=none) (hop:oi.op=.slice 26 x (some y) none none:=by rfl) (hx:A.eval x=.slice a n c:=by rfl) (hy:A.eval y=ad p:=by rfl):(execOp A.eval oi).run prog W=.ok (.value (.slice a2 (n-p) (c-p))) W:=by
 obtain ⟨ev,hev⟩:∃ ev,A.eval=ev:=⟨_,rfl⟩;rw[hev] at hx hy ⊢;have h0:(0:Int)<=(p:Int):=by omega
 have h1:(p:Int)<=(n:Int):=by omega
 have h2:(p:Int)<=(c:Int):=by omega
 rcases hf with ⟨rfl,rfl⟩ | ⟨g,rfl⟩
 ·obtain rfl:n=0:=by omega
  obtain rfl:p=0:=by omega
  rw[hB rfl];simp[execOp,hop,hx,hy,go_sem]
 rw[hA g 0 rfl];simp[execOp,hop,hx,hy,go_sem,h0,h1,h2]
def nK (ds:List ak) (p:Nat) (d:ak):List ak:=ds.take p++d :: ds.drop p
def uj (ss:Nat->aA) (p:Nat) (s:aA) (j:Nat):aA:=if j<p then ss j else if j=p then s else ss (j-1)
theorem Ah {ds:List ak} {p:Nat} {d:ak} (hp:p<=ds.length):(nK ds p d).length=ds.length+1:=by rw[nK,bY,dA,fO,jC];omega
theorem Gh {ds:List ak} {p:Nat} {d:ak} (hp:p<=ds.length) (j:Nat):au (nK ds p d) j=if j<p then au ds j else if j=p then d else au ds (j-1):=by
 have hl:(ds.take p).length=p:=by rw[fO];omega
 unfold au nK;simp only[jR];by_cases h:j<p;·rw[aF h,pK (by omega),AW h]
 rw[aG h,ng (by omega),hl];by_cases e:j=p
 ·subst e;simp
 rw[aG e,show j-p=(j-1-p)+1 by omega,List.getElem?_cons_succ,qD,show p+(j-1-p)=j-1 by omega]
theorem afp {n p:Nat} {D:Nat->ak} {ss:Nat->aA} {L:List Value} {d:ak} {s:aA} (hL:L.length=n*8) (h:∀ j,j<n->mM L (j*8) (D j) (ss j)) (hp:p<=n) (j:Nat) (hj:j<n+1):mM (L.take (p*8)++eI d s++L.drop (p*8)) (j*8) (if j<p then D j else if j=p then d else D (j-1)) (uj ss p s j):=by
 have hl0:(L.take (p*8)).length=p*8:=by rw[fO,hL];omega
 have hl1:(eI d s).length=8:=rfl;unfold uj;by_cases hjp:j<p
 ·have e:∀ x,x<8->(L.take (p*8)++eI d s++L.drop (p*8))[j*8+x]? = L[j*8+x]?:=fun x hx=>by
   rw[jQ,pK (by omega),AW (by omega)]
  obtain ⟨f0,f1,f2,f3,f4,f5,f6,f7⟩:=h j (by omega);have e0:=e 0 (by omega);rw[mZ] at e0;rw[aF hjp,aF hjp];exact ⟨e0.trans f0,(e 1 (by omega)).trans f1,(e 2 (by omega)).trans f2,(e 3 (by omega)).trans f3,(e 4 (by omega)).trans f4,(e 5 (by omega)).trans f5,(e 6 (by omega)).trans f6,(e 7 (by omega)).trans f7⟩
 by_cases Nb:j=p
 ·subst Nb;have e:∀ x,x<8->(L.take (j*8)++eI d s++L.drop (j*8))[j*8+x]? = (eI d s)[x]?:=fun x hx=>by
   rw[jQ,ng (by omega),hl0,aiU,pK (by omega)]
  have e0:=e 0 (by omega);rw[mZ] at e0;rw[aG hjp,aF rfl,aG hjp,aF rfl];exact ⟨e0,e 1 (by omega),e 2 (by omega),e 3 (by omega),e 4 (by omega),e 5 (by omega),e 6 (by omega),e 7 (by omega)⟩
 have e:∀ x,x<8->(L.take (p*8)++eI d s++L.drop (p*8))[j*8+x]? = L[(j-1)*8+x]?:=fun x hx=>by rw[ng (by rw[bY,hl0,hl1];omega),bY,hl0,hl1,qD];congr 1;omega
 obtain ⟨f0,f1,f2,f3,f4,f5,f6,f7⟩:=h (j-1) (by omega);have e0:=e 0 (by omega);rw[mZ,mZ] at e0;rw[aG hjp,aG Nb,aG hjp,aG Nb];exact ⟨e0.trans f0,(e 1 (by omega)).trans f1,(e 2 (by omega)).trans f2,(e 3 (by omega)).trans f3,(e 4 (by omega)).trans f4,(e 5 (by omega)).trans f5,(e 6 (by omega)).trans f6,(e 7 (by omega)).trans f7⟩
theorem TD {ds:List ak} {p:Nat} {ss:Nat->aA} {d:ak} {s:aA} {W:World} (hp:p<=ds.length) (hS:vl W ds ss) (hs:dq W d s):vl W (nK ds p d) (uj ss p s):=fun j hj=>by
 rw[Ah hp] at hj;rw[Gh hp];unfold uj;by_cases hjp:j<p
 ·rw[aF hjp,aF hjp];exact hS j (by omega)
 by_cases e:j=p
 ·rw[aG hjp,aG hjp,aF e,aF e];exact hs
 rw[aG hjp,aG hjp,aG e,aG e];exact hS (j-1) (by omega)
theorem afq {ds:List ak} {p base c2:Nat} {ss:Nat->aA} {a2:Option Addr} {d:ak} {s:aA} {W:World} (hp:p<=ds.length) (hS:vl W ds ss) (hs:dq W d s) (ho:W.ownsRow base 49 8 (.slice a2 (ds.length+1) c2) (ds.length+1) ((cX ds ss).take (p*8)++eI d s++(cX ds ss).drop (p*8))):aZ W a2 (nK ds p d) (uj ss p s):=by
 have hL:=ou ds ss;refine ⟨?_,fun j hj=>?_⟩
 ·rcases ho.2 with ⟨h0,h1⟩ | ⟨g,cc,cur,hv,_⟩;·omega
  simp at hv;obtain ⟨rfl,rfl⟩:=hv;obtain ⟨_,hk⟩:=Fq ho (by rw[bY,bY,fO,jC,hL];simp;omega);refine Or.inr ⟨g,0,rfl,hk.lt,fun j hj=>?_⟩;rw[Ah hp] at hj;rw[cR,Gh hp];exact BW hk (afp hL (fun i hi=>zD ds ss i hi) hp j hj)
 exact TD hp hS hs j hj
theorem afr {n:Nat} {k:aL} {m p:ByteArray} {at_:Nat} {d:ak} (h:dS n k) (hp:jN (m,p)) (hat:at_<=k.ds.length) (hd:fD d<=2000):dS (n+1) ⟨m,p,nK k.ds at_ d,k.ck⟩:=by
 refine ⟨hp.1,hp.2,?_,fun j hj=>?_⟩
 ·show (nK k.ds at_ d).length<=n+1
  rw[Ah hat];have:=h.l;omega
 have hj':j<(nK k.ds at_ d).length:=hj;rw[Ah hat] at hj';show fD (au (nK k.ds at_ d) j)<=2000
 rw[Gh hat];by_cases hjp:j<at_
 ·rw[aF hjp];exact h.t j (by omega)
 by_cases e:j=at_
 ·rw[aG hjp,aF e];exact hd
 rw[aG hjp,aG e];exact h.t (j-1) (by omega)
theorem afs {ds:List ak} {p G:Nat} {ss:Nat->aA} {a a2:Option Addr} {d:ak} {s:aA} (hp:p<=ds.length) (hc:eE G a ds ss) (hs:(d.pg ≠ []->∀ g o,s.a1=some ⟨g,o,none⟩->g≠G)/\(d.po ≠ []->∀ g o,s.a2=some ⟨g,o,none⟩->g≠G)/\(d.fr ≠ []->∀ g o,s.a3=some ⟨g,o,none⟩->g≠G)) (ha:∀ g o,a2=some ⟨g,o,none⟩->g≠G):eE G a2 (nK ds p d) (uj ss p s):=by
 refine ⟨fun _=>ha,fun j hj=>?_⟩;rw[Ah hp] at hj;rw[Gh hp];unfold uj;by_cases hjp:j<p
 ·rw[aF hjp,aF hjp];exact hc.2 j (by omega)
 by_cases e:j=p
 ·rw[aG hjp,aG hjp,aF e,aF e];exact hs
 rw[aG hjp,aG hjp,aG e,aG e];exact hc.2 (j-1) (by omega)
theorem aft {a2:Option Addr} {ds:List ak} {ss:Nat->aA} {X:World} (hX:vl X ds ss) (ha:∀ g o,a2=some ⟨g,o,none⟩->X.heap.size<=g):iR a2 ds ss:=fun g o e j hj=>by
 have r:∀ {zs:List Int} {p:Option Addr},aI X p zs->zs ≠ []->∀ x y,p=some ⟨x,y,none⟩->x≠g:=fun hr h0 x y e'=>by have:=Gd hr h0 x y e';have:=ha g o e;omega
 exact ⟨r (hX j hj).r1,r (hX j hj).r2,r (hX j hj).r3⟩
end Go.Proofs.YtidmmopnkjbjoaaGreatDoor
