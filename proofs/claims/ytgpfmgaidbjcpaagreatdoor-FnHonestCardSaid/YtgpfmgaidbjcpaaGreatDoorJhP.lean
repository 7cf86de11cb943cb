/- Joined texts. -/
import Derived.Test.YtgpfmgaidbjcpaaGreatDoorJhK
import Derived.Test.YtgpfmgaidbjcpaaGreatDoorJhM
import Derived.Test.YtgpfmgaidbjcpaaGreatDoorJhL
set_option linter.unusedVariables false
set_option linter.unusedSimpArgs false
set_option maxRecDepth 10000
set_option maxHeartbeats 16000000
namespace Go.Proofs.YtgpfmgaidbjcpaaGreatDoor
open ChangeShapes WideShapes ChangeAt RowKit
open Go.Proofs.Tryz
section
open Go.Sort (Holds putRow grow)
variable {B : Nat} {N : Nat → dw} {F : Nat → Nat} {P : Nat → ByteArray} {w W W' : World} {Z : Nat → List Int}
structure FJ (N:Nat->dw) (Z:Nat->List Int) (W:World):Prop where
 n:∀ i,i<8->(N i).n=(Z i).length
 row:∀ i,i<8->aK W (N i).a (Z i)
 yB:∀ i,(Z i).length<=12
theorem Rk (w:World) (hT:eH B N F P w) (hZ:FJ N Z w):Calls prog 95 #[ao B 0] w fun e w'=>∃ g c,e=.returned (aH g (dJ Z 8).length c)/\(dJ Z 8).length<=c/\w.heap.size<=g/\az g (cR (gl (dJ Z 8))) w'/\ah w w':=by
 have hr:=World.rangeAt_alloc hT.range (.cells #[] 3);have NI:(lq N 8).length=48:=rh N 8;have hix:=fun i hi W=>QG N i hi W;obtain ⟨C,hC⟩:∃ C,(lq N 8).toArray=C:=⟨_,rfl⟩;have HC:Hid ((lq N 8).toArray=C):=hC;rw[hC] at hix;have HX:Hid (∀ i:Nat,i<8->∀ W,(Instr.index 171 (.agg C) (aa (i:Int))).run prog W=.ok (.agg #[aa (N i).k,aa (N i).o,aa (N i).s,.slice (N i).a (N i).n (N i).c,.string (N i).x,.slice (N i).ae (N i).ne (N i).ce]) W):=hix;have b0:=lP (base:=w.heap.size) w (av _);have l0:=aA w (.cells #[] 3);have hlen:=xp hZ.yB;clear hC hix;go_enter func95,ntmps95;go_wp2_with (refine Zc rfl 171 (.tmp 9) rfl B 0 rfl _ _ hr underlying171 rfl (by rw[QF,NI]) ?_;rw[HC.out]);clear hr;go_loopw [3,11] (fun v i w'=>∃ (k n c g:Nat),k<=8/\i=aa k/\v=aH g n c/\bH w.heap.size w' (some ⟨g,0,none⟩) n c (dJ Z k)/\ah w w') (fun _ i _=>8-(intOf i).toNat);case atStart=>exact ⟨0,0,0,_,bh _,rfl,rfl,b0,l0⟩
 case round=>
 obtain ⟨k,n,c,g,hk,rfl,rfl,hbuf,hbel⟩:=hrel;clear b0 l0;by_cases hlt:k<8
 ·have hx:=HX.out k hlt;have hpn:=hZ.n k hlt;have hrow:=(hZ.row k hlt).below (hbel);have e1:(0:Int)<=(k:Int):=by omega
  have e2:(k:Int)<8:=by omega
  have hnl:n<=96:=by have:=hlen k;rw[hbuf.1];omega
  have GG:=hZ.yB k;have HS:Hid (dJ Z k++Z k=dJ Z (k+1)):=rfl;obtain ⟨zk,Dv⟩:∃ zk,Z k=zk:=⟨_,rfl⟩;rw[Dv] at hpn hrow GG HS;obtain ⟨d,hd⟩:∃ d,N k=d:=⟨_,rfl⟩;rw[hd] at hx hpn hrow;rw[hpn] at hx;clear Dv hd hpn;have nb:=aY d.ie wr 170;have nl:=aA wr (.cells #[aa d.k,aa d.o,aa d.s,.slice d.a zk.length d.c,.string d.x,.slice d.ae d.ne d.ce] 170);have oX:=hbuf.below nl;have ajR:=hrow.below nl;have Bb:=hbel.trans (nl.mono hbel.size);have c3:(wr.alloc (.cells #[aa d.k,aa d.o,aa d.s,.slice d.a zk.length d.c,.string d.x,.slice d.ae d.ne d.ce] 170)).cell? ⟨wr.heap.size,3,none⟩=some (.slice d.a zk.length d.c):=(aY [aa d.k,aa d.o,aa d.s,.slice d.a zk.length d.c,.string d.x,.slice d.ae d.ne d.ce] wr 170).cell 3 (by simp);go_wp2_with (at_builtin;refine ab2 rfl (.tmp 14) (.tmp 17) rfl oX _ _ zk (by rfl) (by rfl) ajR (by omega) Bb.size ?_;intro g2 c2 w2 tB bl2);go_roundw;case rel=>exact ⟨k+1,n+zk.length,c2,g2,by omega,by go_num,rfl,by rw[<- HS.out];exact tB,Bb.trans bl2⟩
  case measure=>simp[intOf];omega
 obtain rfl:k=8:=by omega
 have hn:n=(dJ Z 8).length:=hbuf.1;have hc8:=hlen 8;subst hn;have hlt':=hbuf.2.lt g rfl;have hH:az g (cR (dJ Z 8)) wr:=by
  rcases hbuf.own with h0 | ⟨g',e,_,hk'⟩
  ·rw[h0];exact ⟨fun j hj=>by simp at hj,fun j hj=>by simp at hj,hlt'.2⟩
  cases e;exact hk'
 have hsort:=Tryz.slices_Sort_int g 0 c (dJ Z 8) wr (Fk hH) hlt'.2 (by omega);have HB:Hid (az g (cR (dJ Z 8)) wr/\bH w.heap.size wr (some ⟨g,0,none⟩) (dJ Z 8).length c (dJ Z 8)):=⟨hH,hbuf⟩;clear hbuf hH hZ hT HX HC;go_wp2_with (go_at_call 98;refine hsort.mono ?_;rintro e w7 ⟨rfl,m7,os7,hw7⟩);go_ret;subst hw7;exact ⟨g,c,rfl,HB.out.2.fits,hlt'.1,QB HB.out.1 (zM _),hbel.trans (QC hlt'.1 hbel.size)⟩
end
section
variable {w W W' : World} {B : Nat} {a : Option Addr}
def qg (mem:ByteArray) (i:Int):ByteArray:=if bg (aj mem i)=2 then ⟨#[]⟩ else jH mem i
def zX (mem:ByteArray) (i:Int) (w:World) (e:Ending) (w':World):Prop:=
 ∃ (k o t:Int) (a:Option Addr) (n c:Nat) (x:ByteArray) (ae:Option Addr) (ne ce:Nat),e=.returned (.tuple #[iY k o t a n c x ae ne ce,.bool (dD mem i)])/\ah w w'/\
  (dD mem i=true->k=bg (aj mem i)/\o=bI (aj mem i)/\n=(aD (aj mem i)).length/\n<=c/\aR w.heap.size w' a (aD (aj mem i))/\ne=(cP mem i).length/\ne<=ce/\cU w.heap.size w' ae (cP mem i)/\x=qg mem i)
theorem adr {mem:ByteArray} {i:Int} {w w':World} {k o t:Int} {a:Option Addr} {n c:Nat} {x:ByteArray} {ae:Option Addr} {ne ce:Nat} (h:dD mem i=false) (hb:ah w w'):zX mem i w (.returned (.tuple #[iY k o t a n c x ae ne ce,.bool false])) w':=⟨k,o,t,a,n,c,x,ae,ne,ce,by rw[h],hb,fun h'=>by rw[h] at h';cases h'⟩
theorem ads {mem:ByteArray} {i:Int} {w w':World} {t:Int} {a:Option Addr} {c:Nat} {x:ByteArray} {ae:Option Addr} {ce:Nat} (h:dD mem i=true) (hb:ah w w') (hc:(aD (aj mem i)).length<=c) (ho:aR w.heap.size w' a (aD (aj mem i))) (hce:(cP mem i).length<=ce) (hoe:cU w.heap.size w' ae (cP mem i)) (hx:x=qg mem i):zX mem i w (.returned (.tuple #[iY (bg (aj mem i)) (bI (aj mem i)) t a (aD (aj mem i)).length c x ae (cP mem i).length ce,.bool true])) w':=⟨_,_,t,a,_,c,x,ae,_,ce,by rw[h],hb,fun _=>⟨rfl,rfl,rfl,hc,ho,rfl,hce,hoe,hx⟩⟩
theorem adt (mem:ByteArray) (i:Int):((bg (aj mem i) != 2)=true->qg mem i=jH mem i)/\((bg (aj mem i) != 2)=false->qg mem i=⟨#[]⟩):=by unfold qg;refine ⟨fun h=>aM (by simpa using h),fun h=>aN (by simpa using h)⟩
theorem adu (mem:ByteArray) (i:Int) (w:World) (hm:mem.size=768):Calls prog 137 #[.string mem,aa i] w (zX mem i w):=by
 have hms:mem.size<=281474976710656:=by omega
 have hrs:=vg mem i hms;have hpt:Hid (∀ W,Calls prog 16 #[.string mem,aa (aZ i),aa 16] W (aV (.string (aj mem i)) W)):=fun W=>lM _ _ _ _ hms;have hG:Hid (∀ W,Calls prog 184 #[.string (aj mem i)] W (gR (aj mem i) W)):=fun W=>BC _ W hrs;have hA:Hid (∀ W e w',gR (aj mem i) W e w'->∃ a c,e=.returned (.tuple #[aO (bg (aj mem i)) (bI (aj mem i)) (bU (aj mem i)) a (aD (aj mem i)).length c,.bool (bM (aj mem i))])/\aR W.heap.size w' a (aD (aj mem i))/\(aD (aj mem i)).length<=c/\ah W w'):=fun W e w' h=>h;have nj:=fun h=>pQ (s:=aj mem i) h;have HN:Hid (∀ k o t a n c x ae ne ce w',dD mem i=false->ah w w'->zX mem i w (.returned (.tuple #[iY k o t a n c x ae ne ce,.bool false])) w'):=fun k o t a n c x ae ne ce w' h hb=>adr h hb;have HY:Hid (∀ t a c x ae ce w',dD mem i=true->ah w w'->(aD (aj mem i)).length<=c->aR w.heap.size w' a (aD (aj mem i))->(cP mem i).length<=ce->cU w.heap.size w' ae (cP mem i)->x=qg mem i->zX mem i w (.returned (.tuple #[iY (bg (aj mem i)) (bI (aj mem i)) t a (aD (aj mem i)).length c x ae (cP mem i).length ce,.bool true])) w'):=fun t a c x ae ce w' h hb hc ho hce hoe hx=>ads h hb hc ho hce hoe hx;have hcase:=Jp mem i;obtain ⟨Hc,GQ⟩:=adt mem i;have hdat:jH mem i=(di mem (aD (aj mem i)) (aD (aj mem i)).length).extract 0 (bU (aj mem i)).toNat:=rfl;obtain ⟨R,hR⟩:∃ R,zX mem i w=R:=⟨_,rfl⟩;rw[hR] at HN HY ⊢;obtain ⟨Q,hQ⟩:∃ Q,aj mem i=Q:=⟨_,rfl⟩;rw[hQ] at hpt hG hA nj HY hcase hdat Hc GQ;obtain ⟨D,hD⟩:∃ D,jH mem i=D:=⟨_,rfl⟩;rw[hD] at hcase hdat Hc;obtain ⟨K,hK⟩:∃ K,bg Q=K:=⟨_,rfl⟩;obtain ⟨O,hO⟩:∃ O,bI Q=O:=⟨_,rfl⟩;obtain ⟨S,hS⟩:∃ S,bU Q=S:=⟨_,rfl⟩;obtain ⟨Z,hZ⟩:∃ Z,aD Q=Z:=⟨_,rfl⟩;rw[hK] at hcase Hc GQ;rw[hK,hO,hZ] at HY;rw[hK,hO,hS,hZ] at hA;rw[hS,hZ] at hdat;rw[hK,hS,hZ] at nj;have hgd:Hid (∀ W,Calls prog 27 #[.string D] W (nN D W)):=fun W=>EK _ _ (by rw[<- hD];exact Jq mem i hm)
 have HD:Hid (∀ W e w',nN D W e w'->∃ a c,e=.returned (.tuple #[.slice a (dy D).length c,.bool (dh D)])/\cU W.heap.size w' a (dy D)/\(dy D).length<=c/\ah W w'):=fun W e w' h=>h;clear hR hQ hK hO hS hZ hrs hD;have HA:Hid ((K != 2)=true->qg mem i=D):=Hc;have HBB:Hid ((K != 2)=false->qg mem i=⟨#[]⟩):=GQ;clear Hc GQ;rcases hcase with ⟨gI,hp⟩ | ⟨gI,g2,hp,hE⟩ | ⟨gI,g2,hp,hE⟩
 ·rw[gI] at hA;clear gI nj hgd;go_enter func137,ntmps137;go_wp2_with (first
   | (go_at_call 17;refine (gP _ _).mono ?_;rintro e wq ⟨rfl,rfl⟩)
   | (go_at_call 16;refine (hpt.out _).mono ?_;rintro e w1 ⟨rfl,b1⟩)
   | (go_at_call 184;refine (hG.out _).mono ?_;intro e w2 hans;obtain ⟨a,c,rfl,ho,hc,b2⟩:=hA.out _ _ _ hans;clear hans;have p2:=zF (k:=K) (o:=O) (t:=S) (a:=a) (n:=Z.length) (c:=c) (b1.trans (b2.mono b1.size));have y0:=p2.nb.c0;have y1:=p2.nb.c1;have y2:=p2.nb.c2;have y3:=p2.nb.c3;obtain ⟨i0,i1,i2,i3,i4,i5⟩:=gB p2.res;obtain ⟨j0,j1,j2,j3,j4,j5⟩:=zB p2.res))
  have q:=zC p2.res (aa 0) (aa 0) (aa 0) (.slice none 0 0) (.string ⟨#[]⟩) (.slice none 0 0);obtain ⟨u0,u1,u2,u3,u4,u5⟩:=gB q;exact bF (v:=.tuple #[iY 0 0 0 none 0 0 ⟨#[]⟩ none 0 0,.bool false]) (by simp[results,results137,go_sem,u0,u1,u2,u3,u4,u5]) rfl (HN.out _ _ _ _ _ _ _ _ _ _ _ hp (zD p2.au (av _) (aa 0) (aa 0) (aa 0) (.slice none 0 0) (.string ⟨#[]⟩) (.slice none 0 0)))
 ·obtain ⟨⟨s0,s1⟩,zl,s2,hpk,-⟩:=nj gI;rw[gI] at hA;rw[hE] at HY;clear gI nj hgd hE;have hds:Hid (∀ W c a,aK W a Z->Calls prog 20 #[.string mem,aO K O S a Z.length c] W (aV (.string D) W)):=fun W c a h=>by rw[hdat];exact BL mem K O S a c Z W hm hpk zl s0 s2 h
  clear hdat;go_enter func137,ntmps137;go_wp2_with (first
   | (go_at_call 17;refine (gP _ _).mono ?_;rintro e wq ⟨rfl,rfl⟩)
   | (go_at_call 16;refine (hpt.out _).mono ?_;rintro e w1 ⟨rfl,b1⟩)
   | (go_at_call 184;refine (hG.out _).mono ?_;intro e w2 hans;obtain ⟨a,c,rfl,ho,hc,b2⟩:=hA.out _ _ _ hans;clear hans;have p2:=zF (k:=K) (o:=O) (t:=S) (a:=a) (n:=Z.length) (c:=c) (b1.trans (b2.mono b1.size));have y0:=p2.nb.c0;have y1:=p2.nb.c1;have y2:=p2.nb.c2;have y3:=p2.nb.c3;have r2:=ho.row.alloc (.cells (bj K O S a Z.length c) 35)))
  have bd:ah (w2.alloc (.cells (bj K O S a Z.length c) 35)) (w2.alloc (.cells (bj K O S a Z.length c) 35)).drew:=(aQ _ _).drew;have p3:=p2.below bd;have r3:=r2.below bd;have o3:=(ho.alloc (.cells (bj K O S a Z.length c) 35)).below bd;have hbz:=b1.size;clear bd;go_region_with ((go_at_call 20;refine (hds.out _ _ _ r3).mono ?_;rintro e w4 ⟨rfl,b4⟩;have p4:=p3.below b4;have o4:=o3.below b4;have z0:=p4.nb.c0;have z1:=p4.nb.c1;have z2:=p4.nb.c2;have z3:=p4.nb.c3;obtain ⟨i0,i1,i2,i3,i4,i5⟩:=gB p4.res;obtain ⟨j0,j1,j2,j3,j4,j5⟩:=zB p4.res))
  all_goals
   have q:=zC p4.res (aa K) (aa O) (aa S) (.slice a Z.length c) (.string D) (.slice none 0 0);obtain ⟨u0,u1,u2,u3,u4,u5⟩:=gB q;go_wp2;refine bF (v:=.tuple #[iY K O S a Z.length c D none 0 0,.bool true]) (by simp[results,results137,go_sem,u0,u1,u2,u3,u4,u5]) rfl (HY.out _ _ _ _ _ _ _ hp (zD p4.au (av _) _ _ _ _ _ _) hc ?_ (av _) (Or.inl rfl) (HA.out g2).symm);exact (EV o4 (by simp at hbz;omega) _ _ _ _ _ _).mono (by simp at hbz;omega)
 obtain ⟨⟨s0,s1⟩,zl,s2,hpk,-⟩:=nj gI;rw[gI] at hA;rw[hE] at HY;have HP:Hid (dD mem i=dh D):=hp;clear gI nj hE hp;have hds:Hid (∀ W c a,aK W a Z->Calls prog 20 #[.string mem,aO K O S a Z.length c] W (aV (.string D) W)):=fun W c a h=>by rw[hdat];exact BL mem K O S a c Z W hm hpk zl s0 s2 h
 clear hdat;go_enter func137,ntmps137;go_wp2_with (first
  | (go_at_call 17;refine (gP _ _).mono ?_;rintro e wq ⟨rfl,rfl⟩)
  | (go_at_call 16;refine (hpt.out _).mono ?_;rintro e w1 ⟨rfl,b1⟩)
  | (go_at_call 184;refine (hG.out _).mono ?_;intro e w2 hans;obtain ⟨a,c,rfl,ho,hc,b2⟩:=hA.out _ _ _ hans;clear hans;have p2:=zF (k:=K) (o:=O) (t:=S) (a:=a) (n:=Z.length) (c:=c) (b1.trans (b2.mono b1.size));have y0:=p2.nb.c0;have y1:=p2.nb.c1;have y2:=p2.nb.c2;have y3:=p2.nb.c3;have r2:=ho.row.alloc (.cells (bj K O S a Z.length c) 35);have o2:=ho.alloc (.cells (bj K O S a Z.length c) 35))
  | (go_at_call 20;refine (hds.out _ _ _ r2).mono ?_;rintro e w3 ⟨rfl,b3⟩;have p3:=p2.below b3;have o3:=o2.below b3)
  | (go_at_call 27;refine (hgd.out _).mono ?_;intro e w4 hans;obtain ⟨ae,ce,rfl,hoe,hce,b4⟩:=HD.out _ _ _ hans;clear hans;have p4:=p3.below b4;have o4:=o3.below b4;have z0:=p4.nb.c0;have z1:=p4.nb.c1;have z2:=p4.nb.c2;have z3:=p4.nb.c3;obtain ⟨i0,i1,i2,i3,i4,i5⟩:=gB p4.res;obtain ⟨j0,j1,j2,j3,j4,j5⟩:=zB p4.res))
 have q:=zC p4.res (aa K) (aa O) (aa S) (.slice a Z.length c) (.string ⟨#[]⟩) (.slice ae (dy D).length ce);obtain ⟨u0,u1,u2,u3,u4,u5⟩:=gB q;have hbl:=zD p4.au (av _) (aa K) (aa O) (aa S) (.slice a Z.length c) (.string ⟨#[]⟩) (.slice ae (dy D).length ce);have hbz:=b1.size;have hp3:=p3.res.lt;refine bF (v:=.tuple #[iY K O S a Z.length c ⟨#[]⟩ ae (dy D).length ce,.bool (dh D)]) (by simp[results,results137,go_sem,u0,u1,u2,u3,u4,u5]) rfl ?_;cases hI:dh D with
 | false=>exact HN.out _ _ _ _ _ _ _ _ _ _ _ (HP.out.trans hI) hbl
 | true=>
  refine HY.out _ _ _ _ _ _ _ (HP.out.trans hI) hbl hc ?_ hce ?_ (HBB.out g2).symm;·exact (EV o4 (by simp at hbz;omega) _ _ _ _ _ _).mono (by simp at hbz;omega)
  ·exact (PY hoe hp3 _ _ _ _ _ _).mono (pJ hp3)
end
theorem adv (s:ByteArray) (i:Int) (t:ByteArray):(bs s i t).size=s.size:=by
 unfold bs;split
 ·rename_i h;obtain ⟨h0,h1,h2⟩:=su h;rw[ke,ke,pH,pH];omega
 rfl
def xw:ByteArray:=⟨#[84,78,82,49]⟩
def zY:ByteArray:=bs (bG 768) 0 xw
def Cu (o:Int):ByteArray:=bs zY (aZ 0) (df 2 o 0 [])
def rj (o:Int):ByteArray:=if fe 2 o 0 [] then Cu o else ⟨#[]⟩
theorem Rl:(bG 768).size<=281474976710656:=by rw[bG,aN (by decide),sw];decide
theorem adw:xw.size<=281474976710656:=show 4<=281474976710656 by omega
theorem adx {t:ByteArray} (ht:t.data.toList.map UInt8.toNat=[84,78,82,49]):t=xw:=by apply kD;apply sk.1;exact (List.map_inj_right (fun _ _ h=>UInt8.toNat.inj h)).1 (ht.trans rfl)
theorem ady:zY.size<=281474976710656:=by rw[zY,adv];exact Rl
theorem adz (o:Int):(df 2 o 0 []).size<=281474976710656:=br (ZM _ _ _ _) (by decide)
structure fL (w:World) (o:Int) (W:World):Prop where
 aF:az w.heap.size (fO 2 o 0 none 0 0) W
 au:ah w W
theorem fL.below {w W W':World} {o:Int} (h:fL w o W) (hb:ah W W'):fL w o W':=⟨h.aF.below hb,h.au.trans (hb.mono h.au.size)⟩
theorem fL.drewN {w W:World} {o:Int} (h:fL w o W) (n:Nat):fL w o (W.drewN n):=⟨h.aF.drewN n,gy h.au n⟩
theorem fL.four {w W:World} {o:Int} (h:fL w o W):ad W w.heap.size 0 (aa 2)/\ad W w.heap.size 1 (aa o)/\ad W w.heap.size 2 (aa 0)/\ad W w.heap.size 3 (.slice none 0 0):=⟨h.aF.c0,h.aF.c1,h.aF.c2,h.aF.c3⟩
section
variable {w W : World} {o : Int}
theorem Rm {r:Bool} (hr:fe 2 o 0 []=r) (h:fL w o W):Calls prog 118 #[aO 2 o 0 none 0 0] W fun e w'=>e=.returned (.bool r)/\fL w o w':=(O6 2 o 0 none 0 [] W (by simp) (by simp) (Or.inl rfl)).mono fun _ _ ⟨he,hb⟩=>⟨by rw[he,hr],h.below hb⟩
theorem adA {p:ByteArray} (hp:df 2 o 0 []=p) (h:fL w o W):Calls prog 72 #[aO 2 o 0 none 0 0] W fun e w'=>e=.returned (.string p)/\fL w o w':=(BD 2 o 0 none 0 [] W (by simp) (by simp) (Or.inl rfl)).mono fun _ _ ⟨he,hb⟩=>⟨by rw[he,hp];done,h.below hb⟩
theorem adB {z:ByteArray} (hz:bG 768=z) (h:fL w o W):Calls prog 90 #[aa 768] W fun e w'=>e=.returned (.string z)/\fL w o w':=(wQ 768 W).mono fun _ _ ⟨he,hb⟩=>⟨by rw[he,hz],by rw[hb];exact h⟩
theorem adC {x:Int} (hx:aZ 0=x) (h:fL w o W):Calls prog 71 #[aa 0] W fun e w'=>e=.returned (aa x)/\fL w o w':=(Et 0 W).mono fun _ _ ⟨he,hb⟩=>⟨by rw[he,hx],by rw[hb];exact h⟩
theorem adD {z t g:ByteArray} (ht:t.data.toList.map UInt8.toNat=[84,78,82,49]) (hs:z.size<=281474976710656) (hu:bs z 0 xw=g) (h:fL w o W):Calls prog 70 #[.string z,aa 0,.string t] W fun e w'=>e=.returned (.string g)/\fL w o w':=by obtain rfl:=adx ht;exact (Ea z 0 xw W hs adw).mono fun _ _ ⟨he,n,hb⟩=>⟨by rw[he,hu],by rw[hb];exact h.drewN n⟩
theorem adE {s t u:ByteArray} {i:Int} (hs:s.size<=281474976710656) (ht:t.size<=281474976710656) (hu:bs s i t=u) (h:fL w o W):Calls prog 70 #[.string s,aa i,.string t] W fun e w'=>e=.returned (.string u)/\fL w o w':=(Ea s i t W hs ht).mono fun _ _ ⟨he,n,hb⟩=>⟨by rw[he,hu],by rw[hb];exact h.drewN n⟩
end
section
open Go.Sort (Holds putRow grow)
variable {B : Nat} {N : Nat → dw} {F : Nat → Nat} {P : Nat → ByteArray} {w W W' : World} {Z : Nat → List Int}
theorem adF (g c:Nat) (zs:List Int) (w:World) (hl:zs.length<=1048576) (h:az g (cR zs) w):Calls prog 93 #[aH g zs.length c] w fun e w'=>∃ g' c',e=.returned (aH g' zs.length c')/\zs.length<=c'/\w.heap.size<=g'/\az g' (cR zs) w'/\ah w w':=by
 have key:∀ v' w',w'.ownsRow w.heap.size 3 1 v' zs.length (cR zs)->v' ≠ .slice none 0 0->∃ g' c',v'=aH g' zs.length c'/\zs.length<=c'/\w.heap.size<=g'/\az g' (cR zs) w':=by
  intro v' w' ho hne;rcases ho.2 with ⟨h1,_⟩ | ⟨g',cap',cur,rfl,hb,hg,hnc,hcm,hcs,ht⟩;·exact absurd h1 hne
  refine ⟨g',cap',rfl,hnc,hb,?_⟩;have hi:bH w.heap.size w' (some ⟨g',0,none⟩) zs.length cap' zs:=⟨rfl,ho⟩;rcases hi.own with h0 | ⟨g2,e,_,hk⟩
  ·rw[h0];exact ⟨fun j hj=>by simp at hj,fun j hj=>by simp at hj,(nz.1 hg).1⟩
  cases e;exact hk
 refine (Tryz.slices_Clone_int g 0 zs.length c zs w (av _) (by omega) (fun j hj=>?_)).mono fun e w' ⟨v',he,ho,hne,hb⟩=>?_
 ·have:=h.cell j (by simpa using hj);rw[dW,this];simp[hj]
 rw[nC] at ho;obtain ⟨g',c',rfl,h1,h2,h3⟩:=key v' w' (by simpa using ho) hne;exact ⟨g',c',he,h1,h2,h3,hb⟩
theorem adG (w:World) (hT:eH B N F P w) (hZ:FJ N Z w):Calls prog 138 #[ao B 0] w (aV (.bool (decide (dJ Z 8).Nodup)) w):=by
 have hlen:=xp hZ.yB 8;have hp:=Rk w hT hZ;obtain ⟨zs,hzs⟩:∃ zs,dJ Z 8=zs:=⟨_,rfl⟩;rw[hzs] at hp hlen ⊢;have hsl:=zM zs;have hcl:Hid (∀ g c W,az g (cR (gl zs)) W->Calls prog 93 #[aH g zs.length c] W fun e w'=>∃ g' c',e=.returned (aH g' zs.length c')/\zs.length<=c'/\W.heap.size<=g'/\az g' (cR (gl zs)) w'/\ah W w'):=fun g c W h=>by have:=adF g c (gl zs) W (by omega) h;rw[hsl] at this;exact this
 have hcm:Hid (∀ g c W,zs.length<=c->az g (cR (gl zs)) W->Calls prog 188 #[aH g zs.length c] W fun e w'=>e=.returned (aH g (Lib.compact (gl zs)).length c)/\∀ b,b<=g->b<=W.heap.size->Below b W w'):=fun g c W hc h=>by
  have:=Tryz.slices_Compact_int g 0 c (gl zs) W (Fk h) (by omega) (by omega);rw[hsl] at this;refine this.mono fun e w' ⟨he,q,hw⟩=>⟨he,fun b hb hs=>?_⟩;subst hw;refine ⟨rfl,rfl,rfl,?_,fun k hk=>?_⟩
  ·rw[Bj];exact av _
  show (W.heap.modify g _)[k]? = W.heap[k]?
  rw[Oi,aM (by omega)]
 have hfin:(((Lib.compact (gl zs)).length:Int) == (zs.length:Int))=decide zs.Nodup:=by
  have:=ab1 zs;by_cases h:zs.Nodup
  ·rw[bK h];have:=this.2 h;simp;omega
  rw[bA h];have:¬ (Lib.compact (gl zs)).length=zs.length:=fun e=>h (this.1 e);simp;omega
 obtain ⟨L,hL⟩:∃ L,(Lib.compact (gl zs)).length=L:=⟨_,rfl⟩;rw[hL] at hcm hfin;obtain ⟨r,hr⟩:∃ r,decide zs.Nodup=r:=⟨_,rfl⟩;rw[hr] at hfin ⊢;clear hT hZ hL hr hzs;go_enter func138,ntmps138;go_wp2_with (first
  | (go_at_call 95;refine hp.mono ?_;rintro e w1 ⟨g1,c1,rfl,hc1,hg1,k1,b1⟩)
  | (go_at_call 93;refine (hcl.out _ _ _ k1).mono ?_;rintro e w2 ⟨g2,c2,rfl,hc2,hg2,k2,b2⟩)
  | (go_at_call 188;refine (hcm.out _ _ _ hc2 k2).mono ?_;rintro e w3 ⟨rfl,b3⟩))
 go_ret;exact ⟨rfl,(b1.trans (b2.mono b1.size)).trans (b3 _ (br b1.size hg2) (br b1.size b2.size))⟩
end
section
open Go.Shelf
theorem FK {l:List UInt8} {k:Nat} (hl:l.length=768) (hk:k<96):(eU l k).length=8:=by rw[eU,jk,kE];omega
theorem Ro {W:World} {G o k:Nat} {l:List UInt8} (h:W.rangeAt G o (Lib.byteCells l)) {x:List UInt8} (hx:eU l k=x):∀ j b,x[j]? = some b->ad W G (o+k*8+j) (.int .u8 (b.toNat:Int)):=by intro j b hb;subst hx;have:=Cj h (k*8) 8;rw[Fp] at this;exact this j _ (by simp only[Lib.byteCells,List.getElem?_map];rw[show List.take 8 (List.drop (k*8) l)=eU l k from rfl,hb];rfl)
def Rp (G:Nat) (la:List UInt8) (k:Nat) (W:World):Prop:=∃ lb:List UInt8,lb.length=768/\my G la lb W/\eU la k≠eU lb k
set_option maxRecDepth 100000 in
theorem adH (n G:Nat) (la:List UInt8) (hla:la.length=768) (I:Nat->World->Prop) (hrd:∀ k W,I k W->∃ lb:List UInt8,lb.length=768/\my G la lb W) (Vs:∀ k W lb,k<96->I k W->lb.length=768->my G la lb W->eU la k=eU lb k->I (k+1) W) (l:Nat) (J:Nat->World->Prop) (Jx:World->Prop) (W:World) (WK:∀ k W,J k W->I k W) (hJ:∀ k W,J k W->I (k+1) W->J (k+1) W) (hJd:∀ k W,J k W->J k W.drew) (Nk:∀ k W m,J k W->J k (W.drewN m)) (hY:∀ k W,k<96->J k W->Rp G la k W->YieldAt Fence.wide (n-1-1) prog l #[aa (k:Int)] W fun e V=>(e=.returned (.bool true)/\J (k+1) V)\/(e=.returned (.bool false)/\Jx V)) (h0:J 0 W):CallsIn Fence.wide (n-1) prog 203 (#[ao G 0] ++ #[.func (.yield l) #[] #[]]) W fun e V=>(∃ v,e=.returned v)/\(J 96 V\/Jx V):=by
 have hro:Fence.wide.round=none:=rfl;refine callsIn_of_wp func203 rfl trivial ?_ rfl;simp only[ntmps203,Bl,fv,gv,Nat.reduceAdd,Nat.reduceSub,YN,Array.replicate_zero,List.push_toArray,List.append_toArray,qE,qJ];gi_wp2
 gi_loopw [5] (fun i wr=>∃ k:Nat,k<=96/\i=aa k/\J k wr) (fun i _=>96-(intOf i).toNat)
 case atStart=>exact ⟨0,bh _,rfl,h0⟩
 case round=>
 obtain ⟨k,hk,rfl,hj⟩:=hrel;by_cases hlt:k<96
 ·have e1:(0:Int)<=(k:Int):=by omega
  have e2:(k:Int)<96:=by omega
  have hjd:=hJd _ _ hj;obtain ⟨lb,hlb,hD⟩:=hrd _ _ (WK _ _ hjd);obtain ⟨x0,x1,x2,x3,x4,x5,x6,x7,hx⟩:=Ft (eU la k) (FK hla hlt);obtain ⟨y0,y1,y2,y3,y4,y5,y6,y7,hy⟩:=Ft (eU lb k) (FK hlb hlt);have hD0:my G la lb wr:=⟨hD.m,hD.d,hD.t,hD.lt⟩;have cx:=Ro hD0.m hx;have cy:=Ro hD0.d hy;simp only[dW] at cx;have m0:=cx 0 x0 rfl;have m1:=cx 1 x1 rfl;have m2:=cx 2 x2 rfl;have m3:=cx 3 x3 rfl;have m4:=cx 4 x4 rfl;have m5:=cx 5 x5 rfl;have m6:=cx 6 x6 rfl;have m7:=cx 7 x7 rfl;have n0:=cy 0 y0 rfl;have n1:=cy 1 y1 rfl;have n2:=cy 2 y2 rfl;have n3:=cy 3 y3 rfl;have n4:=cy 4 y4 rfl;have n5:=cy 5 y5 rfl;have n6:=cy 6 y6 rfl;have n7:=cy 7 y7 rfl;simp only[sr] at m0 n0;have heq:=acF [x0,x1,x2,x3,x4,x5,x6,x7] [y0,y1,y2,y3,y4,y5,y6,y7] rfl rfl;simp only[Lib.byteCells,qF,Ob] at heq;clear cx cy;have hmx:prog.follows .mixedOrders=true:=by kernel_rfl
  by_cases hne : [x0,x1,x2,x3,x4,x5,x6,x7]=[y0,y1,y2,y3,y4,y5,y6,y7]
  ·simp only[hne,decide_true] at heq;have hn:∀ m,J (k+1) (wr.drewN m):=fun m=>hJ _ _ (Nk _ _ m hj) (Vs _ _ lb hlt (WK _ _ (Nk _ _ m hj)) hlb ⟨hD.m,hD.d,hD.t,hD.lt⟩ (by rw[hx,hy,hne]));clear Nk hJd Vs hY;gi_wp2
   refine wpIn_region_quiet_lit rfl (by kernel_rfl) (by kernel_rfl) ?_;repeat (gi_big_quiet_step (fail))
   refine BigFrame.wpQuietIn_skip (fun _ _ _ _=>trivial) rfl ?_;simp only[Act.put,Array.setIfInBounds,Bl,fv,gv,Nat.reduceAdd,Nat.reduceLT,↓reduceDIte,List.set_toArray,gL,gx];repeat (gi_big_quiet_step (fail))
   refine wpQuietIn_nil ?_;rintro _ ⟨nq,rfl⟩;gi_wp2
   go_roundw;case rel=>exact ⟨k+1,by omega,by go_num,hn _⟩
   case measure=>simp[intOf];omega
  simp only[hne,decide_false] at heq;obtain ⟨fn,tmps,assign,body,hyl,hR0⟩:=hY k wr.drew hlt hjd ⟨lb,hlb,hD,by rw[hx,hy];exact hne⟩;have hR:RoundIn Fence.wide (n-1-1) prog l fn tmps assign body wr.drew fun e V=>∃ b:Bool,e=.returned (.bool b)/\(b=true->J (k+1) V)/\(b=false->Jx V):=
   hR0.mono fun e V h=>by
    rcases h with ⟨rfl,h⟩ | ⟨rfl,h⟩;·exact ⟨true,rfl,fun _=>h,fun h=>by cases h⟩
    exact ⟨false,rfl,fun h=>(by cases h),fun _=>h⟩
  clear hR0;gi_wp2
  gi_region_with (first
   | (refine hR.mono ?_;rintro e W3 ⟨b,rfl,hJ3,hJx3⟩)
   | (refine ⟨(fun h=>by cases h),hR.mono ?_⟩;rintro e W3 ⟨b,rfl,hJ3,hJx3⟩))
  all_goals
   cases b
   ·gi_wp2
    refine bF (results_none rfl _ _ _) rfl ?_;exact ⟨⟨_,rfl⟩,.inr (hJx3 (by trivial))⟩
   ·gi_wp2
    go_roundw;case rel=>exact ⟨k+1,by omega,by go_num,hJ3 (by trivial)⟩
    case measure=>simp[intOf];omega
 obtain rfl:k=96:=by omega
 gi_wp2
 go_end0
 exact ⟨⟨_,rfl⟩,.inl hj⟩
end
theorem adI:(prog.info? 5).map (fun i=>(i.zero,i.size,i.bytes))=some (some (.int .u8 0),1,1):=by kernel_rfl
structure Cv (w:World) (l:List UInt8) (k:Nat) (W:World):Prop where
 t0:W.there w.heap.size 0 768
 row:W.rangeAt w.heap.size 0 (Lib.byteCells (l.take (k*8)))
 au:ah w W
 lt:w.heap.size<W.heap.size
theorem adJ (w:World) (M:Array Value) (hM:M.size=768) (l:List UInt8):Cv w l 0 (w.alloc (.cells M 5)):=by have h0:=Fq w M 5;rw[hM] at h0;exact ⟨h0,by simpa [Lib.byteCells] using QO _ _ _,(aQ _ _).alloc (av _) _,by simp⟩
theorem Cv.step {w W:World} {l:List UInt8} {k:Nat} (h:Cv w l k W) (hl:l.length=768) (hk:k<96):Cv w l (k+1) (W.setCells w.heap.size (k*8) (Lib.byteCells ((l.drop (k*8)).take 8))):=by
 have hlen:(Lib.byteCells ((l.drop (k*8)).take 8)).length=8:=by rw[nt,jk,kE];omega
 have hpl:(Lib.byteCells (l.take (k*8))).length=k*8:=by rw[nt,jk];omega
 refine ⟨Is h.t0 _ _ _,?_,uX (av _) _ _ _ h.au,by rw[wP];exact h.lt⟩;rw[show (k+1)*8=k*8+8 by omega,YT,On];refine Fs (DY h.row _ _ _ (by rw[hpl];omega)) ?_;rw[hpl,dW];exact DZ _ _ _ _ (by rw[hlen];exact Ck h.t0 (by omega) (by omega))
theorem Rq (l:List UInt8) (B o:Nat) (w:World) (hl:l.length=768) (hB:B<w.heap.size) (hr:w.rangeAt B o (Lib.byteCells l)):Calls prog 204 #[ao B o] w (aV (.string ⟨l.toArray⟩) w):=by
 obtain ⟨i0,hi,hz0,hz1,hz2⟩:=iv adI;obtain ⟨M,hM⟩:∃ M,M=madeCells (Value.int .u8 0).cells ((768:Int).toNat*i0.size):=⟨_,rfl⟩;have hMs:M.size=768:=by rw[hM,size_madeCells,hz1];rfl
 have hmk:(Instr.makeSlice 22 (aa 0) (aa 768)).run prog w=.ok (aH w.heap.size 0 768) (w.alloc (.cells M 5)):=by have h:=run_make (P:=prog) w 22 5 i0 (.int .u8 0) underlying22 hi hz0 .i64 .i64 0 768 (by omega) (by omega) (by rw[hz2];decide) (by decide);rw[<- hM] at h;exact h
 clear hM;have h0:=adJ w M hMs l;go_enter func204,ntmps204;go_wp2;go_loopw [3,6] (fun d i w'=>∃ k:Nat,k<=96/\i=aa k/\d=aH w.heap.size (k*8) 768/\Cv w l k w') (fun _ i _=>96-(intOf i).toNat);case atStart=>exact ⟨0,bh _,rfl,rfl,h0⟩
 case round=>
 obtain ⟨k,hk,rfl,rfl,hc⟩:=hrel;by_cases hlt:k<96
 ·have e1:(0:Int)<=(k:Int):=by omega
  have e2:(k:Int)<96:=by omega
  have hrow:wr.rangeAt B (o+k*8) (Lib.byteCells ((l.drop (k*8)).take 8)):=by rw[<- Fp];exact Cj (JF hr hc.au hB) _ _
  have hlen:(Lib.byteCells ((l.drop (k*8)).take 8)).length=8:=by rw[nt,jk,kE];omega
  have hap:=run_append_room_cells (P:=prog) wr 22 22 5 i0 underlying22 hi w.heap.size 0 (k*8) 768 ⟨B,o+k*8,none⟩ 8 8 (Lib.byteCells ((l.drop (k*8)).take 8)) (by rw[hlen,hz1])
   (fun j u hu=>by rw[Addr.add_mid];exact hrow j u hu) (H9 _) (by omega)
   (fun j hj=>by rw[hlen] at hj;rw[hz1];have:=(hc.t0 (k*8+j) (by omega)).1;simpa using this)
   (fun j hj=>by rw[hlen] at hj;rw[hz1];have:=(hc.t0 (k*8+j) (by omega)).2;simpa using this)
  rw[hz1,dW,Nat.mul_one] at hap;have h1:=hc.step hl hlt;obtain ⟨W1,hW1⟩:∃ W1,wr.setCells w.heap.size (k*8) (Lib.byteCells ((l.drop (k*8)).take 8))=W1:=⟨_,rfl⟩;rw[hW1] at hap h1;clear hW1;go_wp2_with (at_builtin;refine acr rfl (.tmp 9) (.tmp 14) 22 rfl rfl rfl hap ?_);go_roundw;case rel=>exact ⟨k+1,by omega,by go_num,by rw[show (k+1)*8=k*8+8 by omega],h1⟩
  case measure=>simp[intOf];omega
 obtain rfl:k=96:=by omega
 have hrw:=hc.row;rw[ox (by omega)] at hrw;have hcv:=tM (P:=prog) wr 22 9 5 w.heap.size 0 768 l underlying22 underlying5 underlying9 (acp hrw) 768 hl.symm;go_wp2;go_ret;exact ⟨rfl,hc.au⟩
section
open Go.Shelf
theorem Rr {G:Nat} {la lb:List UInt8} {W V:World} {row:Option Nat} (h:my G la lb W) (hg:W.grownBy V row) (hr:∀ r,row=some r->∃ o:Obj,W.heap[r]? = some o/\o.isCells=false):my G la lb V:=by refine ⟨fun j v hj=>cell_kept (h.m j v hj) hg hr,fun j v hj=>cell_kept (h.d j v hj) hg hr,fun j hj=>?_,cv h.lt hg.size⟩;obtain ⟨u,hu⟩:=al7.1 (h.t j hj).1;exact ⟨by rw[cell_kept hu hg hr];rfl,(frozen_kept hu hg hr).trans (h.t j hj).2⟩
def iD (b o:Nat) (v:Value) (W:World):Prop:=W.cell? ⟨b,o,none⟩=some v/\W.frozen? ⟨b,o,none⟩=false/\b<W.heap.size
theorem iD.own {b o:Nat} {v:Value} {W V:World} {row:Option Nat} (h:iD b o v W) (hg:W.grownBy V row) (hr:∀ r,row=some r->∃ o:Obj,W.heap[r]? = some o/\o.isCells=false):iD b o v V:=⟨cell_kept h.1 hg hr,(frozen_kept h.1 hg hr).trans h.2.1,cv h.2.2 hg.size⟩
theorem iD.below {b o:Nat} {v:Value} {W V:World} (h:iD b o v W) (hb:ah W V):iD b o v V:=⟨(hb.cell (p:=⟨b,o,none⟩) h.2.2).trans h.1,(hb.frozen (p:=⟨b,o,none⟩) h.2.2).trans h.2.1,cv h.2.2 hb.size⟩
theorem iD.set {b o g off:Nat} {v:Value} {W:World} (h:iD b o v W) (hn:b≠g) (vs:List Value):iD b o v (W.setCells g off vs):=⟨(Ib g vs off W ⟨b,o,none⟩ (fun e=>absurd e hn)).trans h.1,by rw[Oo];exact h.2.1,by rw[wP];exact h.2.2⟩
theorem iD.alloc {b o:Nat} {v:Value} {W:World} (h:iD b o v W) (ob:Obj):iD b o v (W.alloc ob):=h.below ((aQ _ _).alloc (av _) ob)
theorem JR (W:World) (v:Value) (T:TypeId) (C:Array Value) (j:Nat) (hj:C[j]? = some v):iD W.heap.size j v (W.alloc (.cells C T)):=⟨by rw[uQ];exact hj,by simp[DO],by simp⟩
theorem Rt {G:Nat} {la lb:List UInt8} {W V:World} (h:my G la lb W) (hb:ah W V):my G la lb V:=⟨JF h.m hb h.lt,JF h.d hb h.lt,acq h.t hb h.lt,cv h.lt hb.size⟩
theorem adK {l l':List UInt8} (h:Lib.byteCells l=Lib.byteCells l'):l=l':=by
 have hi:Function.Injective (fun b:UInt8=>Value.int .u8 (b.toNat:Int)):=fun x y e=>by
  injection e with _ e
  exact UInt8.toNat_inj.1 (Int.ofNat.inj e)
 exact List.map_inj_right (fun x y e=>hi e) |>.1 h
theorem adL {G:Nat} {la lb lb':List UInt8} {W:World} (h:my G la lb W) (h':my G la lb' W) (e:lb.length=lb'.length):lb=lb':=by
 apply adK;apply wL;intro j;by_cases hj:j<(Lib.byteCells lb).length
 ·have hj':j<(Lib.byteCells lb').length:=by rw[nt] at hj ⊢;omega
  have a:=h.d j _ (gM hj);have b:=h'.d j _ (gM hj');rw[gM hj,gM hj',<- a,<- b]
 rw[lL (by omega),lL (by rw[nt] at hj ⊢;omega)]
theorem adM {G k:Nat} {la ld le:List UInt8} {W:World} (h:my G la ld W) (hla:la.length=768) (hld:ld.length=768) (hk:k<96) (he:ld.take (k*8)++eU la k++ld.drop (k*8+8)=le):my G la le (W.setCells G (768+k*8) (Lib.byteCells (eU la k))):=by
 have hr:(eU la k).length=8:=FK hla hk;have hrb:(Lib.byteCells (eU la k)).length=8:=by rw[nt,hr]
 have AE:(Lib.byteCells la).length=768:=by rw[nt,hla]
 refine ⟨DY h.m _ _ _ (by rw[AE];omega),?_,Is h.t _ _ _,by rw[wP];exact h.lt⟩;subst he;have h1:=Cj h.d 0 (k*8);have h2:=Cj h.d (k*8+8) 768;rw[Fp] at h1 h2;have e1:(ld.drop 0).take (k*8)=ld.take (k*8):=rfl;have e2:(ld.drop (k*8+8)).take 768=ld.drop (k*8+8):=ox (by rw[kE];omega);rw[e1] at h1;rw[e2] at h2;have l1:(Lib.byteCells (ld.take (k*8))).length=k*8:=by rw[nt,jk];omega
 rw[On,On];refine Fs (Fs (DY h1 _ _ _ (by rw[l1];omega)) ?_) ?_
 ·rw[l1];exact DZ _ _ _ _ (by rw[hrb];exact Ck h.t (by omega) (by omega))
 rw[de,l1,hrb];exact DY h2 _ _ _ (by rw[hrb];omega)
end
section
variable {P : Program} {n l : Nat} {Q : Exit → Act → World → Prop} {ops : Array Oper}
theorem adN {o:Oper} {a:Act} {K K':Act->World->Prop} (hK:∀ a w,K a w->K' a w) (r:Result Next) (h:o.upon P a K Q r):o.uponIn (Fence.wide.inRound l) n P a K' Q r:=by
 cases r with
 | ok x w=>
  cases x with
  | value v=>exact hK _ _ h
  | skip=>exact hK _ _ h
  | defer d=>exact hK _ _ h
  | enter f args=>
   refine ⟨(fun h=>by cases h),CallsIn.inRound l (callsIn_wide.2 (kZ h ?_))⟩;rintro (v | c | _) w' hw;·exact hK _ _ hw
   ·exact hw
   ·exact hw
  | row f args=>
   refine ⟨(fun h=>by cases h),fun c cs _=>?_⟩;obtain ⟨v,w',r,s⟩:=h c cs;exact ⟨v,w',hK _ _ r,stepsIn_wide.2 s⟩
  | _=>exact h.elim
 | halt x w=>cases x <;> first | exact h | exact h.elim
theorem adO {i:Nat} {a:Act} {w:World} {K K':Act->World->Prop} (hd:∀ o ∈ ops,∀ c,o.op ≠ .defer c) (hq:¬ LetsOut Q) (hK:∀ a w,K a w->K' a w) (h:wpOp P ops Q i K a w):wpOpIn (Fence.wide.inRound l) n P ops Q i K' a w:=by
 unfold wpOp at h;unfold wpOpIn;cases ho:ops[i]? with
 | none=>rw[ho] at h;exact hK _ _ h
 | some o=>
  rw[ho] at h;dsimp only at h ⊢;split
  ·rename_i hw;rw[aN hw] at h;rcases h with h | ⟨_,h⟩
   ·refine ⟨fun _ _=>trivial,?_⟩;rw[Oper.semAt_eq _ _ _ (hd o (Array.mem_of_getElem? ho))];exact adN hK _ h
   exact absurd h hq
  ·rename_i hw;rw[aM hw] at h;exact ⟨fun _ _=>trivial,hK _ _ h⟩
theorem Ru {S:World->Prop} {md:Region.Mode} (hd:∀ o ∈ ops,∀ c,o.op ≠ .defer c) (hq:¬ LetsOut Q):∀ (fuel:Nat) (listed:Array Bool) (a:Act) (w:World),wpAnyH P md ops Q S fuel listed a w->wpAnyIn (Fence.wide.inRound l) n P md ops Q fuel listed a w
 | 0,_,_,_,h=>h
 | fuel+1,listed,a,w,h=>⟨h.1,fun i hi=>adO hd hq (fun a' w' hk=>Ru hd hq fuel _ a' w' hk.2) (h.2 i hi)⟩
theorem adP {S:World->Prop} {id:Nat} {a:Act} {w:World} (hd:∀ o ∈ ops,∀ c,o.op ≠ .defer c) (hq:¬ LetsOut Q) (hm:P.follows .mixedOrders=true) (h:wpAnyH P .any ops Q S ops.size (Array.replicate ops.size false) a w.drew):(Code.region id ops true).wpIn (Fence.wide.inRound l) n P Q a w:=wpIn_region_any hm (Ru hd hq _ _ _ _ h)
theorem Rv {c:Prop} [Decidable c] {p q:Prop} (hc:c) (hp:p):if c then p else q:=by rw[aN hc];exact hp
theorem JS {S:World->Prop} {a:Act} {w:World} {i:Nat} {o:Oper} {listed:Array Bool} {fuel:Nat} {md:Region.Mode} (hr:Region.ready md ops listed=[i]) (ho:ops[i]? = some o) (hg:o.guard=none) (ty:TypeId) (x y:Operand) (hop:o.op=.store ty x y) (b off:Nat) (cells:List Value) (hx:a.eval x=ao b off) (hy:a.eval y=.agg cells.toArray) (ht:w.there b off cells.length) (hi:(P.info? ty).map (·.size)=some cells.length) (h1:∀ v ∈ cells,v.oneCell'=true) (hS:S (w.setCells b off cells)) (hdone:Region.ready md ops (listed.setIfInBounds i true)=[]) (h:Q .normal (a.put o.dst undef) (w.setCells b off cells)):wpAnyH P md ops Q S (fuel+1) listed a w:=by
 refine tI hr (by simp) ?_;intro j hj;obtain rfl:j=i:=by simpa using hj
 unfold wpOp;rw[ho];refine Rv (by rw[Region.wanted,hg]) (.inl (wp_store_mid ty x y hop b off cells.toArray hx hy (by simpa using ht) (by simpa using hi) (all_oneCell_toArray h1) ?_));rw[List.toList_toArray];exact ⟨hS,ek hdone h _⟩
theorem FL {S:World->Prop} {a:Act} {w:World} {i f:Nat} {o:Oper} {listed:Array Bool} {fuel:Nat} {md:Region.Mode} (hr:Region.ready md ops listed=[i]) (ho:ops[i]? = some o) (hg:o.guard=none) (x:Operand) (ts:Array TypeId) (hop:o.op=.call { callee:=.value (.func f),args:=#[x],argTypes:=ts }) (v:Value) (hx:a.eval x=v) (eg:∀ args w,(callFunc f args).run P w=.ok (.enter f args) w) (hc:Calls P f #[v] w fun e w'=>∃ u,e=.returned u/\S w'/\wpAnyH P md ops Q S fuel (listed.setIfInBounds i true) (a.put o.dst u) w'):wpAnyH P md ops Q S (fuel+1) listed a w:=by
 refine tI hr (by simp) ?_;intro j hj;obtain rfl:j=i:=by simpa using hj
 unfold wpOp;rw[ho];refine Rv (by rw[Region.wanted,hg]) (.inl ?_);have he:(execOp a.eval o).run P w=.ok (.enter f #[v]) w:=by subst hx;simp[execOp,hop,resolve,go_sem,invoke,eg]
 unfold Oper.wp;rw[he];refine kZ hc ?_;rintro e w' ⟨u,rfl,h⟩;exact h
theorem Rx {fn:Func} {R:Ending->World->Prop} {A:Act} {W:World} {D:Nat} (hdf:A.defers=[{ target:=.collected D,args:=#[] }]) (hK:W.heap[D]? = some (.deferred (some []))) (h:∃ v,(results fn A.tmps).run P (W.putObj D (.deferred none))=.ok v (W.putObj D (.deferred none))/\R (.returned v) (W.putObj D (.deferred none))):bodyPostM Fence.wide n P fn R .ret A W:=by
 show LeavesInM _ _ _ _ _ _ _ _ _
 rw[hdf];refine ⟨by simp,.inl ⟨_,_,rfl,run_takeDeferred hK,?_⟩⟩;exact h
theorem adQ {c:Code} {F:Fence} {V:World} (a:Act) (p:Act->Prop) (ha:p a) (h:∀ A,p A->c.wpIn F n P Q A V):c.wpIn F n P Q a V:=h a ha
theorem FM {c:Code} {V:World} (a:Act) (p:Act->Prop) (ha:p a) (h:∀ A,p A->c.wp P Q A V):c.wp P Q a V:=h a ha
theorem FN (a:Act) (v:Value):a.put none v=a:=rfl
theorem Ry (a:Act) (d:Option Tmp) (v:Value):(a.put d v).defers=a.defers:=by cases d <;> rfl
theorem eW (a:Act) (d:Tmp) (v:Value):(a.put (some d) v).tmps.size=a.tmps.size:=by simp[Act.put]
theorem eX (a:Act) (d:Tmp) (v:Value) (h:d<a.tmps.size):(a.put (some d) v).eval (.tmp d)=v:=by simp[Act.eval,Act.put,Array.getD,h]
theorem eY (a:Act) (d e:Tmp) (v:Value) (h:d≠e):(a.put (some d) v).eval (.tmp e)=a.eval (.tmp e):=by
 simp only[Act.eval,Act.put];by_cases he:e<a.tmps.size;·simp[Array.getD,he,Array.getElem_setIfInBounds,h]
 simp[Array.getD,he]
end
section
open Go.Shelf
attribute [local go_sem] Oper.semAt_some
def nT (x y:Nat) (k:Nat):Bool:=decide (x<=k/\k<=y)
def kM (x y m:Nat) (k:Nat):Bool:=decide (x<=k/\k<=y/\k<m)
structure lu (w:World) (G f1 f2 f3 x y:Nat) (la ld:List UInt8) (W:World):Prop where
 dl:my G la ld W
 c1:iD f1 0 (.int .i64 x) W
 c2:iD f2 0 (.int .i64 y) W
 c3:iD f3 0 (.pointer (some ⟨G,0,none⟩)) W
 r0:iD (w.heap.size+1) 0 (.string ⟨#[]⟩) W
 r1:iD (w.heap.size+1) 1 (.string ⟨#[]⟩) W
 au:ah w W
variable {w W V : World} {G f1 f2 f3 x y : Nat} {la ld le : List UInt8}
theorem lu.own {row:Option Nat} {B:Nat} (h:lu w G f1 f2 f3 x y la ld W) (hB:w.heap.size<=B) (hg:W.grownBy V row) (hr:∀ r,row=some r->B<=r/\∃ o:Obj,W.heap[r]? = some o/\o.isCells=false):lu w G f1 f2 f3 x y la ld V:=
  ⟨Rr h.dl hg fun r e=>(hr r e).2,h.c1.own hg fun r e=>(hr r e).2,h.c2.own hg fun r e=>(hr r e).2,h.c3.own hg fun r e=>(hr r e).2,h.r0.own hg fun r e=>(hr r e).2,h.r1.own hg fun r e=>(hr r e).2,
   h.au.grown hg h.au.size fun r e=>br hB (hr r e).1⟩
theorem lu.set {k:Nat} (h:lu w G f1 f2 f3 x y la ld W) (hn:f1≠G/\f2≠G/\f3≠G/\w.heap.size+1≠G/\w.heap.size<=G) (hla:la.length=768) (hld:ld.length=768) (hk:k<96) (he:ld.take (k*8)++eU la k++ld.drop (k*8+8)=le):lu w G f1 f2 f3 x y la le (W.setCells G (768+k*8) (Lib.byteCells (eU la k))):=⟨adM h.dl hla hld hk he,h.c1.set hn.1 _,h.c2.set hn.2.1 _,h.c3.set hn.2.2.1 _,h.r0.set hn.2.2.2.1 _,h.r1.set hn.2.2.2.1 _,uX hn.2.2.2.2 _ _ _ h.au⟩
theorem lu.drew (h:lu w G f1 f2 f3 x y la ld W):lu w G f1 f2 f3 x y la ld W.drew:=⟨⟨h.dl.m,h.dl.d,h.dl.t,h.dl.lt⟩,h.c1,h.c2,h.c3,h.r0,h.r1,h.au.drew⟩
theorem Rz (B:Nat) (W:World) (g o:Nat):∀ (vs:List Value) (o:Nat) (V:World),KeepsFrom B W V->KeepsFrom B W (V.setCells g o vs)
 | [],_,_,h=>h
 | v :: r,o,V,h=>Rz B W g o r (o+1) _ (h.trans ((KeepsOthers.setCell _ _ _).from _))
theorem adR (B:Nat) (W:World):KeepsFrom B W W.drew:=⟨av _,fun _ _ _ h _=>h⟩
theorem RA {x y k i:Nat} (hi:i≠k):kM x y k i=kM x y (k+1) i:=by simp only[kM];congr 1;apply propext;omega
theorem JT {k g:Nat}:∀ (vs:List Value),k≠g->∀ (o:Nat) (W:World) (_:Unit),(W.setCells g o vs).heap[k]? = W.heap[k]?
 | [],_,_,_,_=>rfl
 | v :: r,h,o,W,u=>(JT r h (o+1) _ u).trans (Ij _ _ _ _ h)
theorem FO:(prog.info? 25).map (·.size)=some 2:=by kernel_rfl
theorem FQ {B:Nat} {w W:World} {a b:ByteArray} (h:fR B w a b W) (o:Obj):fR B w a b (W.alloc o):=h.below ((aQ _ _).alloc (av _) o)
theorem adS {a b:ByteArray} {w2 w3:World} (h1:fR w.heap.size w a b w2) (hG:((w2.alloc (.cells #[aa (x:Int)] 3)).alloc (.cells #[aa (y:Int)] 3)).heap.size<=G) (hD:my G la ld w3) (b3:ah ((w2.alloc (.cells #[aa (x:Int)] 3)).alloc (.cells #[aa (y:Int)] 3)) w3):lu w G w2.heap.size (w2.heap.size+1) w3.heap.size x y la ld (w3.alloc (.cells #[ao G 0] 241))/\w2.heap.size≠G/\w2.heap.size+1≠G/\w3.heap.size≠G/\w.heap.size+1≠G/\w.heap.size<=G/\¬ w.heap.size+1=w3.heap.size:=by have hb:=(aQ w3.heap.size w3).alloc (av _) (.cells #[ao G 0] 241);have g1:=((JR w2 (aa (x:Int)) 3 #[aa (x:Int)] 0 rfl).alloc (.cells #[aa (y:Int)] 3)).below b3;have g2:=(JR (w2.alloc (.cells #[aa (x:Int)] 3)) (aa (y:Int)) 3 #[aa (y:Int)] 0 rfl).below b3;rw[Ir] at g2;have h3:=(FQ (FQ h1 (.cells #[aa (x:Int)] 3)) (.cells #[aa (y:Int)] 3)).below b3;have hs:=h1.lt;have hl:=hD.lt;simp only[Ir] at hG;refine ⟨⟨Rt hD hb,g1.below hb,g2.below hb,JR w3 _ _ _ 0 rfl,iD.below ⟨h3.r0,h3.f0,h3.lt⟩ hb,iD.below ⟨h3.r1,h3.f1,h3.lt⟩ hb,h3.au.alloc h3.au.size _⟩,?_,?_,?_,?_,?_,?_⟩ <;> (have:=h3.lt;omega)
theorem lu.below (h:lu w G f1 f2 f3 x y la ld W) (hb:ah W V):lu w G f1 f2 f3 x y la ld V:=⟨Rt h.dl hb,h.c1.below hb,h.c2.below hb,h.c3.below hb,h.r0.below hb,h.r1.below hb,h.au.trans (hb.mono h.au.size)⟩
structure nU (D:Nat) (w:World) (G f1 f2 f3 x y:Nat) (la ld:List UInt8) (W:World):Prop where
 fl:lu w G f1 f2 f3 x y la ld W
 dk:W.heap[D]? = some (.deferred (some []))
theorem nU.below {D:Nat} (h:nU D w G f1 f2 f3 x y la ld W) (hb:ah W V):nU D w G f1 f2 f3 x y la ld V:=⟨h.fl.below hb,(hb.block D (nz.1 h.dk).1).trans h.dk⟩
theorem nU.drew {D:Nat} (h:nU D w G f1 f2 f3 x y la ld W):nU D w G f1 f2 f3 x y la ld W.drew:=⟨h.fl.drew,h.dk⟩
theorem RB {D:Nat} (h:nU D w G f1 f2 f3 x y la ld W) (hl:la.length=768):Calls prog 204 #[ao G 0] W fun e w'=>e=.returned (.string ⟨la.toArray⟩)/\nU D w G f1 f2 f3 x y la ld w':=(Rq la G 0 W hl h.fl.dl.lt h.fl.dl.m).mono fun _ _ ⟨he,hb⟩=>⟨he,h.below hb⟩
theorem RC {D:Nat} (h:nU D w G f1 f2 f3 x y la ld W) (hl:ld.length=768):Calls prog 204 #[ao G 768] W fun e w'=>e=.returned (.string ⟨ld.toArray⟩)/\nU D w G f1 f2 f3 x y la ld w':=(Rq ld G 768 W hl h.fl.dl.lt h.fl.dl.d).mono fun _ _ ⟨he,hb⟩=>⟨he,h.below hb⟩
set_option maxRecDepth 100000 in
theorem RD (a b:ByteArray) (i n:Int) (w:World) (ha:a.size=768) (hb:b.size=768) (hi:0<=i) (hn:1<=n) (hin:i+n<=768):Calls prog 145 #[.agg #[.string a,.string b],.int .i64 i,.int .i64 n] w (aV (.agg #[.string a,.string ⟨(dZ a.data.toList b.data.toList (nT (i.toNat / 8) ((i.toNat+n.toNat-1) / 8))).toArray⟩]) w):=by
 obtain ⟨m,rfl⟩:∃ m:Nat,i=m:=⟨i.toNat,by omega⟩;obtain ⟨c,rfl⟩:∃ c:Nat,n=c:=⟨n.toNat,by omega⟩;have hla:a.data.toList.length=768:=by rw[<- dX];exact ha
 have hlb:b.data.toList.length=768:=by rw[<- dX];exact hb
 have hok:dY a b=true:=Ju ha hb;have rW:dq a.size (m:Int) (c:Int)=true:=bK (by omega);have hF:=xi a b w;simp only[YQ];obtain ⟨x,hx⟩:∃ x,m / 8=x:=⟨_,rfl⟩;obtain ⟨y,hy⟩:∃ y,(m+c-1) / 8=y:=⟨_,rfl⟩;rw[hx,hy];have q1:(m:Int) / 8=(x:Int):=by omega
 have q2:((m:Int)+(c:Int)-1) / 8=(y:Int):=by omega
 have q3:Int.tdiv (m:Int) 8=(x:Int):=by rw[amg (by omega)];exact q1
 have q4:Int.tdiv ((m:Int)+(c:Int)-1) 8=(y:Int):=by rw[amg (by omega)];exact q2
 have hxy:Hid (x<=y/\y<96):=show _/\_ by omega
 clear hx hy;have hn0:((c:Int) == 0)=false:=by simp;omega
 refine (callsIn_wide (n:=5)).1 ?_;refine callsIn_of_wp_marks func145 rfl trivial ?_ rfl;simp only[ntmps145,Bl,fv,gv,Nat.reduceAdd,Nat.reduceSub,YN,Array.replicate_zero,List.push_toArray,List.append_toArray,qE,qJ];refine wpIn_wide.2 ?_;go_wp2_with (first
  | (go_at_call 47;refine (zI _ _ (by omega) (by omega) hF).mono ?_;rintro e w1 ⟨rfl,h1⟩;have c0:=h1.c0;have c1:=h1.c1;have h2:=(FQ h1 (.cells #[.int .i64 x] 3));have h3:=FQ h2 (.cells #[.int .i64 y] 3);have d0:=h3.c0;have d1:=h3.c1)
  | (go_at_call 37;refine (pL _ _ _ _ (by unfold maxLen;omega)).mono ?_;rintro e w2 ⟨rfl,rfl⟩;rw[rW])
  | (go_at_call 202;refine (acC a b _ ha hb).mono ?_;rintro e w3 ⟨G,rfl,hG,hD,b3⟩;rename_i w2 _))
 obtain ⟨hfl,hn1⟩:=adS h1 hG hD b3;have hnf:=hn1.2.2.2.2.2;replace hn1:=(⟨hn1.1,hn1.2.1,hn1.2.2.1,hn1.2.2.2.1,hn1.2.2.2.2.1⟩:_/\_/\_/\_/\_);clear d0 d1 h2 h3 c0 c1;have hsz:w.heap.size<=(w3.alloc (.cells #[.pointer (some ⟨G,0,none⟩)] 241)).heap.size:=hfl.au.size;obtain ⟨WL,Xz⟩:∃ WL,w3.alloc (.cells #[.pointer (some ⟨G,0,none⟩)] 241)=WL:=⟨_,rfl⟩;rw[Xz] at hfl hsz ⊢;clear Xz h1 hG hD b3 hF;obtain ⟨f1,hf1⟩:∃ f1,w2.heap.size=f1:=⟨_,rfl⟩;obtain ⟨f3,hf3⟩:∃ f3,w3.heap.size=f3:=⟨_,rfl⟩;rw[hf1,hf3] at hfl hn1 ⊢;rw[hf3] at hnf;clear hf1 hf3;refine wpIn_wide.1 (acM (n:=5) (gf:=203) (N:=96) (bd:=#[.pointer (some ⟨G,0,none⟩)]) rfl (bo func203 (by kernel_rfl) rfl) rfl
  (fun k W=>lu w G f1 (f1+1) f3 x y a.data.toList (dZ a.data.toList b.data.toList (kM x y k)) W) (Rp G a.data.toList)
  (fun c W=>c=.exit 0/\lu w G f1 (f1+1) f3 x y a.data.toList (dZ a.data.toList b.data.toList (nT x y)) W)
  (fun k W V eU h hg hr=>h.own hsz hg hr) (fun k W V eU ⟨lb',h1,h2,h3⟩ hg hr=>⟨lb',h1,Rr h2 hg (fun r e=>(hr r e).2),h3⟩) (fun c W V eU h hg hr=>⟨h.1,h.2.own hsz hg hr⟩)
  (by rw[QU _ _ hlb _ (fun k _=>by simp[kM])];exact hfl)
  (fun l J Jx W a1 a2 a3 a4 a5 a6=>adH 5 G a.data.toList hla _ (fun k W h=>⟨_,ki _ _ _,h.dl⟩) (fun k W lb' hk h hl' hd' he=>by have e:=adL hd' h.dl (by rw[hl',ki]);subst e;rw[acN _ _ (kM x y k) (kM x y (k+1)) k hla (fun i _ hi=>RA hi) hk (by simp[kM]) he];exact h) l J Jx W a1 a2 a3 a4 a5 a6) ?round ?done ?stop)
 case round=>
  rintro l k W V hk hI -;clear hfl;have e1:(0:Int)<=(k:Int):=by omega
  have e2:(k:Int)<96:=by omega
  have c1:=hI.c1.1;have c2:=hI.c2.1;have c3:=hI.c3.1;by_cases h1:(y:Int)<(k:Int)
  ·have e:=Fx a.data.toList b.data.toList (kM x y k) (nT x y) (fun i _=>by simp only[kM,nT];congr 1;apply propext;omega);gi_wp2
   refine ⟨trivial,?_⟩;gi_wp2
   exact ⟨KeepsFrom.refl _ _,rfl,e ▸ hI⟩
  by_cases h2:(x:Int)<=(k:Int)
  ·obtain ⟨ld,hld⟩:∃ ld,dZ a.data.toList b.data.toList (kM x y k)=ld:=⟨_,rfl⟩;have hll:ld.length=768:=by rw[<- hld,ki]
   have he:Hid (ld.take (k*8)++eU a.data.toList k++ld.drop (k*8+8)=dZ a.data.toList b.data.toList (kM x y (k+1))):=by rw[<- hld];exact QV _ _ _ _ k hla hk (fun i _ hi=>RA hi) (by simp only[kM];exact bK (by omega))
   rw[hld] at hI;have hset:=(hI.drew).set hn1 hla hll hk he;have hrl:(Lib.byteCells (eU a.data.toList k)).length=8:=by rw[nt,FK hla hk]
   have hrow:V.rangeAt G (k*8) (Lib.byteCells (eU a.data.toList k)):=by have:=Cj hI.dl.m (k*8) 8;rw[Fp,dW] at this;exact this
   have hfin:∀ a',QT WL.heap.size (fun k W=>lu w G f1 (f1+1) f3 x y a.data.toList (dZ a.data.toList b.data.toList (kM x y k)) W) (fun c W=>c=.exit 0/\lu w G f1 (f1+1) f3 x y a.data.toList (dZ a.data.toList b.data.toList (nT x y)) W) k V .normal a' (V.drew.setCells G (768+k*8) (Lib.byteCells (eU a.data.toList k))):=fun a'=>⟨Rz _ _ _ 0 _ _ _ (adR _ _),hset⟩;let S:World->Prop:=fun W'=>iD f3 0 (.pointer (some ⟨G,0,none⟩)) W'/\W'.rangeAt G (k*8) (Lib.byteCells (eU a.data.toList k))/\W'.there G (768+k*8) 8
   have fN:S V.drew:=⟨hI.c3,hrow,Ck hI.dl.t (by omega) (by omega)⟩;gi_wp2
   refine adQ _ (fun A=>A.eval (.tmp 9)=.pointer (some ⟨f3,0,none⟩)/\A.eval (.tmp 10)=.int .i64 (k:Int)/\56<A.tmps.size) ⟨rfl,rfl,by simp⟩ ?_;rintro A ⟨h9,h10,hsz'⟩;have yz:A.tmps[9]?.getD undef=.pointer (some ⟨f3,0,none⟩):=by rw[<- Oq];exact h9
   have h10':A.tmps[10]?.getD undef=.int .i64 (k:Int):=by rw[<- Oq];exact h10
   have pd:46<A.tmps.size:=by omega
   have pC:47<A.tmps.size:=by omega
   have pD:48<A.tmps.size:=by omega
   have s49:49<A.tmps.size:=by omega
   have pB:50<A.tmps.size:=by omega
   have pt:51<A.tmps.size:=by omega
   have pn:52<A.tmps.size:=by omega
   have s53:53<A.tmps.size:=by omega
   have pb:54<A.tmps.size:=by omega
   have pz:55<A.tmps.size:=by omega
   have pq:56<A.tmps.size:=by omega
   clear hsz';refine adP (S:=S) (by simp) (by rintro ⟨_,_,h⟩;exact h.elim) (by kernel_rfl) ?_;refine gJ (i:=1) (v:=.int .i64 (k:Int)) rfl (by kernel_rfl) (by kernel_rfl) (by kernel_rfl) (fun _ _ _ h=>h) (Or.inl ⟨by rfl,fun w' hS'=>?_⟩) fN ?_
   ·simp only[ar,execOp,eX,eY,eW,eZ,Nat.reduceEqDiff,fk,h9,h10,pd,pC,pD,s49,pB,pt,pn,s53,pb,pz,pq];go_simp
   simp only[ar];refine gJ (i:=3) (v:=.int .i64 (k:Int)) rfl (by kernel_rfl) (by kernel_rfl) (by kernel_rfl) (fun _ _ _ h=>h) (Or.inl ⟨by rfl,fun w' hS'=>?_⟩) fN ?_
   ·simp only[ar,execOp,eX,eY,eW,eZ,Nat.reduceEqDiff,fk,h9,h10,pd,pC,pD,s49,pB,pt,pn,s53,pb,pz,pq];go_simp
   simp only[ar];refine gJ (i:=0) (v:=.pointer (some ⟨G,0,none⟩)) rfl (by kernel_rfl) (by kernel_rfl) (by kernel_rfl) (fun _ _ _ h=>h) (Or.inl ⟨by rfl,fun w' hS'=>?_⟩) fN ?_
   ·have hc:=hS'.1.1;simp only[ar,execOp,eX,eY,eW,eZ,Nat.reduceEqDiff,fk,h9,h10,pd,pC,pD,s49,pB,pt,pn,s53,pb,pz,pq];go_simp
   simp only[ar];refine gJ (i:=2) (v:=.pointer (some ⟨G,0,none⟩)) rfl (by kernel_rfl) (by kernel_rfl) (by kernel_rfl) (fun _ _ _ h=>h) (Or.inl ⟨by rfl,fun w' hS'=>?_⟩) fN ?_
   ·have hc:=hS'.1.1;simp only[ar,execOp,eX,eY,eW,eZ,Nat.reduceEqDiff,fk,h9,h10,pd,pC,pD,s49,pB,pt,pn,s53,pb,pz,pq];go_simp
   simp only[ar];refine gJ (i:=4) (v:=.pointer (some ⟨G,0,none⟩)) rfl (by kernel_rfl) (by kernel_rfl) (by kernel_rfl) (fun _ _ _ h=>h) (Or.inl ⟨by rfl,fun w' hS'=>?_⟩) fN ?_
   ·simp only[ar,execOp,eX,eY,eW,eZ,Nat.reduceEqDiff,fk,h9,h10,pd,pC,pD,s49,pB,pt,pn,s53,pb,pz,pq];go_simp
   simp only[ar];refine gJ (i:=5) (v:=.pointer (some ⟨G,0,none⟩)) rfl (by kernel_rfl) (by kernel_rfl) (by kernel_rfl) (fun _ _ _ h=>h) (Or.inl ⟨by rfl,fun w' hS'=>?_⟩) fN ?_
   ·simp only[ar,execOp,eX,eY,eW,eZ,Nat.reduceEqDiff,fk,h9,h10,pd,pC,pD,s49,pB,pt,pn,s53,pb,pz,pq];go_simp
   simp only[ar];refine gJ (i:=6) (v:=.pointer (some ⟨G,k*8,none⟩)) rfl (by kernel_rfl) (by kernel_rfl) (by kernel_rfl) (fun _ _ _ h=>h) (Or.inl ⟨by rfl,fun w' hS'=>?_⟩) fN ?_
   ·simp only[ar,execOp,eX,eY,eW,eZ,Nat.reduceEqDiff,fk,h9,h10,pd,pC,pD,s49,pB,pt,pn,s53,pb,pz,pq];go_simp
   simp only[ar];refine gJ (i:=7) (v:=.agg (Lib.byteCells (eU a.data.toList k)).toArray) rfl (by kernel_rfl) (by kernel_rfl) (by kernel_rfl) (fun _ _ _ h=>h) (yieldsIf_load_mid (by rfl) 244 (.tmp 52) rfl G (k*8) (by simp only[eX,eY,eW,eZ,Nat.reduceEqDiff,fk,h9,h10,pd,pC,pD,s49,pB,pt,pn,s53,pb,pz,pq]) _ _ (fun w' hS'=>hS'.2.1) underlying244 rfl (by rw[QN,hrl])) fN ?_;simp only[ar];refine gJ (i:=8) (v:=.pointer (some ⟨G,0,none⟩)) rfl (by kernel_rfl) (by kernel_rfl) (by kernel_rfl) (fun _ _ _ h=>h) (Or.inl ⟨by rfl,fun w' hS'=>?_⟩) fN ?_
   ·simp only[ar,execOp,eX,eY,eW,eZ,Nat.reduceEqDiff,fk,h9,h10,pd,pC,pD,s49,pB,pt,pn,s53,pb,pz,pq];go_simp
   simp only[ar];refine gJ (i:=9) (v:=.pointer (some ⟨G,768,none⟩)) rfl (by kernel_rfl) (by kernel_rfl) (by kernel_rfl) (fun _ _ _ h=>h) (Or.inl ⟨by rfl,fun w' hS'=>?_⟩) fN ?_
   ·simp only[ar,execOp,eX,eY,eW,eZ,Nat.reduceEqDiff,fk,h9,h10,pd,pC,pD,s49,pB,pt,pn,s53,pb,pz,pq];go_simp
   simp only[ar];refine gJ (i:=10) (v:=.pointer (some ⟨G,768+k*8,none⟩)) rfl (by kernel_rfl) (by kernel_rfl) (by kernel_rfl) (fun _ _ _ h=>h) (Or.inl ⟨by rfl,fun w' hS'=>?_⟩) fN ?_
   ·simp only[ar,execOp,eX,eY,eW,eZ,Nat.reduceEqDiff,fk,h9,h10,pd,pC,pD,s49,pB,pt,pn,s53,pb,pz,pq];go_simp
   simp only[ar];refine JS (i:=11) (by kernel_rfl) rfl rfl 244 (.tmp 56) (.tmp 53) rfl G (768+k*8) (Lib.byteCells (eU a.data.toList k)) (by simp only[eX,eY,eW,eZ,Nat.reduceEqDiff,fk,h9,h10,pd,pC,pD,s49,pB,pt,pn,s53,pb,pz,pq]) (by simp only[eX,eY,eW,eZ,Nat.reduceEqDiff,fk,h9,h10,pd,pC,pD,s49,pB,pt,pn,s53,pb,pz,pq]) (by rw[hrl];exact fN.2.2) (by rw[QN,hrl]) (H9 _)
    ⟨fN.1.set hn1.2.2.1 _,DY fN.2.1 _ _ _ (by rw[hrl];omega),Is fN.2.2 _ _ _⟩ (by kernel_rfl) ?_
   exact ⟨(hfin A).1,(hfin A).2⟩
  have e:=Fx a.data.toList b.data.toList (kM x y k) (kM x y (k+1)) (fun i _=>by simp only[kM];congr 1;apply propext;omega);gi_wp2
  rw[e] at hI;exact ⟨KeepsFrom.refl _ _,hI⟩
 case done=>
  rintro D W hD hI hK;have hlt1:=hfl.r0.2.2;clear hfl;rw[Fx _ _ (kM x y 96) (nT x y) (fun i hi=>by simp only[kM,nT];congr 1;apply propext;omega)] at hI;go_wp2;rename_i K hKr;obtain ⟨ld,hld⟩:∃ ld,dZ a.data.toList b.data.toList (nT x y)=ld:=⟨_,rfl⟩;have hll:ld.length=768:=by rw[<- hld,ki]
  rw[hld] at hI;have hself:(⟨a.data.toList.toArray⟩:ByteArray)=a:=Bc a;have jA:nU D w G f1 (f1+1) f3 x y a.data.toList ld W.drew:=nU.drew ⟨hI,hK⟩;refine FM _ (fun A=>A.eval (.tmp 9)=.pointer (some ⟨f3,0,none⟩)/\A.eval (.tmp 6)=.pointer (some ⟨w.heap.size+1,0,none⟩)/\65<A.tmps.size/\A.defers=[{ target:=.collected D,args:=#[] }]) ⟨rfl,rfl,by simp,rfl⟩ ?_;rintro A ⟨h9,h6,hsz',hdf⟩;have yz:A.tmps[9]?.getD undef=.pointer (some ⟨f3,0,none⟩):=by rw[<- Oq];exact h9
  have iP:57<A.tmps.size:=by omega
  have iS:58<A.tmps.size:=by omega
  have gG:59<A.tmps.size:=by omega
  have iM:60<A.tmps.size:=by omega
  have iH:61<A.tmps.size:=by omega
  have iQ:62<A.tmps.size:=by omega
  have iN:63<A.tmps.size:=by omega
  have iJ:64<A.tmps.size:=by omega
  have iR:65<A.tmps.size:=by omega
  clear hsz';have fN:iD f3 0 (.pointer (some ⟨G,0,none⟩)) W.drew:=jA.fl.c3;refine wp_region_noPanic ?_;refine fX (S:=iD f3 0 (.pointer (some ⟨G,0,none⟩))) (by kernel_rfl) ?_;refine gJ (i:=0) (v:=.pointer (some ⟨G,0,none⟩)) rfl (by kernel_rfl) (by kernel_rfl) (by kernel_rfl) (fun _ _ _ h=>h) (Or.inl ⟨by rfl,fun w' hS'=>?_⟩) fN ?_
  ·have hc:=hS'.1;simp only[ar,execOp,eX,eY,eW,eZ,Nat.reduceEqDiff,fk,h9,h6,iP,iS,gG,iM,iH,iQ,iN,iJ,iR];go_simp
  simp only[ar];refine gJ (i:=4) (v:=.pointer (some ⟨G,0,none⟩)) rfl (by kernel_rfl) (by kernel_rfl) (by kernel_rfl) (fun _ _ _ h=>h) (Or.inl ⟨by rfl,fun w' hS'=>?_⟩) fN ?_
  ·have hc:=hS'.1;simp only[ar,execOp,eX,eY,eW,eZ,Nat.reduceEqDiff,fk,h9,h6,iP,iS,gG,iM,iH,iQ,iN,iJ,iR];go_simp
  simp only[ar];refine gJ (i:=1) (v:=.pointer (some ⟨G,0,none⟩)) rfl (by kernel_rfl) (by kernel_rfl) (by kernel_rfl) (fun _ _ _ h=>h) (Or.inl ⟨by rfl,fun w' hS'=>?_⟩) fN ?_
  ·simp only[ar,execOp,eX,eY,eW,eZ,Nat.reduceEqDiff,fk,h9,h6,iP,iS,gG,iM,iH,iQ,iN,iJ,iR];go_simp
  simp only[ar];refine gJ (i:=5) (v:=.pointer (some ⟨G,0,none⟩)) rfl (by kernel_rfl) (by kernel_rfl) (by kernel_rfl) (fun _ _ _ h=>h) (Or.inl ⟨by rfl,fun w' hS'=>?_⟩) fN ?_
  ·simp only[ar,execOp,eX,eY,eW,eZ,Nat.reduceEqDiff,fk,h9,h6,iP,iS,gG,iM,iH,iQ,iN,iJ,iR];go_simp
  simp only[ar];refine gJ (i:=2) (v:=.pointer (some ⟨G,0,none⟩)) rfl (by kernel_rfl) (by kernel_rfl) (by kernel_rfl) (fun _ _ _ h=>h) (Or.inl ⟨by rfl,fun w' hS'=>?_⟩) fN ?_
  ·simp only[ar,execOp,eX,eY,eW,eZ,Nat.reduceEqDiff,fk,h9,h6,iP,iS,gG,iM,iH,iQ,iN,iJ,iR];go_simp
  simp only[ar];refine gJ (i:=6) (v:=.pointer (some ⟨G,768,none⟩)) rfl (by kernel_rfl) (by kernel_rfl) (by kernel_rfl) (fun _ _ _ h=>h) (Or.inl ⟨by rfl,fun w' hS'=>?_⟩) fN ?_
  ·simp only[ar,execOp,eX,eY,eW,eZ,Nat.reduceEqDiff,fk,h9,h6,iP,iS,gG,iM,iH,iQ,iN,iJ,iR];go_simp
  simp only[ar];refine FL (i:=3) (by kernel_rfl) rfl rfl (.tmp 59) _ rfl (.pointer (some ⟨G,0,none⟩)) (by simp only[eX,eY,eW,eZ,Nat.reduceEqDiff,fk,h9,h6,iP,iS,gG,iM,iH,iQ,iN,iJ,iR]) (bo func204 (by kernel_rfl) rfl) ((RB jA hla).mono ?_);rintro e w4 ⟨rfl,h4⟩;refine ⟨_,rfl,h4.fl.c3,?_⟩;simp only[ar];refine FL (i:=7) (by kernel_rfl) rfl rfl (.tmp 63) _ rfl (.pointer (some ⟨G,768,none⟩)) (by simp only[eX,eY,eW,eZ,Nat.reduceEqDiff,fk,h9,h6,iP,iS,gG,iM,iH,iQ,iN,iJ,iR]) (bo func204 (by kernel_rfl) rfl) ((RC h4 hll).mono ?_);rintro e w5 ⟨rfl,h5⟩;refine ⟨_,rfl,h5.fl.c3,?_⟩;simp only[ar];refine gJ (i:=8) (v:=.agg #[.string ⟨a.data.toList.toArray⟩,.string ⟨ld.toArray⟩]) rfl (by kernel_rfl) (by kernel_rfl) (by kernel_rfl) (fun _ _ _ h=>h) (Or.inl ⟨by rfl,fun w' hS'=>?_⟩) h5.fl.c3 ?_
  ·simp only[ar,execOp,eX,eY,eW,eZ,Nat.reduceEqDiff,fk,h9,h6,iP,iS,gG,iM,iH,iQ,iN,iJ,iR];go_simp
  simp only[ar];have hth:w5.there (w.heap.size+1) 0 2:=fun j hj=>by
   match j,hj with
   | 0,_=>exact ⟨by rw[h5.fl.r0.1];rfl,h5.fl.r0.2.1⟩
   | 1,_=>exact ⟨by rw[h5.fl.r1.1];rfl,h5.fl.r1.2.1⟩
  refine JS (i:=9) (by kernel_rfl) rfl rfl 25 (.tmp 6) (.tmp 65) rfl (w.heap.size+1) 0 [.string ⟨a.data.toList.toArray⟩,.string ⟨ld.toArray⟩] (by simp only[eX,eY,eW,eZ,Nat.reduceEqDiff,fk,h9,h6,iP,iS,gG,iM,iH,iQ,iN,iJ,iR]) (by simp only[eX,eY,eW,eZ,Nat.reduceEqDiff,fk,h9,h6,iP,iS,gG,iM,iH,iQ,iN,iJ,iR]) hth FO (by simp[Value.oneCell']) (h5.fl.c3.set (fun e=>hnf e.symm) _) (by kernel_rfl) ?_;refine NoPanic.normal ?_;have hh:(w5.setCells (w.heap.size+1) 0 [.string ⟨a.data.toList.toArray⟩,.string ⟨ld.toArray⟩]).heap[D]? = some (.deferred (some [])):=(JT _ (by omega) _ _ ()).trans h5.dk;have uC:=DZ w5 (w.heap.size+1) 0 [.string ⟨a.data.toList.toArray⟩,.string ⟨ld.toArray⟩] hth;have hbel:=uX (bS w.heap.size) [.string ⟨a.data.toList.toArray⟩,.string ⟨ld.toArray⟩] 0 _ h5.fl.au;rw[hself] at hh uC hbel ⊢;obtain ⟨W6,qw⟩:∃ W6,w5.setCells (w.heap.size+1) 0 [.string a,.string ⟨ld.toArray⟩]=W6:=⟨_,rfl⟩;rw[qw] at hh uC hbel ⊢;refine hKr _ _ ?_;refine FM _ (fun A2=>A2.eval (.tmp 6)=.pointer (some ⟨w.heap.size+1,0,none⟩)/\A2.defers=[{ target:=.collected D,args:=#[] }]) ⟨by simp only[ar,FN,eX,eY,eW,eZ,Nat.reduceEqDiff,fk,h9,h6,iP,iS,gG,iM,iH,iQ,iN,iJ,iR],by simp only[ar,FN,Ry];exact hdf⟩ ?_;rintro A2 ⟨k6,Nl⟩;have hr':(W6.putObj D (.deferred none)).rangeAt (w.heap.size+1) 0 [.string a,.string ⟨ld.toArray⟩]:=fun j v hj=>cell_kept (uC j v hj) (grownBy_putObj' _ D _) (fun r e=>by cases e;exact ⟨_,hh,rfl⟩);have hlv:=Zb (P:=prog) _ _ _ 25 _ _ hr' underlying25 rfl FO;have hbb:=hbel.trans (belowK_b (w:=w) (av _) W6 D _ (.deferred none) (by omega) hh rfl rfl);clear hKr h4 h5 hth uC hbel jA fN;refine wp_ret ?_;refine Rx Nl hh ⟨.agg #[.string a,.string ⟨ld.toArray⟩],?_,?_⟩
  ·rw[JE rfl];show ((asAddr (A2.eval (.tmp 6))).run prog _).andThen _=_
   rw[k6];simp only[asAddr,Ol,Om];exact hlv
  exact ⟨by rw[<- hld],hbb⟩
 case stop=>
 rintro D c W hD ⟨rfl,hI⟩ hK;have hlt1:=hfl.r0.2.2;clear hfl;refine wpIn_wide.2 ?_;go_wp2;rename_i K hKr;obtain ⟨ld,hld⟩:∃ ld,dZ a.data.toList b.data.toList (nT x y)=ld:=⟨_,rfl⟩;have hll:ld.length=768:=by rw[<- hld,ki]
 rw[hld] at hI;have hself:(⟨a.data.toList.toArray⟩:ByteArray)=a:=Bc a;have jA:nU D w G f1 (f1+1) f3 x y a.data.toList ld W.drew:=nU.drew ⟨hI,hK⟩;refine FM _ (fun A=>A.eval (.tmp 9)=.pointer (some ⟨f3,0,none⟩)/\A.eval (.tmp 6)=.pointer (some ⟨w.heap.size+1,0,none⟩)/\65<A.tmps.size/\A.defers=[{ target:=.collected D,args:=#[] }]) ⟨rfl,rfl,by simp,rfl⟩ ?_;rintro A ⟨h9,h6,hsz',hdf⟩;have yz:A.tmps[9]?.getD undef=.pointer (some ⟨f3,0,none⟩):=by rw[<- Oq];exact h9
 have iP:57<A.tmps.size:=by omega
 have iS:58<A.tmps.size:=by omega
 have gG:59<A.tmps.size:=by omega
 have iM:60<A.tmps.size:=by omega
 have iH:61<A.tmps.size:=by omega
 have iQ:62<A.tmps.size:=by omega
 have iN:63<A.tmps.size:=by omega
 have iJ:64<A.tmps.size:=by omega
 have iR:65<A.tmps.size:=by omega
 clear hsz';have fN:iD f3 0 (.pointer (some ⟨G,0,none⟩)) W.drew:=jA.fl.c3;refine wp_region_noPanic ?_;refine fX (S:=iD f3 0 (.pointer (some ⟨G,0,none⟩))) (by kernel_rfl) ?_;refine gJ (i:=0) (v:=.pointer (some ⟨G,0,none⟩)) rfl (by kernel_rfl) (by kernel_rfl) (by kernel_rfl) (fun _ _ _ h=>h) (Or.inl ⟨by rfl,fun w' hS'=>?_⟩) fN ?_
 ·have hc:=hS'.1;simp only[ar,execOp,eX,eY,eW,eZ,Nat.reduceEqDiff,fk,h9,h6,iP,iS,gG,iM,iH,iQ,iN,iJ,iR];go_simp
 simp only[ar];refine gJ (i:=4) (v:=.pointer (some ⟨G,0,none⟩)) rfl (by kernel_rfl) (by kernel_rfl) (by kernel_rfl) (fun _ _ _ h=>h) (Or.inl ⟨by rfl,fun w' hS'=>?_⟩) fN ?_
 ·have hc:=hS'.1;simp only[ar,execOp,eX,eY,eW,eZ,Nat.reduceEqDiff,fk,h9,h6,iP,iS,gG,iM,iH,iQ,iN,iJ,iR];go_simp
 simp only[ar];refine gJ (i:=1) (v:=.pointer (some ⟨G,0,none⟩)) rfl (by kernel_rfl) (by kernel_rfl) (by kernel_rfl) (fun _ _ _ h=>h) (Or.inl ⟨by rfl,fun w' hS'=>?_⟩) fN ?_
 ·simp only[ar,execOp,eX,eY,eW,eZ,Nat.reduceEqDiff,fk,h9,h6,iP,iS,gG,iM,iH,iQ,iN,iJ,iR];go_simp
 simp only[ar];refine gJ (i:=5) (v:=.pointer (some ⟨G,0,none⟩)) rfl (by kernel_rfl) (by kernel_rfl) (by kernel_rfl) (fun _ _ _ h=>h) (Or.inl ⟨by rfl,fun w' hS'=>?_⟩) fN ?_
 ·simp only[ar,execOp,eX,eY,eW,eZ,Nat.reduceEqDiff,fk,h9,h6,iP,iS,gG,iM,iH,iQ,iN,iJ,iR];go_simp
 simp only[ar];refine gJ (i:=2) (v:=.pointer (some ⟨G,0,none⟩)) rfl (by kernel_rfl) (by kernel_rfl) (by kernel_rfl) (fun _ _ _ h=>h) (Or.inl ⟨by rfl,fun w' hS'=>?_⟩) fN ?_
 ·simp only[ar,execOp,eX,eY,eW,eZ,Nat.reduceEqDiff,fk,h9,h6,iP,iS,gG,iM,iH,iQ,iN,iJ,iR];go_simp
 simp only[ar];refine gJ (i:=6) (v:=.pointer (some ⟨G,768,none⟩)) rfl (by kernel_rfl) (by kernel_rfl) (by kernel_rfl) (fun _ _ _ h=>h) (Or.inl ⟨by rfl,fun w' hS'=>?_⟩) fN ?_
 ·simp only[ar,execOp,eX,eY,eW,eZ,Nat.reduceEqDiff,fk,h9,h6,iP,iS,gG,iM,iH,iQ,iN,iJ,iR];go_simp
 simp only[ar];refine FL (i:=3) (by kernel_rfl) rfl rfl (.tmp 59) _ rfl (.pointer (some ⟨G,0,none⟩)) (by simp only[eX,eY,eW,eZ,Nat.reduceEqDiff,fk,h9,h6,iP,iS,gG,iM,iH,iQ,iN,iJ,iR]) (bo func204 (by kernel_rfl) rfl) ((RB jA hla).mono ?_);rintro e w4 ⟨rfl,h4⟩;refine ⟨_,rfl,h4.fl.c3,?_⟩;simp only[ar];refine FL (i:=7) (by kernel_rfl) rfl rfl (.tmp 63) _ rfl (.pointer (some ⟨G,768,none⟩)) (by simp only[eX,eY,eW,eZ,Nat.reduceEqDiff,fk,h9,h6,iP,iS,gG,iM,iH,iQ,iN,iJ,iR]) (bo func204 (by kernel_rfl) rfl) ((RC h4 hll).mono ?_);rintro e w5 ⟨rfl,h5⟩;refine ⟨_,rfl,h5.fl.c3,?_⟩;simp only[ar];refine gJ (i:=8) (v:=.agg #[.string ⟨a.data.toList.toArray⟩,.string ⟨ld.toArray⟩]) rfl (by kernel_rfl) (by kernel_rfl) (by kernel_rfl) (fun _ _ _ h=>h) (Or.inl ⟨by rfl,fun w' hS'=>?_⟩) h5.fl.c3 ?_
 ·simp only[ar,execOp,eX,eY,eW,eZ,Nat.reduceEqDiff,fk,h9,h6,iP,iS,gG,iM,iH,iQ,iN,iJ,iR];go_simp
 simp only[ar];have hth:w5.there (w.heap.size+1) 0 2:=fun j hj=>by
  match j,hj with
  | 0,_=>exact ⟨by rw[h5.fl.r0.1];rfl,h5.fl.r0.2.1⟩
  | 1,_=>exact ⟨by rw[h5.fl.r1.1];rfl,h5.fl.r1.2.1⟩
 refine JS (i:=9) (by kernel_rfl) rfl rfl 25 (.tmp 6) (.tmp 65) rfl (w.heap.size+1) 0 [.string ⟨a.data.toList.toArray⟩,.string ⟨ld.toArray⟩] (by simp only[eX,eY,eW,eZ,Nat.reduceEqDiff,fk,h9,h6,iP,iS,gG,iM,iH,iQ,iN,iJ,iR]) (by simp only[eX,eY,eW,eZ,Nat.reduceEqDiff,fk,h9,h6,iP,iS,gG,iM,iH,iQ,iN,iJ,iR]) hth FO (by simp[Value.oneCell']) (h5.fl.c3.set (fun e=>hnf e.symm) _) (by kernel_rfl) ?_;refine NoPanic.normal ?_;have hh:(w5.setCells (w.heap.size+1) 0 [.string ⟨a.data.toList.toArray⟩,.string ⟨ld.toArray⟩]).heap[D]? = some (.deferred (some [])):=(JT _ (by omega) _ _ ()).trans h5.dk;have uC:=DZ w5 (w.heap.size+1) 0 [.string ⟨a.data.toList.toArray⟩,.string ⟨ld.toArray⟩] hth;have hbel:=uX (bS w.heap.size) [.string ⟨a.data.toList.toArray⟩,.string ⟨ld.toArray⟩] 0 _ h5.fl.au;rw[hself] at hh uC hbel ⊢;obtain ⟨W6,qw⟩:∃ W6,w5.setCells (w.heap.size+1) 0 [.string a,.string ⟨ld.toArray⟩]=W6:=⟨_,rfl⟩;rw[qw] at hh uC hbel ⊢;refine hKr _ _ ?_;refine FM _ (fun A2=>A2.eval (.tmp 6)=.pointer (some ⟨w.heap.size+1,0,none⟩)/\A2.defers=[{ target:=.collected D,args:=#[] }]) ⟨by simp only[ar,FN,eX,eY,eW,eZ,Nat.reduceEqDiff,fk,h9,h6,iP,iS,gG,iM,iH,iQ,iN,iJ,iR],by simp only[ar,FN,Ry];exact hdf⟩ ?_;rintro A2 ⟨k6,Nl⟩;have hr':(W6.putObj D (.deferred none)).rangeAt (w.heap.size+1) 0 [.string a,.string ⟨ld.toArray⟩]:=fun j v hj=>cell_kept (uC j v hj) (grownBy_putObj' _ D _) (fun r e=>by cases e;exact ⟨_,hh,rfl⟩);have hlv:=Zb (P:=prog) _ _ _ 25 _ _ hr' underlying25 rfl FO;have hbb:=hbel.trans (belowK_b (w:=w) (av _) W6 D _ (.deferred none) (by omega) hh rfl rfl);clear hKr h4 h5 hth uC hbel jA fN;refine wp_ret ?_;refine Rx Nl hh ⟨.agg #[.string a,.string ⟨ld.toArray⟩],?_,?_⟩
 ·rw[JE rfl];show ((asAddr (A2.eval (.tmp 6))).run prog _).andThen _=_
  rw[k6];simp only[asAddr,Ol,Om];exact hlv
 exact ⟨by rw[<- hld],hbb⟩
end
end Go.Proofs.YtgpfmgaidbjcpaaGreatDoor
