/- Joined texts. -/
import Derived.Test.YtidmmopnkjbjoaaGreatDoorJpJ
import Derived.Test.YtidmmopnkjbjoaaGreatDoorJpH
set_option linter.unusedVariables false
set_option linter.unusedSimpArgs false
set_option maxRecDepth 10000
set_option maxHeartbeats 16000000
namespace Go.Proofs.YtidmmopnkjbjoaaGreatDoor
open ChangeShapes WideShapes ChangeAt RowKit
open Go.Proofs.Tryz
section
abbrev pS (k o s:Int) (a:Option Addr) (n c:Nat) (ae:Option Addr) (ne ce:Nat):Value:=.agg #[.int .i64 k,.int .i64 o,.int .i64 s,.slice a n c,.slice ae ne ce]
abbrev PK (k o s:Int) (a:Option Addr) (n c:Nat) (ae:Option Addr) (ne ce:Nat):List Value:=[.int .i64 k,.int .i64 o,.int .i64 s,.slice a n c,.slice ae ne ce]
def dm (d:ak):List aV:=if aX d.rc=2 then dI (aO d.aH 0 (bX d.rc)) else []
def vh (d:ak) (w:World) (e:Ending) (w':World):Prop:=
 ∃ (k o s:Int) (a:Option Addr) (n c:Nat) (ae:Option Addr) (ne ce:Nat),e=.returned (.tuple #[pS k o s a n c ae ne ce,.bool (jo d)])/\aj w w'/\
  (jo d=true->k=aX d.rc/\o=cq d.rc/\s=bX d.rc/\n=(aN d.rc).length/\n<=c/\aQ w.heap.size w' a (aN d.rc)/\ne=(dm d).length/\ne<=ce/\dK w.heap.size w' ae (dm d))
theorem ZX {d:ak} {w w':World} {k o s:Int} {a:Option Addr} {n c:Nat} {ae:Option Addr} {ne ce:Nat} (h:jo d=false) (hb:aj w w'):vh d w (.returned (.tuple #[pS k o s a n c ae ne ce,.bool false])) w':=⟨k,o,s,a,n,c,ae,ne,ce,by rw[h],hb,fun h'=>by rw[h] at h';cases h'⟩
theorem ZY {d:ak} {w w':World} {a:Option Addr} {c:Nat} {ae:Option Addr} {ce:Nat} (h:jo d=true) (hb:aj w w') (hc:(aN d.rc).length<=c) (ho:aQ w.heap.size w' a (aN d.rc)) (hce:(dm d).length<=ce) (hoe:dK w.heap.size w' ae (dm d)):vh d w (.returned (.tuple #[pS (aX d.rc) (cq d.rc) (bX d.rc) a (aN d.rc).length c ae (dm d).length ce,.bool true])) w':=⟨_,_,_,a,_,c,ae,_,ce,by rw[h],hb,fun _=>⟨rfl,rfl,rfl,rfl,hc,ho,rfl,hce,hoe⟩⟩
variable {w W W' : World} {d : ak} {s : aA} {k o t : Int} {a : Option Addr} {n c B : Nat}
theorem gg {base:Nat} {es:List aV} (h:dK base W a es) (hB:B<base) (j:Nat) (v:Value):dK base (W.setCell ⟨B,j,none⟩ v) a es:=by
 rcases h with h | ⟨g,e,hg,hk⟩;·exact Or.inl h
 refine Or.inr ⟨g,e,hg,?_⟩;have hne:∀ x,(⟨B,j,none⟩:Addr) ≠ ⟨g,x,none⟩:=fun x q=>by have:=(yM q).1;omega
 refine ⟨fun i hi=>?_,fun i hi=>?_,fun i hi=>?_,?_⟩
 ·rw[fJ _ _ _ _ (hne _),fJ _ _ _ _ (hne _)];exact hk.done i hi
 ·rw[fJ _ _ _ _ (hne _)];exact hk.there i hi
 ·rw[iI];exact hk.free i hi
 have:=hk.lt;simpa [World.setCell] using this
abbrev EO (W:World) (B:Nat) (y0 y1 y2 y3 y4:Value):World:=((((W.setCell ⟨B,0,none⟩ y0).setCell ⟨B,1,none⟩ y1).setCell ⟨B,2,none⟩ y2).setCell ⟨B,3,none⟩ y3).setCell ⟨B,4,none⟩ y4
theorem EP {x0 x1 x2 x3 x4 y0 y1 y2 y3 y4:Value} (h:av B [x0,x1,x2,x3,x4] W):av B [y0,y1,y2,y3,y4] (EO W B y0 y1 y2 y3 y4):=((((h.set 0 y0).set 1 y1).set 2 y2).set 3 y3).set 4 y4
theorem ER {b:Nat} (h:Below b w W) (hb:b<=B) (y0 y1 y2 y3 y4:Value):Below b w (EO W B y0 y1 y2 y3 y4):=((((h.setCell (p:=⟨B,0,none⟩) hb y0).setCell (p:=⟨B,1,none⟩) hb y1).setCell (p:=⟨B,2,none⟩) hb y2).setCell (p:=⟨B,3,none⟩) hb y3).setCell (p:=⟨B,4,none⟩) hb y4
theorem PO {base:Nat} {zs:List Int} (h:aQ base W a zs) (hB:B<base) (y0 y1 y2 y3 y4:Value):aQ base (EO W B y0 y1 y2 y3 y4) a zs:=((((h.set hB 0 y0).set hB 1 y1).set hB 2 y2).set hB 3 y3).set hB 4 y4
theorem ZZ {base:Nat} {es:List aV} (h:dK base W a es) (hB:B<base) (y0 y1 y2 y3 y4:Value):dK base (EO W B y0 y1 y2 y3 y4) a es:=gg (gg (gg (gg (gg h hB 0 y0) hB 1 y1) hB 2 y2) hB 3 y3) hB 4 y4
structure xe (w:World) (d:ak) (s:aA) (k o t:Int) (a:Option Addr) (n c B:Nat) (W:World):Prop where
 arg:fL w.heap.size d s W
 res:av (w.heap.size+1) (PK 0 0 0 none 0 0 none 0 0) W
 nb:av B (eV k o t a n c) W
 ah:aj w W
theorem xe.below (h:xe w d s k o t a n c B W) (hb:aj W W'):xe w d s k o t a n c B W':=⟨h.arg.below hb,h.res.below hb,h.nb.below hb,h.ah.trans (hb.mono h.ah.size)⟩
theorem xe.drewN (h:xe w d s k o t a n c B W) (m:Nat):xe w d s k o t a n c B (W.drewN m):=⟨⟨h.arg.b.drewN m⟩,h.res.drewN m,h.nb.drewN m,cL h.ah m⟩
abbrev PQ (w:World) (d:ak) (s:aA):World:=(w.alloc (.cells #[.int .i64 d.ino,.int .i64 d.cl,.int .i64 d.un,.string d.rc,.slice s.a1 d.pg.length s.c1,.string d.aH,.slice s.a2 d.po.length s.c2,.slice s.a3 d.fr.length s.c3] 49)).alloc (.cells #[.int .i64 0,.int .i64 0,.int .i64 0,.slice none 0 0,.slice none 0 0] 178)
theorem ES (w:World) (d:ak) (s:aA):aj w (PQ w d s):=((aK _ _).alloc (aq _) _).alloc (by simp) _
theorem ET (hb:aj (PQ w d s) W):xe w d s k o t a n c W.heap.size (W.alloc (.cells (bj k o t a n c) 117)):=
  ⟨⟨(((bu (eI d s) w 49).alloc _).below hb).alloc _⟩,((gH (PK 0 0 0 none 0 0 none 0 0) _ 178 (by simp)).below hb).alloc _,bu (eV k o t a n c) W 117,
   (((ES w d s).trans (hb.mono (ES w d s).size))).alloc (bt (ES w d s).size hb.size) _⟩
end
theorem Z5 (d:ak):(bp d.rc=false/\jo d=false)\/(bp d.rc=true/\(aX d.rc == 0)=true/\jo d=false)\/(bp d.rc=true/\(aX d.rc == 0)=false/\decide (aN d.rc=d.pg)=false/\jo d=false)\/(bp d.rc=true/\(aX d.rc == 0)=false/\decide (aN d.rc=d.pg)=true/\((d.aH.size:Int) != (d.pg.length:Int)*32)=true/\jo d=false)\/(bp d.rc=true/\(aX d.rc == 0)=false/\decide (aN d.rc=d.pg)=true/\((d.aH.size:Int) != (d.pg.length:Int)*32)=false/\(aX d.rc != 2)=true/\jo d=true/\dm d=[])\/(bp d.rc=true/\(aX d.rc == 0)=false/\decide (aN d.rc=d.pg)=true/\((d.aH.size:Int) != (d.pg.length:Int)*32)=false/\(aX d.rc != 2)=false/\jo d=cO (aO d.aH 0 (bX d.rc))/\dm d=dI (aO d.aH 0 (bX d.rc))):=by
 unfold jo;cases hI:bp d.rc with
 | false=>exact Or.inl ⟨rfl,rfl⟩
 | true=>
  right;by_cases h0:aX d.rc=0
  ·left;exact ⟨rfl,by simpa using h0,by rw[bF h0];rfl⟩
  ·right;have h0':(aX d.rc == 0)=false:=by simpa using h0
   by_cases hz:aN d.rc=d.pg
   ·right;by_cases hs:d.aH.size=d.pg.length*32
    ·right;have hs':((d.aH.size:Int) != (d.pg.length:Int)*32)=false:=by simp;omega
     by_cases h2:aX d.rc=2
     ·right;refine ⟨rfl,h0',bF hz,hs',by simpa using h2,?_,by rw[dm,aF h2]⟩;rw[bq h0,bF hz,bF hs,bF h2];rfl
     left;refine ⟨rfl,h0',bF hz,hs',by simpa using h2,?_,by rw[dm,aG h2]⟩;rw[bq h0,bF hz,bF hs,bq h2];rfl
    left;refine ⟨rfl,h0',bF hz,by simp;omega,?_⟩;rw[bq hs,dH,dU,dU];rfl
   left;refine ⟨rfl,h0',bq hz,?_⟩;rw[bq hz,dH,dU];rfl
theorem Z6 (d:ak) (s:aA) (w:World) (hF:jX d s) (hR:dq w d s):Calls prog 179 #[bH d s] w (vh d w):=by
 have hG:Hid (∀ W,_):=fun W=>OR d.rc W hF.m4;have HL:Hid (∀ W,aj w W->aI W s.a1 d.pg):=fun W hb=>(hR.below hb).r1;have hpt:Hid (∀ W,Calls prog 90 #[.string d.aH,ad 0,ad (bX d.rc)] W (aT (.string (aO d.aH 0 (bX d.rc))) W)):=fun W=>sn _ _ _ _ hF.m5;have hgd:Hid (∀ W,Calls prog 143 #[.string (aO d.aH 0 (bX d.rc))] W (nZ (aO d.aH 0 (bX d.rc)) W)):=fun W=>Pu _ _ (bt (nn _ _ _) hF.m5);have hpl:d.pg.length<=281474976710656:=hF.p1;have hsl:=hF.m5;have hb00:=ES w d s;have HN:Hid (∀ k o t a n c ae ne ce w',jo d=false->aj w w'->vh d w (.returned (.tuple #[pS k o t a n c ae ne ce,.bool false])) w'):=fun k o t a n c ae ne ce w' h hb=>ZX h hb;have HY:Hid (∀ a c ae ce w',jo d=true->aj w w'->(aN d.rc).length<=c->aQ w.heap.size w' a (aN d.rc)->(dm d).length<=ce->dK w.heap.size w' ae (dm d)->vh d w (.returned (.tuple #[pS (aX d.rc) (cq d.rc) (bX d.rc) a (aN d.rc).length c ae (dm d).length ce,.bool true])) w'):=fun a c ae ce w' h hb hc ho hce hoe=>ZY h hb hc ho hce hoe;have hA:Hid (∀ W e w',iZ d.rc W e w'->∃ a c,e=.returned (.tuple #[bO (aX d.rc) (cq d.rc) (bX d.rc) a (aN d.rc).length c,.bool (bp d.rc)])/\aQ W.heap.size w' a (aN d.rc)/\(aN d.rc).length<=c/\aj W w'):=fun W e w' h=>h;have hzl:(aN d.rc).length<=281474976710656:=by
  unfold aN;split;·rw[wK];have:=wL d.rc;omega
  exact aS _
 have hcase:=Z5 d;obtain ⟨R,hR'⟩:∃ R,vh d w=R:=⟨_,rfl⟩;rw[hR'] at HN HY ⊢;obtain ⟨P,hP⟩:∃ P,aO d.aH 0 (bX d.rc)=P:=⟨_,rfl⟩;rw[hP] at hpt hgd hcase;obtain ⟨K,hK⟩:∃ K,aX d.rc=K:=⟨_,rfl⟩;obtain ⟨O,hO⟩:∃ O,cq d.rc=O:=⟨_,rfl⟩;obtain ⟨S,hS⟩:∃ S,bX d.rc=S:=⟨_,rfl⟩;obtain ⟨Z,hZ⟩:∃ Z,aN d.rc=Z:=⟨_,rfl⟩;rw[hK,hZ] at hcase;rw[hK,hO,hS,hZ] at HY hA;rw[hS] at hpt;rw[hZ] at hzl;clear hK hO hS hZ hP hR' hR hF;rcases hcase with ⟨gI,hp⟩ | ⟨gI,g0,hp⟩ | ⟨gI,g0,gz,hp⟩ | ⟨gI,g0,gz,gs,hp⟩ | ⟨gI,g0,gz,gs,g2,hp,hE⟩ | ⟨gI,g0,gz,gs,g2,hp,hE⟩;iterate 2
  ·rw[gI] at hA;clear gI;go_enter func179,ntmps179;go_wp2_with (go_at_call 141;refine (hG.out _).mono ?_;intro e w1 hans;obtain ⟨a,c,rfl,ho,hc,b1⟩:=hA.out _ _ _ hans;clear hans;have p1:=ET (k:=K) (o:=O) (t:=S) (a:=a) (n:=Z.length) (c:=c) b1;have x0:=p1.nb.c0;have i0:=p1.res.cell 0 (by simp);have i1:=p1.res.cell 1 (by simp);have i2:=p1.res.cell 2 (by simp);have i3:=p1.res.cell 3 (by simp);have i4:=p1.res.cell 4 (by simp);simp only[eQ,fP] at i0 i1 i2 i3 i4;have j0:=p1.res.free 0 (by simp);have j1:=p1.res.free 1 (by simp);have j2:=p1.res.free 2 (by simp);have j3:=p1.res.free 3 (by simp);have j4:=p1.res.free 4 (by simp));have q:=EP (y0:=ad 0) (y1:=ad 0) (y2:=ad 0) (y3:=.slice none 0 0) (y4:=.slice none 0 0) p1.res;have v0:=q.cell 0 (by simp);have v1:=q.cell 1 (by simp);have v2:=q.cell 2 (by simp);have v3:=q.cell 3 (by simp);have v4:=q.cell 4 (by simp);simp only[eQ,fP] at v0 v1 v2 v3 v4;exact bL (v:=.tuple #[pS 0 0 0 none 0 0 none 0 0,.bool false]) (by simp[results,results179,go_sem,v0,v1,v2,v3,v4]) rfl (HN.out _ _ _ _ _ _ _ _ _ _ hp (ER p1.ah (by omega) _ _ _ _ _))
 iterate 2
  ·rw[gI] at hA;clear gI;go_enter func179,ntmps179;go_wp2_with (first
    | (go_at_call 141;refine (hG.out _).mono ?_;intro e w1 hans;obtain ⟨a,c,rfl,ho,hc,b1⟩:=hA.out _ _ _ hans;clear hans;have p1:=ET (k:=K) (o:=O) (t:=S) (a:=a) (n:=Z.length) (c:=c) b1;have x0:=p1.nb.c0;have x3:=p1.nb.c3;have c4:=p1.arg.c4;have c5:=p1.arg.c5;have r1:=ho.row.alloc (.cells (bj K O S a Z.length c) 117);have r2:=HL.out _ p1.ah;have i0:=p1.res.cell 0 (by simp);have i1:=p1.res.cell 1 (by simp);have i2:=p1.res.cell 2 (by simp);have i3:=p1.res.cell 3 (by simp);have i4:=p1.res.cell 4 (by simp);simp only[eQ,fP] at i0 i1 i2 i3 i4;have j0:=p1.res.free 0 (by simp);have j1:=p1.res.free 1 (by simp);have j2:=p1.res.free 2 (by simp);have j3:=p1.res.free 3 (by simp);have j4:=p1.res.free 4 (by simp))
    | (go_at_call 218;refine (IC _ _ _ _ _ _ _ hzl hpl r1 r2).mono ?_;rintro e w2 ⟨rfl,m,rfl⟩))
   have q:=EP (y0:=ad 0) (y1:=ad 0) (y2:=ad 0) (y3:=.slice none 0 0) (y4:=.slice none 0 0) (p1.drewN m).res;have v0:=q.cell 0 (by simp);have v1:=q.cell 1 (by simp);have v2:=q.cell 2 (by simp);have v3:=q.cell 3 (by simp);have v4:=q.cell 4 (by simp);simp only[eQ,fP] at v0 v1 v2 v3 v4;exact bL (v:=.tuple #[pS 0 0 0 none 0 0 none 0 0,.bool false]) (by simp[results,results179,go_sem,v0,v1,v2,v3,v4]) rfl (HN.out _ _ _ _ _ _ _ _ _ _ hp (ER (p1.drewN m).ah (by omega) _ _ _ _ _))
 ·rw[gI] at hA;clear gI;rw[hE] at HY;go_enter func179,ntmps179;go_wp2_with (first
   | (go_at_call 141;refine (hG.out _).mono ?_;intro e w1 hans;obtain ⟨a,c,rfl,ho,hc,b1⟩:=hA.out _ _ _ hans;clear hans;have p1:=ET (k:=K) (o:=O) (t:=S) (a:=a) (n:=Z.length) (c:=c) b1;have x0:=p1.nb.c0;have x1:=p1.nb.c1;have x2:=p1.nb.c2;have x3:=p1.nb.c3;have c4:=p1.arg.c4;have c5:=p1.arg.c5;have r1:=ho.row.alloc (.cells (bj K O S a Z.length c) 117);have r2:=HL.out _ p1.ah;have i0:=p1.res.cell 0 (by simp);have i1:=p1.res.cell 1 (by simp);have i2:=p1.res.cell 2 (by simp);have i3:=p1.res.cell 3 (by simp);have i4:=p1.res.cell 4 (by simp);simp only[eQ,fP] at i0 i1 i2 i3 i4;have j0:=p1.res.free 0 (by simp);have j1:=p1.res.free 1 (by simp);have j2:=p1.res.free 2 (by simp);have j3:=p1.res.free 3 (by simp);have j4:=p1.res.free 4 (by simp))
   | (go_at_call 218;refine (IC _ _ _ _ _ _ _ hzl hpl r1 r2).mono ?_;rintro e w2 ⟨rfl,m,rfl⟩))
  have q:=EP (y0:=ad K) (y1:=ad O) (y2:=ad S) (y3:=.slice a Z.length c) (y4:=.slice none 0 0) (p1.drewN m).res;have v0:=q.cell 0 (by simp);have v1:=q.cell 1 (by simp);have v2:=q.cell 2 (by simp);have v3:=q.cell 3 (by simp);have v4:=q.cell 4 (by simp);simp only[eQ,fP] at v0 v1 v2 v3 v4;refine bL (v:=.tuple #[pS K O S a Z.length c none 0 0,.bool true]) (by simp[results,results179,go_sem,v0,v1,v2,v3,v4]) rfl (HY.out a c none 0 _ hp (ER (p1.drewN m).ah (by omega) _ _ _ _ _) hc ?_ (aq _) (Or.inl rfl));exact (PO ((ho.alloc _).drewN m) (by simp) _ _ _ _ _).mono (by simp;omega)
 rw[gI] at hA;clear gI;rw[hE] at HY;have HD:Hid (∀ W e w',nZ P W e w'->∃ a c,e=.returned (.tuple #[.slice a (dI P).length c,.bool (cO P)])/\dK W.heap.size w' a (dI P)/\(dI P).length<=c/\aj W w'):=fun W e w' h=>h;have HP:Hid (jo d=cO P):=hp;clear hp hE;go_enter func179,ntmps179;go_wp2_with (first
  | (go_at_call 141;refine (hG.out _).mono ?_;intro e w1 hans;obtain ⟨a,c,rfl,ho,hc,b1⟩:=hA.out _ _ _ hans;clear hans;have p1:=ET (k:=K) (o:=O) (t:=S) (a:=a) (n:=Z.length) (c:=c) b1;have x0:=p1.nb.c0;have x1:=p1.nb.c1;have x2:=p1.nb.c2;have x3:=p1.nb.c3;have c4:=p1.arg.c4;have c5:=p1.arg.c5;have r1:=ho.row.alloc (.cells (bj K O S a Z.length c) 117);have r2:=HL.out _ p1.ah)
  | (go_at_call 218;refine (IC _ _ _ _ _ _ _ hzl hpl r1 r2).mono ?_;rintro e w2 ⟨rfl,m,rfl⟩)
  | (go_at_call 90;refine (hpt.out _).mono ?_;rintro e w3 ⟨rfl,b3⟩;have p3:=(p1.drewN m).below b3)
  | (go_at_call 143;refine (hgd.out _).mono ?_;intro e w4 hans;obtain ⟨ae,ce,rfl,hoe,hce,b4⟩:=HD.out _ _ _ hans;clear hans;have p4:=p3.below b4;have z0:=p4.nb.c0;have z1:=p4.nb.c1;have z2:=p4.nb.c2;have z3:=p4.nb.c3;have i0:=p4.res.cell 0 (by simp);have i1:=p4.res.cell 1 (by simp);have i2:=p4.res.cell 2 (by simp);have i3:=p4.res.cell 3 (by simp);have i4:=p4.res.cell 4 (by simp);simp only[eQ,fP] at i0 i1 i2 i3 i4;have j0:=p4.res.free 0 (by simp);have j1:=p4.res.free 1 (by simp);have j2:=p4.res.free 2 (by simp);have j3:=p4.res.free 3 (by simp);have j4:=p4.res.free 4 (by simp)))
 have q:=EP (y0:=ad K) (y1:=ad O) (y2:=ad S) (y3:=.slice a Z.length c) (y4:=.slice ae (dI P).length ce) p4.res;have v0:=q.cell 0 (by simp);have v1:=q.cell 1 (by simp);have v2:=q.cell 2 (by simp);have v3:=q.cell 3 (by simp);have v4:=q.cell 4 (by simp);simp only[eQ,fP] at v0 v1 v2 v3 v4;have hbl:=ER p4.ah (B:=w.heap.size+1) (by omega) (ad K) (ad O) (ad S) (.slice a Z.length c) (.slice ae (dI P).length ce);have h1:=p1.ah.size;have h3:=p3.ah.size;refine bL (v:=.tuple #[pS K O S a Z.length c ae (dI P).length ce,.bool (cO P)]) (by simp[results,results179,go_sem,v0,v1,v2,v3,v4]) rfl ?_;cases hD:cO P with
 | false=>exact HN.out _ _ _ _ _ _ _ _ _ _ (HP.out.trans hD) hbl
 | true=>
  refine HY.out a c ae ce _ (HP.out.trans hD) hbl hc ?_ hce ?_;·exact (PO ((((ho.alloc _).drewN m).below b3).below b4) (by simp) _ _ _ _ _).mono (by simp;omega)
  ·exact (ZZ hoe (by have:=p3.res.lt;omega) _ _ _ _ _).mono (by omega)
abbrev dR (k o t:Int) (a:Option Addr) (n c:Nat) (ae:Option Addr) (ne ce:Nat) (d:ak) (s:aA):Value:=.agg #[.int .i64 k,.int .i64 o,.int .i64 t,.slice a n c,.slice ae ne ce,.int .i64 d.ino,.int .i64 d.cl,.int .i64 d.un,.string d.rc,.slice s.a1 d.pg.length s.c1,.string d.aH,.slice s.a2 d.po.length s.c2,.slice s.a3 d.fr.length s.c3]
abbrev EU (k o t:Int) (a:Option Addr) (n c:Nat) (ae:Option Addr) (ne ce:Nat) (d:ak) (s:aA):List Value:=[.int .i64 k,.int .i64 o,.int .i64 t,.slice a n c,.slice ae ne ce,.int .i64 d.ino,.int .i64 d.cl,.int .i64 d.un,.string d.rc,.slice s.a1 d.pg.length s.c1,.string d.aH,.slice s.a2 d.po.length s.c2,.slice s.a3 d.fr.length s.c3]
abbrev mL (k o t:Int) (a:Option Addr) (n c:Nat) (ae:Option Addr) (ne ce:Nat) (d:ak) (s:aA):Obj:=.cells #[.int .i64 k,.int .i64 o,.int .i64 t,.slice a n c,.slice ae ne ce,.int .i64 d.ino,.int .i64 d.cl,.int .i64 d.un,.string d.rc,.slice s.a1 d.pg.length s.c1,.string d.aH,.slice s.a2 d.po.length s.c2,.slice s.a3 d.fr.length s.c3] 180
theorem EV (k o t:Int) (a:Option Addr) (n c:Nat) (ae:Option Addr) (ne ce:Nat) (w:World):Calls prog 221 #[pS k o t a n c ae ne ce] w (aT (.bool (k == 2)) w):=by have hB:=aB w (.cells #[ad k,ad o,ad t,.slice a n c,.slice ae ne ce] 178);go_enter func221,ntmps221;go_wp2;go_ret;exact ⟨rfl,hB⟩
theorem Z7 (d:ak):(decide (0<=d.ino)=false/\ny d=false)\/(0<=d.ino/\decide (d.ino<8)=false/\ny d=false)\/(0<=d.ino/\d.ino<8/\aW d.cl 0 8=false/\ny d=false)\/(0<=d.ino/\d.ino<8/\aW d.cl 0 8=true/\decide (0<=d.un)=false/\ny d=false)\/(0<=d.ino/\d.ino<8/\aW d.cl 0 8=true/\0<=d.un/\ny d=true):=by unfold ny aW;by_cases h1:0<=d.ino <;> by_cases h2:d.ino<8 <;> by_cases h3:0<=d.cl <;> by_cases h4:d.cl<=8 <;> by_cases h5:0<=d.un <;> simp[h1,h2,h3,h4,h5]
theorem Z8 (k o t:Int) (a:Option Addr) (n c:Nat) (ae:Option Addr) (ne ce:Nat) (d:ak) (s:aA) (w:World):Calls prog 180 #[dR k o t a n c ae ne ce d s] w (aT (.bool (ny d)) w):=by
 have hB:=aB w (mL k o t a n c ae ne ce d s);have hB2:=hB.alloc hB.size (.cells (dZ d s) 49);have HC:Hid (∀ W,Calls prog 219 #[ad d.cl] W (dp (.bool (aW d.cl 0 8)) W)):=fun W=>Oa _ _;rcases Z7 d with ⟨h1,hp⟩ | ⟨h1,h2,hp⟩ | ⟨h1,h2,h3,hp⟩ | ⟨h1,h2,h3,h5,hp⟩ | ⟨h1,h2,h3,h5,hp⟩;all_goals
  rw[hp];clear hp
 ·go_enter func180,ntmps180;go_wp2;go_ret;exact ⟨rfl,hB2⟩
 ·go_enter func180,ntmps180;go_wp2;go_ret;exact ⟨rfl,hB2⟩
 all_goals
  rw[h3] at HC;clear h3;go_enter func180,ntmps180;go_wp2_with (go_at_call 219;refine (HC.out _).mono ?_;rintro e w1 ⟨rfl,rfl⟩);go_ret;exact ⟨rfl,hB2⟩
theorem Z9 (k o t:Int) (a:Option Addr) (c:Nat) (ae:Option Addr) (ne ce:Nat) (d:ak) (s:aA) (Z:List Int) (w:World) (hz:Z.length<=12) (hpo:d.po.length<=1048576) (hR:aI w a Z) (h2:aI w s.a2 d.po):Calls prog 181 #[dR k o t a Z.length c ae ne ce d s] w (aT (.bool (decide (d.po.length<=4) && (dJ d.po && dW (Z++d.po)))) w):=by
 have hB:=aB w (mL k o t a Z.length c ae ne ce d s);have r1:=hR.alloc (mL k o t a Z.length c ae ne ce d s);have r2:=h2.alloc (mL k o t a Z.length c ae ne ce d s);have HA:=Bw s.a2 s.c2 d.po _ (by omega) r2;by_cases hl:d.po.length<=4
 ·have hl':(d.po.length:Int)<=4:=by omega
  rw[bF hl,fe];cases hasc:dJ d.po with
  | false=>
   rw[hasc] at HA;clear hR h2 r1 r2;go_enter func181,ntmps181;go_wp2_with (go_at_call 36;refine HA.mono ?_;rintro e w1 ⟨rfl,m,rfl⟩);go_ret;exact ⟨rfl,cL hB m⟩
  | true=>
   rw[hasc] at HA;rw[fe];have HC:Hid (∀ m,Calls prog 40 #[bg (w.heap.size+1) 2 2] (((w.alloc (mL k o t a Z.length c ae ne ce d s)).drewN m).alloc (.cells #[.slice a Z.length c,.slice s.a2 d.po.length s.c2] 29)) fun e w'=>∃ a' c',e=.returned (.slice a' (Z++d.po).length c')/\aQ ((((w.alloc (mL k o t a Z.length c ae ne ce d s)).drewN m).alloc (.cells #[.slice a Z.length c,.slice s.a2 d.po.length s.c2] 29))).heap.size w' a' (Z++d.po)/\(Z++d.po).length<=c'/\Below ((((w.alloc (mL k o t a Z.length c ae ne ce d s)).drewN m).alloc (.cells #[.slice a Z.length c,.slice s.a2 d.po.length s.c2] 29))).heap.size (((w.alloc (mL k o t a Z.length c ae ne ce d s)).drewN m).alloc (.cells #[.slice a Z.length c,.slice s.a2 d.po.length s.c2] 29)) w'):=fun m=>by have hk:=gH (B:=w.heap.size+1) [.slice a Z.length c,.slice s.a2 d.po.length s.c2] ((w.alloc (mL k o t a Z.length c ae ne ce d s)).drewN m) 29 (by simp);exact OI (w.heap.size+1) a s.a2 c s.c2 Z d.po _ hk.c0 hk.c1 hk.lt ((r1.drewN m).alloc _) ((r2.drewN m).alloc _) (by omega) hpo
   have HL:Hid ((Z++d.po).length<=281474976710656):=by
    show (Z++d.po).length<=_
    rw[bY];omega
   obtain ⟨Y,hY⟩:∃ Y,Z++d.po=Y:=⟨_,rfl⟩;rw[hY] at HC HL ⊢;clear hR h2 r1 r2 hY;go_enter func181,ntmps181;go_wp2_with (first
    | (go_at_call 36;refine HA.mono ?_;rintro e w1 ⟨rfl,m,rfl⟩)
    | (go_at_call 40;refine (HC.out m).mono ?_;rintro e w2 ⟨a',c',rfl,ho,hc',b2⟩)
    | (go_at_call 220;refine (NZ a' c' Y _ HL.out hc' ho.row).mono ?_;rintro e w3 ⟨rfl,rfl⟩))
   go_ret;exact ⟨rfl,((cL hB m).alloc (by simp) _).trans (b2.mono (by simp;omega))⟩
 have hl':decide ((d.po.length:Int)<=4)=false:=by simp;omega
 have hl2:decide (d.po.length<=4)=false:=by simp;omega
 rw[hl2,dH];clear HA hR h2 r1 r2;go_enter func181,ntmps181;go_wp2;go_ret;exact ⟨rfl,hB⟩
section
variable {base g n cap : Nat} {w W W' : World} {d k x : Nat} {R S : List (Nat × Nat)}
def qR:List (Nat × Nat)->List Value
 | []=>[]
 | q :: r=>.int .i64 (q.1:Int) :: .int .i64 (q.2:Int) :: qR r
theorem PS:∀ l:List (Nat × Nat),(qR l).length=l.length*2
 | []=>rfl
 | q :: r=>by simp[qR,PS r];omega
theorem PT:∀ l m:List (Nat × Nat),qR (l++m)=qR l++qR m
 | [],m=>rfl
 | q :: r,m=>by simp[qR,PT r m]
theorem zr (d k:Nat) (R:List (Nat × Nat)):qR ((d,k) :: R).reverse=qR R.reverse ++ [ad (d:Int),ad (k:Int)]:=by rw[List.reverse_cons,PT];rfl
theorem vi (R:List (Nat × Nat)):(qR R.reverse).length=R.length*2:=by rw[PS,List.length_reverse]
def gw (base:Nat) (w:World) (g n cap:Nat) (S:List (Nat × Nat)):Prop:=n=S.length/\w.ownsRow base 187 2 (.slice (some ⟨g,0,none⟩) n cap) n (qR S.reverse)
theorem gw.kept {row:Option Nat} (h:gw base w g n cap S) (hg:w.grownBy W row) (hne:some g≠row):gw base W g n cap S:=⟨h.1,h.2.kept hg (Or.inr hne)⟩
theorem gw.lt (h:gw base w g n cap S):base<=g/\g<w.heap.size:=h.2.lt g rfl
theorem gw.drew (h:gw base w g n cap S):gw base w.drew g n cap S:=h
theorem gw.ino (h:gw base w g n cap ((d,k) :: R)):w.cell? ⟨g,R.length*2,none⟩=some (.int .i64 (d:Int)):=by have hn:n=R.length+1:=h.1;rw[h.2.cellAt (R.length*2) (by omega),zr,ng (by rw[vi];exact aq _),vi,Nat.sub_self];rfl
theorem gw.next (h:gw base w g n cap ((d,k) :: R)):w.cell? ⟨g,R.length*2+1,none⟩=some (.int .i64 (k:Int)):=by have hn:n=R.length+1:=h.1;rw[h.2.cellAt (R.length*2+1) (by omega),zr,ng (by rw[vi];omega),vi,show R.length*2+1-R.length*2=1 by omega];rfl
theorem gw.free (h:gw base w g n cap S) (j:Nat):w.frozen? ⟨g,j,none⟩=false:=h.2.frozenAt j
theorem gw.put (h:gw base w g n cap ((d,k) :: R)) (k':Nat):gw base (w.setCell ⟨g,R.length*2+1,none⟩ (ad (k':Int))) g n cap ((d,k') :: R):=by have:=(h.2.stored (R.length*2+1) (ad (k':Int))).1;rw[zr,List.set_append_right _ _ (by rw[vi];omega),vi,show R.length*2+1-R.length*2=1 by omega] at this;refine ⟨h.1,?_⟩;rw[zr];exact this
theorem gw.pop (h:gw base w g n cap ((d,k) :: R)):gw base w g R.length cap R:=by
 have hn:n=R.length+1:=h.1;refine ⟨rfl,vi R,?_⟩;rcases h.2.2 with ⟨h',_⟩ | ⟨g',cap',cur,h',hb,hg,hnc,hcm,hcs,ht⟩;·cases h'
 cases h';refine Or.inr ⟨g,cap,cur,rfl,hb,hg,by omega,hcm,hcs,?_⟩;have:=fK (List.take (R.length*2)) ht;rw[WV,zr,List.take_left' (vi R),Nat.min_eq_left (by omega)] at this;exact this
theorem gw.room (h:gw base w g n cap S):n<=cap:=by
 rcases h.2.2 with ⟨h',_⟩ | ⟨g',cap',cur,h',hb,hg,hnc,hcm,hcs,ht⟩;·cases h'
 cases h';exact hnc
theorem aaa (w:World) (hb:base<=w.heap.size):gw base (w.alloc (.cells #[ad 0,ad 0] 187)) w.heap.size 1 1 [(0,0)]:=⟨rfl,World.ownsRow_lit w #[ad 0,ad 0] 1 hb (by unfold maxLen;omega) rfl⟩
theorem aab:(prog.info? 187).map (fun i=>(i.zero,i.size,i.bytes))=some (some (.agg #[ad 0,ad 0]),2,16):=by kernel_rfl
theorem aac (u v:Int):∀ x ∈ [Value.int .i64 u,ad v],x.oneCell'=true:=by intro x h;simp at h;rcases h with rfl | rfl <;> rfl
theorem aad {ops:Array Oper} {rest:List Oper} {o:Oper} {A:Act} {Q:Exit->Act->World->Prop} (hgd:o.guard=none) (sl y:Operand) (ho:o.op=.call { callee:=.builtin .append,args:=#[sl,y],argTypes:=#[188,188] }) (hbuf:gw base w g n cap S) (x:Nat) (hs:A.eval sl=bg g n cap) (hx:A.eval y=bg w.heap.size 1 1) (hlen:n+1<=1048576) (hb:base<=w.heap.size) (h:∀ g' cap' w',gw base w' g' (n+1) cap' ((x,0) :: S)->w.grownBy w' (some g)->(g'=g\/w.heap.size<=g')->wpList prog ops Q rest (A.put o.dst (bg g' (n+1) cap')) w'):wpList prog ops Q (o :: rest) A (w.alloc (.cells #[ad (x:Int),ad 0] 187)):=by
 obtain ⟨i0,hi,hz0,hz1,hz2⟩:=iW aab;have hb2:=hbuf.2.alloc (.cells #[ad (x:Int),ad 0] 187);refine rY _ hgd sl y 188 ho base 187 i0 (.agg #[ad 0,ad 0]) 2 16 underlying188 hi hz0 hz1 hz2 rfl (by omega) _ n _ hs hb2 ⟨w.heap.size,0,none⟩ 1 1 [ad (x:Int),ad 0] hx rfl (rZ (pF w _)) (aac (x:Int) 0) (by omega) (by unfold maxLen;omega) (by omega) (by simp;omega) _ rfl ?_;intro g' cap' w' ho' hg' hl' _;refine h g' cap' w' ⟨by rw[hbuf.1];simp,?_⟩ ((tC w _ _).trans hg') ?_
 ·rw[zr];exact ho'
 rcases hl' with e | e
 ·left;have e':g=g':=by simpa [Value.ownBlock] using e
  exact e'.symm
 right;rw[e];simp
theorem BM:Go.Maps.Keyed prog 3:=Go.Maps.int_keyed underlying3
theorem PU (w:World):(zeroValue 3).run prog w=.ok (ad 0) w:=by kernel_rfl
structure qS (bm m:Nat) (S:List (Nat × Nat)) (D:DataW Unit) (W:World):Prop where
 own:W.ownsMap prog 3 (plainElem (H:=Unit) prog 3) bm m D
 has:∀ x:Nat,Maps.has D (.int .i64 (x:Int))=lh S x
theorem qS.kept {bm m:Nat} {D:DataW Unit} {row:Option Nat} (h:qS bm m S D w) (hg:w.grownBy W row) (hne:some bm≠row):qS bm m S D W:=⟨h.own.kept hg hne,h.has⟩
theorem qS.top {bm m:Nat} {D:DataW Unit} (h:qS bm m ((d,k) :: R) D w) (k':Nat):qS bm m ((d,k') :: R) D w:=⟨h.own,fun x=>by rw[h.has x];rfl⟩
theorem qS.lt {bm m:Nat} {D:DataW Unit} (h:qS bm m S D w):bm<w.heap.size:=by obtain ⟨es,clock,hb,_⟩:=h.own;exact (mY.1 hb).1
theorem PV (x k y:Nat) (S:List (Nat × Nat)):lh ((x,k) :: S) y=((x == y) || lh S y):=rfl
theorem PW {x y:Nat} (h:x≠y):Lit.int .i64 (x:Int)≠Lit.int .i64 (y:Int):=by
 intro e;injection e with _ e
 omega
theorem PX {D:DataW Unit} (hD:Maps.IsMap D) (x:Nat) (v:DataW Unit) (h:∀ y:Nat,Maps.has D (.int .i64 (y:Int))=lh S y) (y:Nat):Maps.has (D.put (.int .i64 (x:Int)) v) (.int .i64 (y:Int))=lh ((x,0) :: S) y:=by
 rw[PV];by_cases e:x=y
 ·subst e;rw[Maps.has_put_same (k:=.int .i64 (x:Int)) hD trivial];simp
 rw[Maps.has_put_other (PW (fun e'=>e e'.symm)),h y];simp[e]
theorem aae {D:DataW Unit} (hnd:(((d,k) :: R).map (·.1)).Nodup) (h:∀ y:Nat,Maps.has D (.int .i64 (y:Int))=lh ((d,k) :: R) y) (y:Nat):Maps.has (D.del (.int .i64 (d:Int))) (.int .i64 (y:Int))=lh R y:=by
 by_cases e:d=y
 ·subst e;rw[Maps.has_del_same];cases hm:lh R d with
  | false=>rfl
  | true=>
   exfalso;rw[mX,Hy] at hnd;obtain ⟨q,hq,he⟩:=Ht.1 hm;exact hnd.1 (na.2 ⟨q,hq,by simpa using he⟩)
 rw[Maps.has_del_other (PW (fun e'=>e e'.symm)),h y,PV];simp[e]
theorem IW (x:Nat) (h:x<=1048576):(Lit.int .i64 (x:Int)).wf=true:=by simp[Lit.wf,IntKind.min,IntKind.max,IntKind.signed,IntKind.bits];omega
end
section
variable {B : Nat} {N : Nat → cW} {F : Nat → Nat} {P : Nat → ByteArray} {w W W' : World} {E : Nat → List aV}
structure BN (B:Nat) (N:Nat->cW) (E:Nat->List aV) (W:World):Prop where
 ne:∀ i,i<8->(N i).ne=(E i).length
 row:∀ i,i<8->dK (B+1) W (N i).ae (E i)
 Ww:sG E (fun i=>(N i).k)
 yK:∀ i,(E i).length<=12
 short:∀ i e,e ∈ E i->e.2.size<=14
theorem aaf {k:Nat} {p:ByteArray} {x:Nat} (hs:∀ i e,e ∈ E i->e.2.size<=14) (h:eW E x k p):p.size<=1+15*k:=by
 induction h using eW.ind with
 | zero=>decide
 | @down d k p x nm _ hm ih=>
  have:=hs _ _ hm;have h1:(jq d).size<=1:=by unfold jq;split <;> decide
  rw[fk,fk];simp only at this;omega
theorem BN.ahv (h:BN B N E w) (hg:w.grownBy W (some B)) {i:Nat} (hi:i<8):mE W (N i).ae (E i):=by
 rcases h.row i hi with h0 | ⟨g,e,hb,hk⟩;·exact Or.inl h0
 have hrow:=(show mE w (N i).ae (E i) from dK.row (base:=B+1) (Or.inr ⟨g,e,hb,hk⟩))
 rcases hrow with h0 | ⟨b,off,ha,hlt,hc⟩;·exact Or.inl h0
 rw[e] at ha;cases ha;refine Or.inr ⟨g,0,e,cS hlt hg.size,fun j hj=>?_⟩;have:=hc j hj;exact ⟨hg.cell this.1 (by simp;omega),hg.cell this.2 (by simp;omega)⟩
theorem BO {a b c:World} {row row':Option Nat} (h:a.grownBy b row) (k:b.grownBy c row') (hr:∀ j,row'=some j->a.heap.size<=j\/row=some j):a.grownBy c row:=
 ⟨k.os.trans h.os,k.tape.trans h.tape,k.output.trans h.output,bt h.size k.size,fun i hi hne=>(k.block i (cS hi h.size) (fun e=>by
  rcases hr i e.symm with h1 | h1;·omega
  exact hne h1.symm)).trans (h.block i hi hne)⟩
theorem xf {a b:World} {g m:Nat} (h:a.grownBy b (some g)) (hm:m<=g) (hs:m<=a.heap.size):Below m a b:=⟨h.os,h.tape,h.output,h.size,fun i hi=>h.block i (by omega) (by simp;omega)⟩
theorem IX {a b:World} {g c:Nat} {vs:List Value} (h:av c vs a) (hg:a.grownBy b (some g)) (hne:c≠g):av c vs b:=⟨fun j hj=>hg.cell (h.cell j hj) (by simpa using hne),fun j hj=>(yO (hg.block c h.lt (by simpa using hne))).trans (h.free j hj),cS h.lt hg.size⟩
structure oc (B:Nat) (N:Nat->cW) (w:World) (g n cap bm m:Nat) (D:DataW Unit) (S:List (Nat × Nat)) (F:Nat->Nat) (P:Nat->ByteArray) (W:World):Prop where
 tb:dN B N F P W
 buf:gw w.heap.size W g n cap S
 met:qS bm m S D W
 grown:w.grownBy W (some B)
theorem oc.drew {g n cap bm m:Nat} {D:DataW Unit} {S:List (Nat × Nat)} (h:oc B N w g n cap bm m D S F P W):oc B N w g n cap bm m D S F P W.drew:=⟨h.tb.drew,h.buf,⟨h.met.own,h.met.has⟩,uZ h.grown⟩
theorem oc.alloc {g n cap bm m:Nat} {D:DataW Unit} {S:List (Nat × Nat)} (h:oc B N w g n cap bm m D S F P W) (o:Obj):oc B N w g n cap bm m D S F P (W.alloc o):=⟨h.tb.below (aB W o) h.tb.lt,h.buf.kept (tC W o none) (by simp),h.met.kept (tC W o none) (by simp),h.grown.trans (tC W o _)⟩
theorem oc.put {g n cap bm m d k:Nat} {D:DataW Unit} {R:List (Nat × Nat)} (h:oc B N w g n cap bm m D ((d,k) :: R) F P W) (hB:B<w.heap.size) (hne:bm≠g) (k':Nat):oc B N w g n cap bm m D ((d,k') :: R) F P (W.setCell ⟨g,R.length*2+1,none⟩ (ad (k':Int))):=by have hs:=(h.buf.2.stored (R.length*2+1) (ad (k':Int))).2;have hl:=h.buf.lt;exact ⟨h.tb.below (xf hs hl.1 (iH (Nat.lt_of_le_of_lt hl.1 hl.2))) hB,h.buf.put k',(h.met.top k').kept hs (by simpa using hne),BO h.grown hs (fun j hj=>by cases hj;exact Or.inl hl.1)⟩
theorem oc.found {g n cap bm m:Nat} {D:DataW Unit} {S:List (Nat × Nat)} {F':Nat->Nat} {P':Nat->ByteArray} (h:oc B N w g n cap bm m D S F P W) (hB:B<w.heap.size) (rC:w.heap.size<=bm) (ht:dN B N F' P' W') (hg:W.grownBy W' (some B)):oc B N w g n cap bm m D S F' P' W':=⟨ht,h.buf.kept hg (by have:=h.buf.lt.1;simp;omega),h.met.kept hg (by simp;omega),h.grown.trans hg⟩
structure xg (B:Nat) (N:Nat->cW) (E:Nat->List aV) (w:World) (left:Nat) (g n cap bm:Nat) (S:List (Nat × Nat)) (F:Nat->Nat) (P:Nat->ByteArray) (W:World):Prop where
 tb:dN B N F P W
 inv:fM E (fun i=>(N i).k) S F P
 buf:gw w.heap.size W g n cap S
 met:∃ m D,qS bm m S D W/\m+left<=281474976710656
 bm:w.heap.size<=bm/\bm≠g
 num:∀ x,F x+left<=281474976710656
 left:left=iQ E S
 grown:w.grownBy W (some B)
theorem xg.drew {left g n cap bm:Nat} {S:List (Nat × Nat)} (h:xg B N E w left g n cap bm S F P W):xg B N E w left g n cap bm S F P W.drew:=⟨h.tb.drew,h.inv,h.buf,by obtain ⟨m,D,h1,h2⟩:=h.met;exact ⟨m,D,⟨h1.own,h1.has⟩,h2⟩,h.bm,h.num,h.left,uZ h.grown⟩
theorem PZ (hf:∀ i,(E i).length<=12):∀ S:List (Nat × Nat),iQ E S<=13*16 ^ 8*S.length
 | []=>aS _
 | q :: R=>by have ih:=PZ hf R;have h1:=hf q.1;have h2:16 ^ (8-(R.length+1))<=16 ^ 8:=Nat.pow_le_pow_right (by decide) (by omega);have h3:((E q.1).length-q.2+1)*16 ^ (8-(R.length+1))<=13*16 ^ 8:=Nat.mul_le_mul (by omega) h2;simp only[iQ,dA];rw[Nat.mul_succ];omega
theorem aag (w:World) (hT:dN B N (fun _=>0) (fun _=>⟨#[]⟩) w) (hN:BN B N E w) (mR:(N 0).k=2):Calls prog 101 #[.pointer (some ⟨B,0,none⟩)] w fun e w'=>w.grownBy w' (some B)/\((e=.returned (.bool false)/\gU E (fun i=>(N i).k)=false)\/(e=.returned (.bool true)/\∃ F P,dN B N F P w'/\fM E (fun i=>(N i).k) [] F P/\∀ x,F x<=281474976710656)):=by
 have hmm:=@run_makeMap prog;have x0:=hT.rz 0 (by decide);have y0:=hT.free 56 (by decide);have t1:=hT.Wy (i:=0) (by decide) ⟨#[47]⟩;have g1:w.grownBy (w.setCell ⟨B,56,none⟩ (.string ⟨#[47]⟩)) (some B):=WS _ B 56 _;have hs1:(w.setCell ⟨B,56,none⟩ (.string ⟨#[47]⟩)).heap.size=w.heap.size:=by simp[World.setCell]
 have s2:=aaa (base:=w.heap.size) (w.setCell ⟨B,56,none⟩ (.string ⟨#[47]⟩)) (by rw[hs1];exact aq _);have o3:=World.ownsMap_made (H:=Unit) ((w.setCell ⟨B,56,none⟩ (.string ⟨#[47]⟩)).alloc (.cells #[.int .i64 0,.int .i64 0] 187)) prog 3 (plainElem prog 3);have hs2:((w.setCell ⟨B,56,none⟩ (.string ⟨#[47]⟩)).alloc (.cells #[.int .i64 0,.int .i64 0] 187)).heap.size=w.heap.size+1:=by simp
 rw[hs2] at o3;obtain ⟨w3,ahm,qp,VH⟩:=o3.store BM underlying189 (by unfold maxLen;omega) (key:=.int .i64 0) (val:=.int .i64 0) (kl:=.int .i64 0) (WY underlying3 (by decide)) (plainElem_int underlying3 (by decide));have st0:xg B N E w (iQ E [(0,0)]) w.heap.size 1 1 (w.heap.size+1) [(0,0)] (fun _=>0) (fun i=>if i=0 then ⟨#[47]⟩ else ⟨#[]⟩) w3:=by
  have hl:=PZ hN.yK [(0,0)];simp only[dA,fB] at hl;have gt:=VH.grown;have ga:=(tC (w.setCell ⟨B,56,none⟩ (.string ⟨#[47]⟩)) (.cells #[.int .i64 0,.int .i64 0] 187) none);have gb:=(tC ((w.setCell ⟨B,56,none⟩ (.string ⟨#[47]⟩)).alloc (.cells #[.int .i64 0,.int .i64 0] 187)) (.map #[] 0) none);have hBw:=hT.lt;refine ⟨?_,Y7,?_,⟨1,_,⟨qp,?_⟩,by omega⟩,⟨by omega,by omega⟩,fun x=>by omega,rfl,?_⟩
  ·have h1:Below (B+1) (w.setCell ⟨B,56,none⟩ (.string ⟨#[47]⟩)) w3:=by
    refine ⟨?_,?_,?_,?_,fun k hk=>?_⟩;·exact gt.os.trans (gb.os.trans ga.os)
    ·exact gt.tape.trans (gb.tape.trans ga.tape)
    ·exact gt.output.trans (gb.output.trans ga.output)
    ·exact bt ga.size (bt gb.size gt.size)
    rw[gt.block k (by simp;omega) (by simp;omega),gb.block k (by simp;omega) (by simp),ga.block k (by simp;omega) (by simp)]
   exact t1.below h1 (by omega)
  ·have:=(s2.kept gb (by simp)).kept gt (by rw[hs1];simp);rw[hs1] at this;exact this
  ·intro x;exact PX (S:=[]) Maps.isMap_empty 0 _ (fun y=>rfl) x
  exact BO ((g1.trans (tC _ _ _)).trans (tC _ _ _)) gt (fun j hj=>by cases hj;left;omega)
 clear qp VH o3 s2 t1 g1 hs1 hs2;go_enter func101,ntmps101;go_wp2;go_step3
 go_wp2;go_step3
 go_wp2;have hT0:=hT.lt;clear ahm hmm x0 y0 hT;go_loopg [3] (iQ E [(0,0)]) (fun gk v wx=>∃ (g n cap:Nat) (S:List (Nat × Nat)) (F:Nat->Nat) (P:Nat->ByteArray),v=.slice (some ⟨g,0,none⟩) n cap/\xg B N E w gk g n cap (w.heap.size+1) S F P wx)
 case atStart=>exact ⟨_,_,_,_,_,_,rfl,st0⟩
 case round=>
 obtain ⟨g,n,cap,S,F,P,rfl,st⟩:=hrel;clear st0;obtain ⟨go,rfl⟩:∃ go,go=gk:=⟨_,rfl⟩;obtain ⟨wo,rfl⟩:∃ wo,wo=wr:=⟨_,rfl⟩;cases S with
 | nil=>
  have hn:n=0:=st.buf.1;subst hn;go_wp2;try rw[Exit.noGoto_ret]
  go_ret;exact ⟨st.grown,Or.inr ⟨rfl,F,P,st.tb,st.inv,fun x=>bt (sh _ _) (st.num x)⟩⟩
 | cons q R=>
  obtain ⟨d,k⟩:=q;have hn:n=R.length+1:=st.buf.1;subst hn;have hd:=(st.inv.lt (d,k) (by simp)).1;have hBw:=hT0;have i0:=st.buf.ino;have e0:=st.tb.Al hd;rw[hN.ne d hd] at e0;obtain ⟨ae,hae⟩:∃ ae,(N d).ae=ae:=⟨_,rfl⟩;have HAE:Hid ((N d).ae=ae):=hae;rw[hae] at e0;clear hae;have hlen:=st.inv.len;simp only[dA] at hlen;have a1:(0:Int)<((R.length+1:Nat):Int):=by omega
  have a2:IntKind.i64.wrap (((R.length+1:Nat):Int)-1)=(R.length:Int):=by rw[se];omega
  have a3:(0:Int)<=(R.length:Int):=by omega
  have a4:(R.length:Int)<((R.length+1:Nat):Int):=by omega
  have a5:(0:Int)<=(d:Int):=by omega
  have a6:(d:Int)<8:=by omega
  go_wp2;go_region
  go_wp2;clear i0 e0 a1 a2;go_loopg [3] go (fun gj v wx=>∃ (k:Nat) (F:Nat->Nat) (P:Nat->ByteArray),gj<=go/\v=.slice (some ⟨g,0,none⟩) (R.length+1) cap/\xg B N E w gj g (R.length+1) cap (w.heap.size+1) ((d,k) :: R) F P wx)
  case atStart=>exact ⟨k,F,P,aq _,rfl,st.drew⟩
  case round=>
   clear st;obtain ⟨k,F,P,hle,rfl,st⟩:=hrel;obtain ⟨m,D,hmet,AB⟩:=st.met;have Hn:oc B N w g (R.length+1) cap (w.heap.size+1) m D ((d,k) :: R) F P wr:=⟨st.tb,st.buf,hmet,st.grown⟩;have n0:=st.buf.next;have rC:=st.bm;by_cases hk:k<(E d).length
   ·have hmem:=BF hk;have hin:=hN.Ww.ino d _ hmem;have hsh:=hN.short d _ hmem;have hrow:=hN.ahv st.grown hd;rw[HAE.out] at hrow;obtain ⟨b,off,hab,hbl,hc⟩:=hrow.get hk;subst hab;have x1:=(hc k hk).1;have x2:=(hc k hk).2;obtain ⟨x,hx⟩:∃ x:Nat,(bS (E d) k).1=(x:Int):=⟨(bS (E d) k).1.toNat,by omega⟩;obtain ⟨nm,hnm⟩:∃ nm,(bS (E d) k).2=nm:=⟨_,rfl⟩;have HX:Hid ((bS (E d) k).1=(x:Int)):=hx;have HM:Hid ((bS (E d) k).2=nm):=hnm;rw[hx] at x1 hin;rw[hnm] at x2 hsh;clear hx hnm hc hrow hmem hbl;have Az:=Hn.alloc (.cells #[.int .i64 (x:Int),.string nm] 147);have xX:=Az.put hBw rC.2 (k+1);have eC:(((k+1:Nat)):Int)=(k:Int)+1:=by omega
    rw[eC] at xX;have be:=bu [.int .i64 (x:Int),.string nm] wr 147;have Da:=be.aR (B':=g) (by have:=st.buf.lt;omega) (R.length*2+1) (.int .i64 ((k:Int)+1));have c0:=be.c0;have c1:=be.c1;have c2:=Da.c0;have c3:=Da.c1;have n1:=Az.buf.next;have f1:=Az.buf.free (R.length*2+1);have p1:=Az.buf.ino;have p2:=xX.buf.ino;have b1:(0:Int)<=(k:Int):=by omega
    have b2:(k:Int)<((E d).length:Int):=by omega
    have b3:IntKind.i64.wrap ((k:Int)+1)=(k:Int)+1:=by have:=hN.yK d;rw[se];omega
    have hkey:keyOf prog 3 (.int .i64 (x:Int))=some (.int .i64 (x:Int)):=WY underlying3 (IW x (by omega));have hown2:=xX.met.own;have hhas:=hmet.has x;cases hm:lh ((d,k) :: R) x with
    | true=>
     rw[hm] at hhas;have HB:Hid (gU E (fun i=>(N i).k)=false):=st.inv.back hN.Ww hk HX.out hm;have HG:Hid (w.grownBy ((wr.alloc (.cells #[.int .i64 (x:Int),.string nm] 147)).setCell ⟨g,R.length*2+1,none⟩ (.int .i64 ((k:Int)+1))) (some B)):=xX.grown;clear Hn Az xX be Da st hmet hN hm;go_wp2_with (at_lookup;refine wpList_lookup_own_ok_int _ rfl _ _ 189 rfl 3 3 .i64 BM underlying189 underlying3 (PU _) (w.heap.size+1) m D rfl hown2 _ _ rfl hkey ?_;intro c hat hwc);try rw[Exit.noGoto_ret]
     go_ret;exact ⟨HG.out,Or.inl ⟨rfl,HB.out⟩⟩
    | false=>
     rw[hm] at hhas;have nP:x<8:=by omega
     have hl0:0<gk:=by rw[st.left];exact Nat.lt_of_le_of_lt (aS _) O9
     have Vp:F x<281474976710656:=by have:=st.num x;omega
     have UF:(P d).size<=281474976710656:=by have:=aaf hN.short (st.inv.Dq [] (d,k) R rfl);simp only at this;omega
     have Hd:=xX.drew;have hBG:wr.heap.size≠B:=by have:=st.tb.lt;omega
     have uD:Hid ((w.heap.size<=g/\g<wr.heap.size)/\w.heap.size+1<wr.heap.size):=⟨st.buf.lt,hmet.lt⟩;have HF:Hid (∀ W,dN B N F P W->_):=fun W h=>Zj d x nm W h hd nP Vp UF (by omega);have HI:Hid (fM E (fun i=>(N i).k) ((d,k) :: R) F P/\lh ((d,k) :: R) x=false/\gk=iQ E ((d,k) :: R)/\∀ y,F y+gk<=281474976710656):=⟨st.inv,hm,st.left,st.num⟩;have Ha:=Da.drew;have HN:Hid (BN B N E w):=hN;clear Hn Az xX be Da st hmet hm UF Vp hN;go_wp2_with (at_lookup;refine wpList_lookup_own_ok_int _ rfl _ _ 189 rfl 3 3 .i64 BM underlying189 underlying3 (PU _) (w.heap.size+1) m D rfl hown2 _ _ rfl hkey ?_;intro c hat hwc);clear hown2 x1 x2 n0 n1 f1 b1 b2 b3;have hS2:((wr.alloc (.cells #[.int .i64 (x:Int),.string nm] 147)).setCell ⟨g,R.length*2+1,none⟩ (.int .i64 ((k:Int)+1))).drew.cell? ⟨g,R.length*2,none⟩=some (.int .i64 (d:Int))/\((wr.alloc (.cells #[.int .i64 (x:Int),.string nm] 147)).setCell ⟨g,R.length*2+1,none⟩ (.int .i64 ((k:Int)+1))).drew.cell? ⟨wr.heap.size,0,none⟩=some (.int .i64 (x:Int))/\((wr.alloc (.cells #[.int .i64 (x:Int),.string nm] 147)).setCell ⟨g,R.length*2+1,none⟩ (.int .i64 ((k:Int)+1))).drew.cell? ⟨wr.heap.size,1,none⟩=some (.string nm):=⟨Hd.buf.ino,Ha.c0,Ha.c1⟩;go_region_held3 (fun W=>W.cell? ⟨g,R.length*2,none⟩=some (.int .i64 (d:Int))/\W.cell? ⟨wr.heap.size,0,none⟩=some (.int .i64 (x:Int))/\W.cell? ⟨wr.heap.size,1,none⟩=some (.string nm)) (assumption) ((go_at_call 145;refine (HF.out _ Hd.tb).mono ?_;rintro e w3 ⟨rfl,t3,g3⟩;have mP:=Hd.found hBw rC.1 t3 g3;have yj:=IX Ha g3 hBG;have Up:w3.cell? ⟨g,R.length*2,none⟩=some (.int .i64 (d:Int))/\w3.cell? ⟨wr.heap.size,0,none⟩=some (.int .i64 (x:Int))/\w3.cell? ⟨wr.heap.size,1,none⟩=some (.string nm):=⟨mP.buf.ino,yj.c0,yj.c1⟩))
     have hkd:=mP.tb.kind nP;have q0:=yj.c0;have x5:(0:Int)<=(x:Int):=by omega
     have x6:(x:Int)<8:=by omega
     obtain ⟨kx,hkx⟩:∃ kx,(N x).k=kx:=⟨_,rfl⟩;have L7:Hid ((N x).k=kx):=hkx;rw[hkx] at hkd;clear hkx hS2 Up Hd Ha HF c0 c1 c2 c3 p1 p2 hhas g3 t3;obtain ⟨I1,I2,I3,I4⟩:=HI.out;obtain ⟨F',eF⟩:∃ F',nz F x=F':=⟨_,rfl⟩;obtain ⟨P',eP⟩:∃ P',nC P x (P d++jq d++nm)=P':=⟨_,rfl⟩;have hup:∀ y,F' y<=F y+1:=fun y=>by rw[<- eF,nz];split <;> omega
     rw[eF,eP] at mP;by_cases hK:kx=2
     ·have HJ:Hid (fM E (fun i=>(N i).k) ((x,0) :: (d,k+1) :: R) F' P'/\iQ E ((x,0) :: (d,k+1) :: R)<gk):=by
       refine ⟨?_,?_⟩
       ·have:=I1.dir hk HX.out I2 (show (N x).k=2 from L7.out.trans hK) (by omega) nP
        rw[HM.out,eF,eP] at this;exact this
       rw[I3];refine Zg hk (bt (HN.out.yK x) (by decide)) ?_;have:=(I1.dir hk HX.out I2 (show (N x).k=2 from L7.out.trans hK) (by omega) nP).len
       simpa using this
      have HL:Hid (m+gk<=281474976710656/\∀ y,F y+gk<=281474976710656):=⟨AB,I4⟩;have aiv:m<maxLen:=by unfold maxLen;omega
      have mid3d:=(mP.drew).drew;have hown3:=mP.met.own;have hwf:(Lit.int .i64 ((R.length:Int)+1)).wf=true:=IW (R.length+1) (by omega);clear I1 I2 I3 I4 eF eP;subst hK;go_wp2;go_region
      have U9:((w3.drew).ownsMap prog 3 (plainElem (H:=Unit) prog 3) (w.heap.size+1) m D):=hown3;go_wp2_with (first
       | (at_mapUpdate;refine wpList_mapUpdate_in _ rfl _ _ _ 189 rfl 3 3 BM underlying189 _ (w.heap.size+1) m D rfl U9 aiv _ _ _ rfl rfl hkey _ [] (plainElem_int underlying3 hwf) ?_;intro w4 AI yi;have be4:=IX yj.drew yi.grown (by have:=uD.out;omega);have q4:=be4.c0;have VW:=(mP.buf.drew).kept yi.grown (by simpa using rC.2.symm))
       | (at_builtin;refine aad rfl (.tmp 87) (.tmp 91) rfl VW x (by rfl) (by rfl) (by omega) (by have:=uD.out;have:=yi.grown.size;have:=VW.lt;omega) ?_;intro g5 cap5 w5 aij Mt hl5))
      clear hown3 U9 q0 q4 hkd;have HO:=HJ.out;go_roundg (iQ E ((x,0) :: (d,k+1) :: R))
      case measure=>omega
      case rel=>
      have hL:=HL.out;have hG:=uD.out;have aiy:(w.heap.size:Nat)+1≠g5:=by
       rcases hl5 with e | e
       ·rw[e];exact rC.2
       have h1:=yi.grown.size;have h2:=yj.lt;have h3:w3.drew.heap.size=w3.heap.size:=rfl;omega
      have t4:=mP.tb.drew.below (xf yi.grown (m:=w.heap.size) (by omega) (by have h2:=yj.lt;have h3:w3.drew.heap.size=w3.heap.size:=rfl;omega)) hBw;have t5:=t4.below (xf Mt (m:=w.heap.size) hG.1.1 (by have h1:=yi.grown.size;have h2:=yj.lt;have h3:w3.drew.heap.size=w3.heap.size:=rfl;omega)) hBw;exact ⟨g5,R.length+1+1,cap5,(x,0) :: (d,k+1) :: R,F',P',rfl,⟨t5,HO.1,aij,⟨m+1,_,⟨AI.kept Mt (by simpa using rC.2),PX mP.met.own.isMap x _ mP.met.has⟩,by omega⟩,⟨rC.1,aiy⟩,fun y=>by have:=hL.2 y;have:=hup y;omega,rfl,BO (BO (uZ mP.grown) yi.grown (fun j hj=>by cases hj;left;omega)) Mt (fun j hj=>by cases hj;exact Or.inl hG.1.1)⟩⟩
     ·have HJ:Hid (fM E (fun i=>(N i).k) ((d,k+1) :: R) F' P'/\iQ E ((d,k+1) :: R)<gk):=by
       refine ⟨?_,?_⟩
       ·have:=I1.file hk HX.out I2 (show ¬ (N x).k=2 from fun e=>hK (L7.out.symm.trans e)) (by omega)
        rw[HM.out,eF,eP] at this;exact this
       rw[I3];exact Zf hk
      have HL:Hid (m+gk<=281474976710656/\∀ y,F y+gk<=281474976710656):=⟨AB,I4⟩;have hK':(kx == 2)=false:=by simpa using hK
      clear I1 I2 I3 I4 eF eP;go_wp2;go_region
      go_wp2;have HO:=HJ.out;go_roundg (iQ E ((d,k+1) :: R))
      case measure=>omega
      case rel=>
      have hL:=HL.out;exact ⟨k+1,F',P',by omega,rfl,⟨mP.tb.drew,HO.1,mP.buf.drew,⟨m,D,⟨mP.met.own,mP.met.has⟩,by omega⟩,rC,fun y=>by have:=hL.2 y;have:=hup y;omega,rfl,uZ mP.grown⟩⟩
   have b2:¬ ((k:Int)<((E d).length:Int)):=by omega
   have i1:=st.buf.ino;have hkey:keyOf prog 3 (.int .i64 (d:Int))=some (.int .i64 (d:Int)):=WY underlying3 (IW d (by omega));have hown:=hmet.own;have hcap:=st.buf.room;have c1:(R.length:Int)<=(cap:Int):=by omega
   have c2:IntKind.i64.wrap (((R.length+1:Nat):Int)-1)=(R.length:Int):=by rw[se];omega
   have HS:Hid (xg B N E w gk g (R.length+1) cap (w.heap.size+1) ((d,k) :: R) F P wr):=st;have HM:Hid (qS (w.heap.size+1) m ((d,k) :: R) D wr/\m+gk<=281474976710656):=⟨hmet,AB⟩;clear Hn st hmet AB hN;go_wp2_with (at_delete;refine wpList_delete_own _ rfl _ _ 189 3 rfl 3 BM underlying189 _ (w.heap.size+1) m D rfl hown _ _ rfl hkey ?_;intro w1 ahE MC);have hs:=HS.out;have hl:=hs.left;have hp:iQ E R<iQ E ((d,k) :: R):=O9;go_roundg (iQ E R)
   case measure=>omega
   case rel=>
   have hm':=HM.out;have hBl:=hm'.1.lt;refine ⟨g,R.length,cap,R,F,P,rfl,⟨hs.tb.below (xf MC.grown (m:=w.heap.size) (by omega) (by omega)) hBw,hs.inv.pop hk,hs.buf.pop.kept MC.grown (by simpa using rC.2.symm),⟨m,_,⟨ahE,aae hs.inv.nodup hm'.1.has⟩,by omega⟩,rC,fun y=>by have:=hs.num y;omega,rfl,BO hs.grown MC.grown (fun j hj=>by cases hj;left;omega)⟩⟩
end
end Go.Proofs.YtidmmopnkjbjoaaGreatDoor
