/- Joined texts. -/
import Derived.Test.YtidmmopnkjbjoaaGreatDoorJpM
import Derived.Test.YtidmmopnkjbjoaaGreatDoorJpN
set_option linter.unusedVariables false
set_option linter.unusedSimpArgs false
set_option maxRecDepth 10000
set_option maxHeartbeats 16000000
namespace Go.Proofs.YtidmmopnkjbjoaaGreatDoor
open ChangeShapes WideShapes ChangeAt RowKit
open Go.Proofs.Tryz
section
theorem Jo (d:ak) (s:aA) (w:World) (hF:jX d s) (hpo:d.po.length<=1048576) (hfr:d.fr.length<=1048576) (hR:dq w d s):Calls prog 89 #[bH d s] w (aT (.bool (bT d)) w):=by have hB:=aB w (.cells (dZ d s) 49);have HC:Hid (Calls prog 138 #[bH d s] (w.alloc (.cells (dZ d s) 49)) fun e w'=>∃ (k o t:Int) (a:Option Addr) (n c:Nat) (ae:Option Addr) (ne ce:Nat) (d':ak) (s':aA),e=.returned (.tuple #[dR k o t a n c ae ne ce d' s',.bool (bT d)])/\aj (w.alloc (.cells (dZ d s) 49)) w'):=(aax d s _ hF hpo hfr (hR.alloc _)).mono fun e w' ⟨k,o,t,a,n,c,ae,ne,ce,d',s',he,hb,_⟩=>⟨k,o,t,a,n,c,ae,ne,ce,d',s',he,hb⟩;clear hR hF;go_enter func89,ntmps89;go_wp2_with (go_at_call 138;refine HC.out.mono ?_;rintro e w1 ⟨k,o,t,a,n,c,ae,ne,ce,d',s',rfl,b1⟩);go_ret;exact ⟨rfl,(hB.trans (b1.mono hB.size)).alloc (bt hB.size b1.size) _⟩
theorem abS (d:ak):(bp d.rc=false/\ky d=false)\/(bp d.rc=true/\(aX d.rc == 0)=true/\ky d=false)\/(bp d.rc=true/\(aX d.rc == 0)=false/\aW d.ino 0 7=false/\ky d=false)\/(bp d.rc=true/\(aX d.rc == 0)=false/\aW d.ino 0 7=true/\aW d.cl 0 8=false/\ky d=false)\/(bp d.rc=true/\(aX d.rc == 0)=false/\aW d.ino 0 7=true/\aW d.cl 0 8=true/\d.un<0/\ky d=false)\/(bp d.rc=true/\(aX d.rc == 0)=false/\aW d.ino 0 7=true/\aW d.cl 0 8=true/\decide (d.un<0)=false/\decide (aN d.rc=d.pg)=false/\ky d=false)\/(bp d.rc=true/\(aX d.rc == 0)=false/\aW d.ino 0 7=true/\aW d.cl 0 8=true/\decide (d.un<0)=false/\decide (aN d.rc=d.pg)=true/\((d.aH.size:Int) != (d.pg.length:Int)*32)=true/\ky d=false)\/(bp d.rc=true/\(aX d.rc == 0)=false/\aW d.ino 0 7=true/\aW d.cl 0 8=true/\decide (d.un<0)=false/\decide (aN d.rc=d.pg)=true/\((d.aH.size:Int) != (d.pg.length:Int)*32)=false/\ky d=true):=by
 unfold ky;cases hI:bp d.rc with
 | false=>exact Or.inl ⟨rfl,rfl⟩
 | true=>
  right;by_cases h0:aX d.rc=0
  ·left;exact ⟨rfl,by simpa using h0,by rw[bF h0];rfl⟩
  ·right;have h0':(aX d.rc == 0)=false:=by simpa using h0
   rw[bq h0,h0'];cases h1:aW d.ino 0 7 with
   | false=>exact Or.inl ⟨rfl,rfl,rfl,rfl⟩
   | true=>
    right;cases h2:aW d.cl 0 8 with
    | false=>exact Or.inl ⟨rfl,rfl,rfl,rfl,rfl⟩
    | true=>
     right;by_cases h3:d.un<0;·exact Or.inl ⟨rfl,rfl,rfl,rfl,h3,by rw[bF h3];rfl⟩
     ·right;rw[bq h3];by_cases hz:aN d.rc=d.pg
      ·right;rw[bF hz];by_cases hs:d.aH.size=d.pg.length*32
       ·right;exact ⟨rfl,rfl,rfl,rfl,rfl,rfl,by simp;omega,by rw[bF hs];rfl⟩
       left;exact ⟨rfl,rfl,rfl,rfl,rfl,rfl,by simp;omega,by rw[bq hs];rfl⟩
      left;rw[bq hz];exact ⟨rfl,rfl,rfl,rfl,rfl,rfl,rfl⟩
theorem abT (d:ak) (K:Int) (hK:aX d.rc=K):(iz d.po 5 23=false/\mI d=false)\/(iz d.po 5 23=true/\decide ((d.po.length:Int)<=4)=false/\mI d=false)\/(iz d.po 5 23=true/\(d.po.length:Int)<=4/\iz d.fr 1 7=false/\mI d=false)\/(iz d.po 5 23=true/\(d.po.length:Int)<=4/\iz d.fr 1 7=true/\decide ((d.fr.length:Int)<=2)=false/\mI d=false)\/(iz d.po 5 23=true/\(d.po.length:Int)<=4/\iz d.fr 1 7=true/\(d.fr.length:Int)<=2/\bN d.fr d.ino=true/\mI d=false)\/(iz d.po 5 23=true/\(d.po.length:Int)<=4/\iz d.fr 1 7=true/\(d.fr.length:Int)<=2/\bN d.fr d.ino=false/\(K == 2)=true/\mI d=true)\/(iz d.po 5 23=true/\(d.po.length:Int)<=4/\iz d.fr 1 7=true/\(d.fr.length:Int)<=2/\bN d.fr d.ino=false/\(K == 2)=false/\mI d=((d.fr.length:Int) == 0)):=by
 unfold mI;rw[hK];cases h1:iz d.po 5 23 with
 | false=>exact Or.inl ⟨rfl,rfl⟩
 | true=>
  right;by_cases h2:d.po.length<=4
  ·right;rw[bF h2];cases h3:iz d.fr 1 7 with
   | false=>exact Or.inl ⟨rfl,by omega,rfl,rfl⟩
   | true=>
    right;by_cases h4:d.fr.length<=2
    ·right;rw[bF h4];cases h5:bN d.fr d.ino with
     | true=>exact Or.inl ⟨rfl,by omega,rfl,by omega,rfl,rfl⟩
     | false=>
      right;by_cases h6:K=2;·exact Or.inl ⟨rfl,by omega,rfl,by omega,rfl,by simpa using h6,by rw[bF h6];rfl⟩
      ·refine Or.inr ⟨rfl,by omega,rfl,by omega,rfl,by simpa using h6,?_⟩;rw[bq h6];by_cases h7:d.fr.length=0;·simp[h7]
       rw[bq h7];have:((d.fr.length:Int) == 0)=false:=by simp;intro e;exact h7 (by rw[e];rfl)
       rw[this];rfl
    ·left;rw[bq h4];exact ⟨rfl,by omega,rfl,by simp;omega,rfl⟩
  ·left;rw[bq h2];exact ⟨rfl,by simp;omega,rfl⟩
structure vA (w:World) (d:ak) (s:aA) (k o t:Int) (a:Option Addr) (n c B:Nat) (W:World):Prop where
 arg:fL w.heap.size d s W
 nb:av B (eV k o t a n c) W
 ah:aj w W
variable {w W W' : World} {d : ak} {s : aA} {k o t : Int} {a : Option Addr} {n c B : Nat}
theorem vA.below (h:vA w d s k o t a n c B W) (hb:aj W W'):vA w d s k o t a n c B W':=⟨h.arg.below hb,h.nb.below hb,h.ah.trans (hb.mono h.ah.size)⟩
theorem vA.drewN (h:vA w d s k o t a n c B W) (m:Nat):vA w d s k o t a n c B (W.drewN m):=⟨⟨h.arg.b.drewN m⟩,h.nb.drewN m,cL h.ah m⟩
abbrev QS (w:World) (d:ak) (s:aA):World:=w.alloc (.cells #[.int .i64 d.ino,.int .i64 d.cl,.int .i64 d.un,.string d.rc,.slice s.a1 d.pg.length s.c1,.string d.aH,.slice s.a2 d.po.length s.c2,.slice s.a3 d.fr.length s.c3] 49)
theorem vB (hb:aj (QS w d s) W):vA w d s k o t a n c W.heap.size (W.alloc (.cells (bj k o t a n c) 117)):=
  ⟨⟨((bu (eI d s) w 49).below hb).alloc _⟩,bu (eV k o t a n c) W 117,
   ((aB w _).trans (hb.mono (aB w _).size)).alloc (bt (aB w _).size hb.size) _⟩
theorem xw {d:ak} (h:ky d=false):bT d=false:=by rw[<- Bv,uT,h];rfl
theorem abU {d:ak} (h:jn d.pg d.po=false):bT d=false:=by rw[<- Bv,uT,h,dH,dU]
theorem abV {d:ak} (h:uS d=false):bT d=false:=by rw[<- Bv,uT,h,dH,dU,dU]
theorem abW {d:ak} (h1:ky d=true) (h2:jn d.pg d.po=true) (h3:uS d=true):bT d=mI d:=by rw[<- Bv,uT,h1,h2,h3];rfl
end
theorem Jp (n:Int) (h0 : -9223372036854775808<=n) (h1:n<=9223372036854775807):(Lit.int .i64 n).wf=true:=by simp[Lit.wf,IntKind.min,IntKind.max,IntKind.signed,IntKind.bits];omega
theorem Fu (d:ak) (s:aA) (w:World) (hF:jX d s) (hpo:d.po.length<=1048576) (hfr:d.fr.length<=1048576) (hR:dq w d s):Calls prog 72 #[bH d s] w (aT (.bool (bT d)) w):=by
  have hG:Hid (∀ W,_):=fun W=>uX d.rc W hF.m4;have HL:Hid (∀ W,aj w W->dq W d s):=fun W hb=>hR.below hb;have hpl:d.pg.length<=281474976710656:=hF.p1;have hsl:=hF.m5;have hsm:d.aH.size<=maxLen:=by unfold maxLen;omega
  have hA:Hid (∀ W e w',iZ d.rc W e w'->∃ a c,e=.returned (.tuple #[bO (aX d.rc) (cq d.rc) (bX d.rc) a (aN d.rc).length c,.bool (bp d.rc)])/\aQ W.heap.size w' a (aN d.rc)/\(aN d.rc).length<=c/\aj W w'):=fun W e w' h=>h;have hzl:(aN d.rc).length<=281474976710656:=by
    unfold aN;split;· rw[wK];have:=wL d.rc;omega
    exact aS _
  have hsb:bp d.rc=true->-9223372036854775808<=bX d.rc/\bX d.rc<=9223372036854775807:=fun h=>by have:=mH h;omega
  have hcase:=abS d;have hD0:uS d=(!decide (aX d.rc=2) || cO (aO d.aH 0 (bX d.rc))):=rfl;have hlast:=abT d (aX d.rc) rfl;have hgd:Hid (∀ W,Calls prog 136 #[.string (aO d.aH 0 (bX d.rc))] W (nZ (aO d.aH 0 (bX d.rc)) W)):=fun W=>EI _ _ (bt (nn _ _ _) hF.m5);obtain ⟨K,hK⟩:∃ K,aX d.rc=K:=⟨_,rfl⟩;obtain ⟨O,hO⟩:∃ O,cq d.rc=O:=⟨_,rfl⟩;obtain ⟨S,hS⟩:∃ S,bX d.rc=S:=⟨_,rfl⟩;obtain ⟨Z,hZ⟩:∃ Z,aN d.rc=Z:=⟨_,rfl⟩;rw[hK,hZ] at hcase;rw[hK] at hlast;rw[hK,hO,hS,hZ] at hA;rw[hZ] at hzl;rw[hS] at hsb hgd;rw[hS,hK] at hD0;have hpt:Hid (bp d.rc=true->∀ W,Calls prog 78 #[.string d.aH,ad 0,ad S] W (dp (.string (aO d.aH 0 S)) W)):=fun h W=>np _ _ _ _ hsm (by decide) (Jp _ (hsb h).1 (hsb h).2);obtain ⟨P,hP⟩:∃ P,aO d.aH 0 S=P:=⟨_,rfl⟩;rw[hP] at hgd hD0 hpt;have HD:Hid (∀ W e w',nZ P W e w'->∃ a c,e=.returned (.tuple #[.slice a (dI P).length c,.bool (cO P)])/\aj W w'):=fun W e w' ⟨a,c,he,_,_,hb⟩=>⟨a,c,he,hb⟩;clear hK hO hS hZ hP hR hF hsb hsm;rcases hcase with ⟨gI,hp⟩ | ⟨gI,g0,hp⟩ | ⟨gI,g0,g1,hp⟩ | ⟨gI,g0,g1,g2,hp⟩ | ⟨gI,g0,g1,g2,g3,hp⟩ | ⟨gI,g0,g1,g2,g3,gz,hp⟩ | ⟨gI,g0,g1,g2,g3,gz,gs,hp⟩ | ⟨gI,g0,g1,g2,g3,gz,gs,hp⟩
  · rw[gI] at hA;rw[xw hp];clear gI hlast hD0 hp hpt hgd HD;go_enter func72,ntmps72;go_wp2_with (first
      | (go_at_call 135;refine (hG.out _).mono ?_;intro e w1 hans;obtain ⟨a,c,rfl,ho,hc,b1⟩:=hA.out _ _ _ hans;clear hans;have p1:=vB (k:=K) (o:=O) (t:=S) (a:=a) (n:=Z.length) (c:=c) b1;have x0:=p1.nb.c0;have x3:=p1.nb.c3;have c0:=p1.arg.c0;have c1:=p1.arg.c1;have c2:=p1.arg.c2;have c4:=p1.arg.c4;have c5:=p1.arg.c5;have r1:=ho.row.alloc (.cells (bj K O S a Z.length c) 117);have r2:=(HL.out _ p1.ah).r1)
      | (go_at_call 26;refine (cH _ _ _ _).mono ?_;rintro e w' ⟨rfl,rfl⟩))
    go_ret;exact ⟨rfl,p1.ah⟩
  · rw[gI] at hA;rw[xw hp];clear gI hlast hD0 hp hpt hgd HD;go_enter func72,ntmps72;go_wp2_with (first
      | (go_at_call 135;refine (hG.out _).mono ?_;intro e w1 hans;obtain ⟨a,c,rfl,ho,hc,b1⟩:=hA.out _ _ _ hans;clear hans;have p1:=vB (k:=K) (o:=O) (t:=S) (a:=a) (n:=Z.length) (c:=c) b1;have x0:=p1.nb.c0;have x3:=p1.nb.c3;have c0:=p1.arg.c0;have c1:=p1.arg.c1;have c2:=p1.arg.c2;have c4:=p1.arg.c4;have c5:=p1.arg.c5;have r1:=ho.row.alloc (.cells (bj K O S a Z.length c) 117);have r2:=(HL.out _ p1.ah).r1)
      | (go_at_call 26;refine (cH _ _ _ _).mono ?_;rintro e w' ⟨rfl,rfl⟩))
    go_ret;exact ⟨rfl,p1.ah⟩
  · rw[gI] at hA;rw[xw hp];clear gI hlast hD0 hp hpt hgd HD;go_enter func72,ntmps72;go_wp2_with (first
      | (go_at_call 135;refine (hG.out _).mono ?_;intro e w1 hans;obtain ⟨a,c,rfl,ho,hc,b1⟩:=hA.out _ _ _ hans;clear hans;have p1:=vB (k:=K) (o:=O) (t:=S) (a:=a) (n:=Z.length) (c:=c) b1;have x0:=p1.nb.c0;have x3:=p1.nb.c3;have c0:=p1.arg.c0;have c1:=p1.arg.c1;have c2:=p1.arg.c2;have c4:=p1.arg.c4;have c5:=p1.arg.c5;have r1:=ho.row.alloc (.cells (bj K O S a Z.length c) 117);have r2:=(HL.out _ p1.ah).r1)
      | (go_at_call 26;refine (cH _ _ _ _).mono ?_;rintro e w' ⟨rfl,rfl⟩))
    go_ret;exact ⟨rfl,p1.ah⟩
  · rw[gI] at hA;rw[xw hp];clear gI hlast hD0 hp hpt hgd HD;go_enter func72,ntmps72;go_wp2_with (first
      | (go_at_call 135;refine (hG.out _).mono ?_;intro e w1 hans;obtain ⟨a,c,rfl,ho,hc,b1⟩:=hA.out _ _ _ hans;clear hans;have p1:=vB (k:=K) (o:=O) (t:=S) (a:=a) (n:=Z.length) (c:=c) b1;have x0:=p1.nb.c0;have x3:=p1.nb.c3;have c0:=p1.arg.c0;have c1:=p1.arg.c1;have c2:=p1.arg.c2;have c4:=p1.arg.c4;have c5:=p1.arg.c5;have r1:=ho.row.alloc (.cells (bj K O S a Z.length c) 117);have r2:=(HL.out _ p1.ah).r1)
      | (go_at_call 26;refine (cH _ _ _ _).mono ?_;rintro e w' ⟨rfl,rfl⟩))
    go_ret;exact ⟨rfl,p1.ah⟩
  · rw[gI] at hA;rw[xw hp];clear gI hlast hD0 hp hpt hgd HD;go_enter func72,ntmps72;go_wp2_with (first
      | (go_at_call 135;refine (hG.out _).mono ?_;intro e w1 hans;obtain ⟨a,c,rfl,ho,hc,b1⟩:=hA.out _ _ _ hans;clear hans;have p1:=vB (k:=K) (o:=O) (t:=S) (a:=a) (n:=Z.length) (c:=c) b1;have x0:=p1.nb.c0;have x3:=p1.nb.c3;have c0:=p1.arg.c0;have c1:=p1.arg.c1;have c2:=p1.arg.c2;have c4:=p1.arg.c4;have c5:=p1.arg.c5;have r1:=ho.row.alloc (.cells (bj K O S a Z.length c) 117);have r2:=(HL.out _ p1.ah).r1)
      | (go_at_call 26;refine (cH _ _ _ _).mono ?_;rintro e w' ⟨rfl,rfl⟩))
    go_ret;exact ⟨rfl,p1.ah⟩
  · rw[gI] at hA;rw[xw hp];clear gI hlast hD0 hp hpt hgd HD;go_enter func72,ntmps72;go_wp2_with (first
      | (go_at_call 135;refine (hG.out _).mono ?_;intro e w1 hans;obtain ⟨a,c,rfl,ho,hc,b1⟩:=hA.out _ _ _ hans;clear hans;have p1:=vB (k:=K) (o:=O) (t:=S) (a:=a) (n:=Z.length) (c:=c) b1;have x0:=p1.nb.c0;have x3:=p1.nb.c3;have c0:=p1.arg.c0;have c1:=p1.arg.c1;have c2:=p1.arg.c2;have c4:=p1.arg.c4;have c5:=p1.arg.c5;have r1:=ho.row.alloc (.cells (bj K O S a Z.length c) 117);have r2:=(HL.out _ p1.ah).r1)
      | (go_at_call 26;refine (cH _ _ _ _).mono ?_;rintro e w' ⟨rfl,rfl⟩)
      | (go_at_call 86;refine (Ev _ _ _ _ _ _ _ hzl hpl r1 r2).mono ?_;rintro e w2 ⟨rfl,m,rfl⟩))
    go_ret;exact ⟨rfl,(p1.drewN m).ah⟩
  · rw[gI] at hA;rw[xw hp];clear gI hlast hD0 hp hpt hgd HD;go_enter func72,ntmps72;go_wp2_with (first
      | (go_at_call 135;refine (hG.out _).mono ?_;intro e w1 hans;obtain ⟨a,c,rfl,ho,hc,b1⟩:=hA.out _ _ _ hans;clear hans;have p1:=vB (k:=K) (o:=O) (t:=S) (a:=a) (n:=Z.length) (c:=c) b1;have x0:=p1.nb.c0;have x3:=p1.nb.c3;have c0:=p1.arg.c0;have c1:=p1.arg.c1;have c2:=p1.arg.c2;have c4:=p1.arg.c4;have c5:=p1.arg.c5;have r1:=ho.row.alloc (.cells (bj K O S a Z.length c) 117);have r2:=(HL.out _ p1.ah).r1)
      | (go_at_call 26;refine (cH _ _ _ _).mono ?_;rintro e w' ⟨rfl,rfl⟩)
      | (go_at_call 86;refine (Ev _ _ _ _ _ _ _ hzl hpl r1 r2).mono ?_;rintro e w2 ⟨rfl,m,rfl⟩))
    go_ret;exact ⟨rfl,(p1.drewN m).ah⟩
  rw[gI] at hA;replace hpt:Hid (∀ W,Calls prog 78 #[.string d.aH,ad 0,ad S] W (dp (.string P) W)):=hpt.out gI;clear gI;have HF1:Hid (ky d=true):=hp;have HD0:Hid (uS d=(!decide (K=2) || cO P)):=hD0;have ah8:=hlast;have agQ:d.po.length<=281474976710656:=by omega
  have UM:d.fr.length<=281474976710656:=by omega
  obtain ⟨RV,DQ⟩:∃ RV,bT d=RV:=⟨_,rfl⟩;have UK:Hid (jn d.pg d.po=false->false=RV):=fun h=>by rw[<- DQ,abU h]
  have Vs:Hid (uS d=false->false=RV):=fun h=>by rw[<- DQ,abV h]
  have Lr:Hid (jn d.pg d.po=true->uS d=true->mI d=RV):=fun h1 h2=>by rw[<- DQ,abW HF1.out h1 h2]
  rw[DQ];clear hp hD0 hlast DQ;go_enter func72,ntmps72;go_wp2_with (first
    | (go_at_call 135;refine (hG.out _).mono ?_;intro e w1 hans;obtain ⟨a,c,rfl,ho,hc,b1⟩:=hA.out _ _ _ hans;clear hans;have p1:=vB (k:=K) (o:=O) (t:=S) (a:=a) (n:=Z.length) (c:=c) b1;have x0:=p1.nb.c0;have x3:=p1.nb.c3;have c0:=p1.arg.c0;have c1:=p1.arg.c1;have c2:=p1.arg.c2;have c4:=p1.arg.c4;have c5:=p1.arg.c5;have r1:=ho.row.alloc (.cells (bj K O S a Z.length c) 117);have r2:=(HL.out _ p1.ah).r1)
    | (go_at_call 26;refine (cH _ _ _ _).mono ?_;rintro e w' ⟨rfl,rfl⟩)
    | (go_at_call 86;refine (Ev _ _ _ _ _ _ _ hzl hpl r1 r2).mono ?_;rintro e w2 ⟨rfl,m,rfl⟩))
  have p2:=p1.drewN m;obtain ⟨V,hV⟩:∃ V,(w1.alloc (.cells (bj K O S a Z.length c) 117)).drewN m=V:=⟨_,rfl⟩;rw[hV] at p2 ⊢;clear hV p1 x0 x3 c0 c1 c2 c4 c5 r1 r2 ho b1 g0 g1 g2 g3 gz gs;go_loopw [5] (fun i w'=>∃ j n:Nat,j<=d.po.length/\bC (qK d.pg d.po) j=true/\i=ad j/\w'=V.drewN n) (fun i _=>d.po.length-(intOf i).toNat);case atStart=>exact ⟨0,0,aS _,rfl,rfl,rfl⟩
  case round=>
  obtain ⟨j,n,hj,hok,rfl,hW⟩:=hrel;have HW:Hid (∀ m,∃ m',wr.drewN m=V.drewN m'):=fun m=>⟨n+m,by rw[hW,tp]⟩;have pw:vA w d s K O S a Z.length c w1.heap.size wr:=by rw[hW];exact p2.drewN n
  have c4:=pw.arg.c4;have c6:=pw.arg.c6;have WH:Hid (∀ m,aj w (wr.drewN m)):=fun m=>cL pw.ah m;by_cases hlt:j<d.po.length
  · obtain ⟨b,off,hab,hb,hcell⟩:=(HL.out _ pw.ah).r2.get hlt;have hH:Hid (∀ m x,Calls prog 70 #[.slice s.a1 d.pg.length s.c1,ad x] (wr.drewN m) fun e w'=>e=.returned (.bool (bN d.pg x))/\w'=wr.drewN m):=fun m x=>qL s.a1 s.c1 d.pg x _ hpl ((HL.out _ pw.ah).r1.drewN m);have x1:=hcell j hlt;have hat:qK d.pg d.po j=!(bN d.pg (d.po.getD j 0)):=rfl;obtain ⟨z,ez⟩:∃ z,d.po.getD j 0=z:=⟨_,rfl⟩;rw[ez] at x1 hat;rw[hab] at c6;have e1:(0:Int)<=(j:Int):=by omega
    have e2:(j:Int)<(d.po.length:Int):=by omega
    cases h2:bN d.pg z with
    | true=>
      have HR:Hid (false=RV):=UK.out (jD hlt (by rw[hat,h2];rfl));clear hat hok ez hcell hW pw p2;go_wp2;go_quiet ((go_at_call 70;exact dD (hH.out _ _) h2));go_wp2;go_ret;exact ⟨bQ HR.out,WH.out _⟩
    | false=>
      have HO:Hid (bC (qK d.pg d.po) (j+1)=true):=jW hok (by rw[hat,h2];rfl);clear hat hok ez hcell hW pw p2;go_wp2;go_quiet ((go_at_call 70;exact dD (hH.out _ _) h2));go_wp2;obtain ⟨m',hm'⟩:=HW.out nq;go_roundw;case rel=>exact ⟨j+1,m',by omega,HO.out,by go_num,hm'⟩
      case measure=>simp[intOf];omega
  obtain rfl:j=d.po.length:=by omega
  have hap:jn d.pg d.po=true:=hok;have c5:=pw.arg.c5;have n2:=pw.nb.c2;have e9:decide ((d.po.length:Int)<(d.po.length:Int))=false:=by simp
  have hdc:(K == 2)=true/\cO P=false/\false=RV\/(((K == 2)=true/\cO P=true)\/(K == 2)=false)/\mI d=RV:=by
    by_cases h2:K=2
    · cases hI:cO P with
      | false=>exact Or.inl ⟨by simpa using h2,rfl,Vs.out (by rw[HD0.out,bF h2,hI];rfl)⟩
      | true=>exact Or.inr ⟨Or.inl ⟨by simpa using h2,rfl⟩,Lr.out hap (by rw[HD0.out,hI,Hv])⟩
    exact Or.inr ⟨Or.inr (by simpa using h2),Lr.out hap (by rw[HD0.out,bq h2];rfl)⟩
  clear hok hW p2 HW WH hap UK Vs Lr HD0 c4;rcases hdc with ⟨hk2,hDf,tc⟩ | ⟨hk2,tc⟩
  · have HR:Hid (false=RV):=tc;clear tc;go_wp2_with (first
      | (go_at_call 78;refine (hpt.out _).mono ?_;rintro e w4 ⟨rfl,rfl⟩)
      | (go_at_call 136;refine (hgd.out _).mono ?_;intro e w5 hans;obtain ⟨ae,ce,rfl,b5⟩:=HD.out _ _ _ hans;clear hans;have p5:=pw.below b5;have k0:=p5.nb.c0;have y0:=p5.arg.c0;have y6:=p5.arg.c6;have y7:=p5.arg.c7))
    go_ret;exact ⟨bQ HR.out,p5.ah⟩
  have HR:Hid (mI d=RV):=tc;clear tc;rcases ah8 with ⟨u1,hl⟩ | ⟨u1,u2,hl⟩ | ⟨u1,u2,u3,hl⟩ | ⟨u1,u2,u3,u4,hl⟩ | ⟨u1,u2,u3,u4,u5,hl⟩ | ⟨u1,u2,u3,u4,u5,u6,hl⟩ | ⟨u1,u2,u3,u4,u5,u6,hl⟩;all_goals
    have HQ:Hid (_=RV):=hl.symm.trans HR.out;clear hl HR;rcases hk2 with ⟨v1,v2⟩ | v1
  all_goals first
    | (exact absurd (v1.symm.trans u6) (by decide))
    | (go_wp2_with (first
        | (go_at_call 78;refine (hpt.out _).mono ?_;rintro e w4 ⟨rfl,rfl⟩)
        | (go_at_call 136;refine (hgd.out _).mono ?_;intro e w5 hans;obtain ⟨ae,ce,rfl,b5⟩:=HD.out _ _ _ hans;clear hans;have p5:=pw.below b5;have k0:=p5.nb.c0;have y0:=p5.arg.c0;have y6:=p5.arg.c6;have y7:=p5.arg.c7)
        | (go_at_call 137;have m6':=m6;refine (OG s.a3 s.c3 d.fr 1 7 _ UM ((HL.out _ p5.ah).r3.drewN m6)).mono ?_;rintro e w7 ⟨rfl,m7,rfl⟩)
        | (go_at_call 137;refine (OG s.a2 s.c2 d.po 5 23 _ agQ (HL.out _ p5.ah).r2).mono ?_;rintro e w6 ⟨rfl,m6,rfl⟩)
        | (go_at_call 70;refine (qL s.a3 s.c3 d.fr _ _ UM (by simpa only[tp] using (HL.out _ p5.ah).r3.drewN (m6+m7))).mono ?_;rintro e w8 ⟨rfl,rfl⟩))
       go_ret;exact ⟨bQ HQ.out,by first | exact p5.ah | exact cL p5.ah _⟩)
theorem Fv (a1 a2:Option Addr) (c1 c2:Nat) (zs al:List Int) (w:World) (h1:zs.length<=281474976710656) (h2:al.length<=281474976710656) (R1:aI w a1 zs) (R2:aI w a2 al):Calls prog 240 #[.slice a1 zs.length c1,.slice a2 al.length c2] w (dp (.bool (ku zs al)) w):=by
 have hH:Hid (∀ x,_):=fun x=>qL a2 c2 al x w h2 R2;clear R2;go_enter func240,ntmps240;go_wp2;go_loop [5] (fun i=>∃ k:Nat,k<=zs.length/\bC (Eo zs al) k=true/\i=ad k) (fun i=>zs.length-(intOf i).toNat)
 case atStart=>exact ⟨0,aS _,rfl,rfl⟩
 case round=>
 obtain ⟨k,hk,hok,rfl⟩:=hrel;by_cases hlt:k<zs.length
 ·obtain ⟨b,off,hab,_,hc⟩:=R1.get hlt;have x1:=hc k hlt;have hat:Eo zs al k=bN al (zs.getD k 0):=rfl;obtain ⟨z,ez⟩:∃ z,zs.getD k 0=z:=⟨_,rfl⟩;rw[ez] at x1 hat;rw[hab];have e1:(0:Int)<=(k:Int):=by omega
  have e2:(k:Int)<(zs.length:Int):=by omega
  cases h:bN al z with
  | true=>
   have HO:Hid (bC (Eo zs al) (k+1)=true):=jW hok (by rw[hat,h]);clear hat hok ez hc;go_wp2_with (go_at_call 70;refine (hH.out _).mono ?_;rintro e w' ⟨rfl,rfl⟩);go_round;case rel=>exact ⟨k+1,by omega,HO.out,by go_num⟩
   case measure=>simp[intOf];omega
  | false=>
   have HR:Hid (ku zs al=false):=jD hlt (by rw[hat,h]);clear hat hok ez hc;go_wp2_with (go_at_call 70;refine (hH.out _).mono ?_;rintro e w' ⟨rfl,rfl⟩);go_ret;exact ⟨bQ HR.out.symm,rfl⟩
 obtain rfl:k=zs.length:=by omega
 have HR:Hid (ku zs al=true):=hok;clear hok R1;go_wp2;go_ret;exact ⟨bQ HR.out.symm,rfl⟩
def cP (es:List aV):List Int:=es.map (·.1)
theorem tT (es:List aV):(cP es).length=es.length:=by simp[cP]
theorem abX (es:List aV) (k:Nat) (h:k<es.length):cP (es.take (k+1))=cP (es.take k) ++ [(bS es k).1]:=by unfold cP;rw[kr h,yN,qG _ _ h];rfl
theorem abY (es:List aV) (k:Nat) (h:k<es.length):(cP es).getD k 0=(bS es k).1:=by rw[eS _ _ (by rw[tT];exact h),qG _ _ h];simp[cP]
theorem QT (a:Option Addr) (c:Nat) (es:List aV) (w:World) (hn:es.length<=1000) (hR:mE w a es):Calls prog 241 #[.slice a es.length c] w fun e w'=>∃ a' c',e=.returned (.slice a' (cP es).length c')/\aQ w.heap.size w' a' (cP es)/\(cP es).length<=c'/\aj w w':=by
 have b0:=fq w (aq _);have l0:=aB w (.cells #[] 3);go_enter func241,ntmps241;go_wp2;go_loopw [3,4] (fun v i w'=>∃ (k c:Nat) (a:Option Addr),k<=es.length/\i=ad k/\v=.slice a k c/\bo w.heap.size w' a k c (cP (es.take k))/\aj w w') (fun _ i _=>es.length-(intOf i).toNat);case atStart=>exact ⟨0,0,_,aS _,rfl,rfl,b0,l0⟩
 case round=>
 obtain ⟨k,c',a',hk,rfl,rfl,hbuf,hbel⟩:=hrel;clear b0 l0;by_cases hlt:k<es.length
 ·obtain ⟨b,off,hab,_,hc⟩:=(hR.below hbel).get hlt;have x1:=(hc k hlt).1;have HS:Hid (cP (es.take k) ++ [(bS es k).1]=cP (es.take (k+1))):=(abX es k hlt).symm;obtain ⟨z,ez⟩:∃ z,(bS es k).1=z:=⟨_,rfl⟩;rw[ez] at x1 HS;rw[hab];have e1:(0:Int)<=(k:Int):=by omega
  have e2:(k:Int)<(es.length:Int):=by omega
  clear ez hc hR;go_wp2_with (at_builtin;refine yY rfl (.tmp 12) (.tmp 18) rfl hbuf _ (by rfl) (by rfl) (by omega) hbel.size ?_;intro g1 ij w1 mQ ko);go_roundw;case rel=>exact ⟨k+1,ij,_,by omega,by go_num,rfl,by rw[<- HS.out];exact mQ,hbel.trans ko⟩
  case measure=>simp[intOf];omega
 obtain rfl:k=es.length:=by omega
 have HF:Hid (bo w.heap.size wr a' es.length c' (cP es)):=by
  show bo _ _ _ _ _ _
  rw[ks] at hbuf;exact hbuf
 have HI:Hid ((cP es).length=es.length):=tT es;have e9:decide ((es.length:Int)<(es.length:Int))=false:=by simp
 clear hR hbuf;go_wp2;go_ret;exact ⟨a',c',by rw[HI.out];rfl,HF.out.own,by rw[HI.out];exact HF.out.fits,hbel⟩
theorem abZ (a:Option Addr) (c:Nat) (zs:List Int) (w:World) (hn:zs.length<=1000) (hR:aI w a zs):Calls prog 94 #[.slice a zs.length c] w fun e w'=>∃ a' c',e=.returned (.slice a' zs.length c')/\bo w.heap.size w' a' zs.length c' zs/\aj w w':=by
 have qn:∀ (w:World) (a:Option Addr) (n c n' c':Nat),(binOp .eql 29 (.slice a n c) (.slice none n' c')).run prog w=.ok (.bool a.isNone) w:=fun w a n c n' c'=>Xh w _ _ a n c n' c' underlying29;cases a with
 | none=>
  have h0:zs=[]:=by
   rcases hR with h | ⟨b,off,h,_⟩;·exact h
   cases h
  subst h0;go_enter func94,ntmps94;go_wp2;go_ret;exact ⟨none,0,rfl,Es _,aK _ _⟩
 | some p=>
  have b0:=fq w (aq _);have l0:=aB w (.cells #[] 3);have r0:=hR.below l0;clear hR;go_enter func94,ntmps94;go_wp2_with (at_builtin;refine pP rfl (.tmp 5) (.tmp 6) rfl b0 _ _ zs (by rfl) (by rfl) r0 (by omega) l0.size ?_;intro a1 c1 w1 b1 l1);go_ret;exact ⟨a1,c1,by simp,by simpa using b1,l0.trans l1⟩
section
variable {w W W' : World} {B : Nat} {a : Option Addr}
theorem vC {x0 x1 x2 x3 x4 x5:Value} (h:av B [x0,x1,x2,x3,x4,x5] W):af W B 0 x0/\af W B 1 x1/\af W B 2 x2/\af W B 3 x3/\af W B 4 x4/\af W B 5 x5:=⟨h.cell 0 (by simp),h.cell 1 (by simp),h.cell 2 (by simp),h.cell 3 (by simp),h.cell 4 (by simp),h.cell 5 (by simp)⟩
theorem Jq {x0 x1 x2 x3 x4 x5:Value} (h:av B [x0,x1,x2,x3,x4,x5] W):W.frozen? ⟨B,0,none⟩=false/\W.frozen? ⟨B,1,none⟩=false/\W.frozen? ⟨B,2,none⟩=false/\W.frozen? ⟨B,3,none⟩=false/\W.frozen? ⟨B,4,none⟩=false/\W.frozen? ⟨B,5,none⟩=false:=⟨h.free 0 (by simp),h.free 1 (by simp),h.free 2 (by simp),h.free 3 (by simp),h.free 4 (by simp),h.free 5 (by simp)⟩
abbrev Fw (W:World) (B:Nat) (y0 y1 y2 y3 y4 y5:Value):World:=((((((W.setCell ⟨B,0,none⟩ y0).setCell ⟨B,1,none⟩ y1).setCell ⟨B,2,none⟩ y2).setCell ⟨B,3,none⟩ y3).setCell ⟨B,4,none⟩ y4).setCell ⟨B,5,none⟩ y5)
theorem Jr {x0 x1 x2 x3 x4 x5:Value} (h:av B [x0,x1,x2,x3,x4,x5] W) (y0 y1 y2 y3 y4 y5:Value):av B [y0,y1,y2,y3,y4,y5] (Fw W B y0 y1 y2 y3 y4 y5):=((((((h.set 0 y0).set 1 y1).set 2 y2).set 3 y3).set 4 y4).set 5 y5)
theorem Js {b:Nat} (h:Below b w W) (hb:b<=B) (y0 y1 y2 y3 y4 y5:Value):Below b w (Fw W B y0 y1 y2 y3 y4 y5):=((((((h.setCell (p:=⟨B,0,none⟩) hb y0).setCell (p:=⟨B,1,none⟩) hb y1).setCell (p:=⟨B,2,none⟩) hb y2).setCell (p:=⟨B,3,none⟩) hb y3).setCell (p:=⟨B,4,none⟩) hb y4).setCell (p:=⟨B,5,none⟩) hb y5)
theorem QU {base:Nat} {zs:List Int} (h:aQ base W a zs) (hB:B<base) (y0 y1 y2 y3 y4 y5:Value):aQ base (Fw W B y0 y1 y2 y3 y4 y5) a zs:=((((((h.set hB 0 y0).set hB 1 y1).set hB 2 y2).set hB 3 y3).set hB 4 y4).set hB 5 y5)
theorem ab0 {base:Nat} {es:List aV} (h:dK base W a es) (hB:B<base) (y0 y1 y2 y3 y4 y5:Value):dK base (Fw W B y0 y1 y2 y3 y4 y5) a es:=(gg (gg (gg (gg (gg (gg h hB 0 y0) hB 1 y1) hB 2 y2) hB 3 y3) hB 4 y4) hB 5 y5)
abbrev vD (k o t:Int) (a:Option Addr) (n c:Nat) (x:ByteArray) (ae:Option Addr) (ne ce:Nat):Value:=.agg #[.int .i64 k,.int .i64 o,.int .i64 t,.slice a n c,.string x,.slice ae ne ce]
abbrev QV (k o t:Int) (a:Option Addr) (n c:Nat) (x:ByteArray) (ae:Option Addr) (ne ce:Nat):List Value:=[.int .i64 k,.int .i64 o,.int .i64 t,.slice a n c,.string x,.slice ae ne ce]
def eY (mem:ByteArray) (i:Int):ByteArray:=(dj mem (aN (ar mem i)) (aN (ar mem i)).length).extract 0 (bX (ar mem i)).toNat
def fv (mem:ByteArray) (i:Int):Bool:=bp (ar mem i) && (!decide (aX (ar mem i)=2) || cO (eY mem i))
def dw (mem:ByteArray) (i:Int):List aV:=if aX (ar mem i)=2 then dI (eY mem i) else []
structure Fx (w:World) (k o t:Int) (a:Option Addr) (n c B:Nat) (W:World):Prop where
 res:av w.heap.size (QV 0 0 0 none 0 0 ⟨#[]⟩ none 0 0) W
 nb:av B (eV k o t a n c) W
 ah:aj w W
theorem Fx.below {k o t:Int} {n c:Nat} (h:Fx w k o t a n c B W) (hb:aj W W'):Fx w k o t a n c B W':=⟨h.res.below hb,h.nb.below hb,h.ah.trans (hb.mono h.ah.size)⟩
abbrev ab1 (w:World):World:=w.alloc (.cells #[.int .i64 0,.int .i64 0,.int .i64 0,.slice none 0 0,.string ⟨#[]⟩,.slice none 0 0] 131)
theorem Jt {k o t:Int} {n c:Nat} (hb:aj (ab1 w) W):Fx w k o t a n c W.heap.size (W.alloc (.cells (bj k o t a n c) 117)):=⟨((bu (QV 0 0 0 none 0 0 ⟨#[]⟩ none 0 0) w 131).below hb).alloc _,bu (eV k o t a n c) W 117,((aB w _).trans (hb.mono (aB w _).size)).alloc (bt (aB w _).size hb.size) _⟩
theorem QW (mem:ByteArray) (i:Int):(bp (ar mem i)=false/\fv mem i=false)\/(bp (ar mem i)=true/\(aX (ar mem i) != 2)=true/\fv mem i=true/\dw mem i=[])\/(bp (ar mem i)=true/\(aX (ar mem i) != 2)=false/\fv mem i=cO (eY mem i)/\dw mem i=dI (eY mem i)):=by
 unfold fv dw;cases hI:bp (ar mem i) with
 | false=>exact Or.inl ⟨rfl,dH _⟩
 | true=>
  right;by_cases h2:aX (ar mem i)=2
  ·right;exact ⟨rfl,by simpa using h2,by rw[bF h2,fe,DV,Hu],by rw[aF h2]⟩
  ·left;exact ⟨rfl,by simpa using h2,by rw[bq h2,Bool.not_false,Bool.true_or,fe],by rw[aG h2]⟩
theorem Ju (mem:ByteArray) (i:Int) (hm:mem.size=768):(eY mem i).size<=281474976710656:=by
 unfold eY;rw[lU];cases hI:bp (ar mem i) with
 | true=>
  have hg:=mH hI;rw[Bt hm hg.2.2.2.1 _ (aq _)];have:=hg.2.1;omega
 | false=>
  rw[(wM hI).2.2.2];have:(dj mem [] ([]:List Int).length).size=0:=rfl;omega
end
end Go.Proofs.YtidmmopnkjbjoaaGreatDoor
