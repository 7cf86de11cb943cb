/- Joined texts. -/
import Derived.Test.YtidmmopnkjbjoaaGreatDoorJpF
set_option linter.unusedVariables false
set_option linter.unusedSimpArgs false
set_option maxRecDepth 10000
set_option maxHeartbeats 16000000
namespace Go.Proofs.YtidmmopnkjbjoaaGreatDoor
open ChangeShapes WideShapes ChangeAt RowKit
open Go.Proofs.Tryz
section
theorem IG {w w1:World} {n:Nat} (h:aj (w.drewN n) w1):aj w w1:=⟨h.os,h.tape,h.output,h.size,h.block⟩
structure EA (w:World) (B:Nat) (k o s:Int) (a:Option Addr) (zs:List Int) (c:Nat) (W:World):Prop where
 box:av B (eV k o s a zs.length c) W
 own:aQ w.heap.size W a zs
 fits:zs.length<=c
 ah:aj w W
variable {w W W' : World} {B : Nat} {k o s : Int} {a : Option Addr} {zs : List Int} {c : Nat}
theorem EA.below (h:EA w B k o s a zs c W) (hb:aj W W'):EA w B k o s a zs c W':=⟨h.box.below hb,h.own.below hb,h.fits,h.ah.trans (hb.mono h.ah.size)⟩
theorem IH (hb:aj w W) (hi:bo w.heap.size W a zs.length c zs):EA w W.heap.size k o s a zs c (W.alloc (.cells (bj k o s a zs.length c) 117)):=⟨bu (eV k o s a zs.length c) W 117,hi.own.alloc _,hi.fits,hb.alloc hb.size _⟩
def II (s:ByteArray) (w:World) (e:Ending) (w':World):Prop:=
 aj w w'/\((bp s=false/\e=.returned (.tuple #[.nilIface,.bool false]))\/
  (bp s=true/\∃ a c,e=.returned (.tuple #[pN (aP s 0) (bO (aP s 0) (aP s 1) (cm s 2) a (cu s (bW s)).length c),.bool true])/\aQ w.heap.size w' a (cu s (bW s))/\(cu s (bW s)).length<=c))
theorem YR {s:ByteArray} {w w':World} (h:bp s=false) (hb:aj w w'):II s w (.returned (.tuple #[.nilIface,.bool false])) w':=⟨hb,Or.inl ⟨h,rfl⟩⟩
theorem OQ (s:ByteArray) (w:World) (hs:s.size<=281474976710656):Calls prog 192 #[.string s] w (II s w):=by
 have hm:s.size<=maxLen:=by unfold maxLen;omega
 by_cases h16:s.size=16
 ·have g16:((s.size:Int) != 16)=false:=by simp;omega
  have jy:=Iz s 2;have hbad:=@X7 s;have hof:=@Oy s h16;have hnot:=@Oz s;have hans:II s w=fun e w'=>aj w w'/\((bp s=false/\e=.returned (.tuple #[.nilIface,.bool false]))\/
   (bp s=true/\∃ a c,e=.returned (.tuple #[pN (aP s 0) (bO (aP s 0) (aP s 1) (cm s 2) a (cu s (bW s)).length c),.bool true])/\aQ w.heap.size w' a (cu s (bW s))/\(cu s (bW s)).length<=c)):=rfl
  rw[hans];clear hans;have GF:Hid (∀ W,_):=fun W=>Yt s W h16;have hlen:(cu s (bW s)).length<=281474976710656:=by rw[wK];have:=wL s;omega
  unfold sx at hof hnot;obtain ⟨Z,hZ⟩:∃ Z,cu s (bW s)=Z:=⟨_,rfl⟩;rw[hZ] at hbad hof hnot GF hlen ⊢;clear hZ;by_cases hok:eH (aP s 0) (aP s 1) (cm s 2) Z=true
  ·by_cases htx:((dO (aP s 0) (aP s 1) (cm s 2) Z).toList == s.toList)=true
   ·have HI:Hid (bp s=true):=hof htx;clear hbad hof hnot;go_enter func192,ntmps192;go_wp2_with (first
     | (go_at_call 226;refine (Ip _ _ _ hs).mono ?_;rintro e w0 ⟨rfl,m0,rfl⟩)
     | (go_at_call 227;refine (yR _ _ _ hm).mono ?_;rintro e w' ⟨rfl,rfl⟩)
     | (go_at_call 229;refine (Bp _ _ jy.1 jy.2).mono ?_;rintro e w' ⟨rfl,rfl⟩)
     | (go_at_call 228;refine (GF.out _).mono ?_;rintro e w1 ⟨a,c,rfl,hib,b1⟩;have n1:=IH (w:=w) (k:=aP s 0) (o:=aP s 1) (s:=cm s 2) (IG b1) hib)
     | (go_at_call 230;refine (Ir _ _ _ _ _ Z _ hlen n1.fits n1.own.row).mono ?_;rintro e w2 ⟨rfl,b2⟩;have n2:=n1.below b2;have c0:=n2.box.c0;have c1:=n2.box.c1;have c2:=n2.box.c2;have c3:=n2.box.c3)
     | (go_at_call 231;refine (OJ _ _ _ _ _ Z _ hok n2.own.row).mono ?_;rintro e w3 ⟨rfl,b3⟩;have n3:=n2.below b3))
    go_ret2;exact ⟨n3.ah,Or.inr ⟨HI.out,a,c,rfl,n3.own,n3.fits⟩⟩
   have Mn:((dO (aP s 0) (aP s 1) (cm s 2) Z).toList == s.toList)=false:=by simpa using htx
   have HI:Hid (bp s=false):=hnot Mn;clear hbad hof hnot htx;go_enter func192,ntmps192;go_wp2_with (first
    | (go_at_call 226;refine (Ip _ _ _ hs).mono ?_;rintro e w0 ⟨rfl,m0,rfl⟩)
    | (go_at_call 227;refine (yR _ _ _ hm).mono ?_;rintro e w' ⟨rfl,rfl⟩)
    | (go_at_call 229;refine (Bp _ _ jy.1 jy.2).mono ?_;rintro e w' ⟨rfl,rfl⟩)
    | (go_at_call 228;refine (GF.out _).mono ?_;rintro e w1 ⟨a,c,rfl,hib,b1⟩;have n1:=IH (w:=w) (k:=aP s 0) (o:=aP s 1) (s:=cm s 2) (IG b1) hib)
    | (go_at_call 230;refine (Ir _ _ _ _ _ Z _ hlen n1.fits n1.own.row).mono ?_;rintro e w2 ⟨rfl,b2⟩;have n2:=n1.below b2;have c0:=n2.box.c0;have c1:=n2.box.c1;have c2:=n2.box.c2;have c3:=n2.box.c3)
    | (go_at_call 231;refine (OJ _ _ _ _ _ Z _ hok n2.own.row).mono ?_;rintro e w3 ⟨rfl,b3⟩;have n3:=n2.below b3))
   go_ret2;exact ⟨n3.ah,Or.inl ⟨HI.out,rfl⟩⟩
  have hok':eH (aP s 0) (aP s 1) (cm s 2) Z=false:=by simpa using hok
  have HI:Hid (bp s=false):=hbad hok';clear hbad hof hnot hok;go_enter func192,ntmps192;go_wp2_with (first
   | (go_at_call 226;refine (Ip _ _ _ hs).mono ?_;rintro e w0 ⟨rfl,m0,rfl⟩)
   | (go_at_call 227;refine (yR _ _ _ hm).mono ?_;rintro e w' ⟨rfl,rfl⟩)
   | (go_at_call 229;refine (Bp _ _ jy.1 jy.2).mono ?_;rintro e w' ⟨rfl,rfl⟩)
   | (go_at_call 228;refine (GF.out _).mono ?_;rintro e w1 ⟨a,c,rfl,hib,b1⟩;have n1:=IH (w:=w) (k:=aP s 0) (o:=aP s 1) (s:=cm s 2) (IG b1) hib)
   | (go_at_call 230;refine (Ir _ _ _ _ _ Z _ hlen n1.fits n1.own.row).mono ?_;rintro e w2 ⟨rfl,b2⟩;have n2:=n1.below b2))
  go_ret2;exact ⟨n2.ah,Or.inl ⟨HI.out,rfl⟩⟩
 have g16:((s.size:Int) != 16)=true:=by simp;omega
 have HI:Hid (bp s=false):=OA h16;go_enter func192,ntmps192;go_wp2;go_ret2;exact YR HI.out (aK _ _)
end
section
def iZ (s:ByteArray) (w:World) (e:Ending) (w':World):Prop:=∃ a c,e=.returned (.tuple #[bO (aX s) (cq s) (bX s) a (aN s).length c,.bool (bp s)])/\aQ w.heap.size w' a (aN s)/\(aN s).length<=c/\aj w w'
theorem IJ {s:ByteArray} {w w':World} (h:bp s=false) (hb:aj w w'):iZ s w (.returned (.tuple #[bO 0 0 0 none 0 0,.bool false])) w':=by obtain ⟨h1,h2,h3,h4⟩:=wM h;exact ⟨none,0,by rw[h1,h2,h3,h4,h];rfl,by rw[h4];exact Or.inl rfl,by rw[h4];exact aq _,hb⟩
theorem IK {s:ByteArray} {w w':World} {a:Option Addr} {c:Nat} (h:bp s=true) (ho:aQ w.heap.size w' a (cu s (bW s))) (hc:(cu s (bW s)).length<=c) (hb:aj w w'):iZ s w (.returned (.tuple #[bO (aP s 0) (aP s 1) (cm s 2) a (cu s (bW s)).length c,.bool true])) w':=by obtain ⟨h1,h2,h3,h4⟩:=yW h;exact ⟨a,c,by rw[h1,h2,h3,h4,h],by rw[h4];exact ho,by rw[h4];exact hc,hb⟩
theorem YS {s:ByteArray} {w w':World} (h:bp s=true) (hk:aP s 0=0) (hb:aj w w'):iZ s w (.returned (.tuple #[bO 0 0 0 none 0 0,.bool true])) w':=by have hok:=(yV h).2.2;rw[eH,aF hk] at hok;simp only[iL,cj,dC] at hok;have hz:cu s (bW s)=[]:=mW hok.2.2;have:=IK (a:=none) (c:=0) h (by rw[hz];exact Or.inl rfl) (by rw[hz];exact aq _) hb;rwa [hk,hok.1,hok.2.1,hz] at this
variable {w W W' : World}
theorem YT {s:ByteArray} (hs:s.size<=281474976710656) (h:bp s=false):Calls prog 192 #[.string s] W (aT (.tuple #[.nilIface,.bool false]) W):=
 (OQ s W hs).mono fun e w' ⟨hb,hc⟩=>by
  rcases hc with ⟨_,he⟩ | ⟨h2,_⟩;·exact ⟨he,hb⟩
  ·rw[h] at h2;cases h2
theorem IL {s:ByteArray} (hs:s.size<=281474976710656) (h:bp s=true) {v:Value->Value} (hv:∀ x,pN (aP s 0) x=v x):Calls prog 192 #[.string s] W fun e w'=>∃ a c,e=.returned (.tuple #[v (bO (aP s 0) (aP s 1) (cm s 2) a (cu s (bW s)).length c),.bool true])/\aQ W.heap.size w' a (cu s (bW s))/\(cu s (bW s)).length<=c/\aj W w':=
 (OQ s W hs).mono fun e w' ⟨hb,hc⟩=>by
  rcases hc with ⟨h2,_⟩ | ⟨_,a,c,he,ho,hl⟩;·rw[h] at h2;cases h2
  ·exact ⟨a,c,by rw[he,hv],ho,hl,hb⟩
structure sA (w:World) (a:Option Addr) (zs:List Int) (W:World):Prop where
 res:av w.heap.size (eV 0 0 0 none 0 0) W
 own:aQ (w.heap.size+1) W a zs
 ah:aj w W
theorem sA.below {a:Option Addr} {zs:List Int} (h:sA w a zs W) (hb:aj W W'):sA w a zs W':=⟨h.res.below hb,h.own.below hb,h.ah.trans (hb.mono h.ah.size)⟩
theorem zc {a:Option Addr} {zs:List Int} (hb:aj (w.alloc (.cells (bj 0 0 0 none 0 0) 117)) W) (ho:aQ (w.alloc (.cells (bj 0 0 0 none 0 0) 117)).heap.size W a zs):sA w a zs W:=⟨(bu (eV 0 0 0 none 0 0) w 117).below hb,ho.mono (by simp),(aB w _).trans (hb.mono (by simp))⟩
theorem sA.done {a:Option Addr} {zs:List Int} (h:sA w a zs W) (x y z u:Value):aQ w.heap.size ((((W.setCell ⟨w.heap.size,0,none⟩ x).setCell ⟨w.heap.size,1,none⟩ y).setCell ⟨w.heap.size,2,none⟩ z).setCell ⟨w.heap.size,3,none⟩ u) a zs/\aj w ((((W.setCell ⟨w.heap.size,0,none⟩ x).setCell ⟨w.heap.size,1,none⟩ y).setCell ⟨w.heap.size,2,none⟩ z).setCell ⟨w.heap.size,3,none⟩ u):=
  ⟨((((h.own.set (gn _) 0 x).set (gn _) 1 y).set (gn _) 2 z).set (gn _) 3 u).mono (bP _),
   (((h.ah.setCell (p:=⟨w.heap.size,0,none⟩) (aq _) _).setCell (p:=⟨w.heap.size,1,none⟩) (aq _) _).setCell (p:=⟨w.heap.size,2,none⟩) (aq _) _).setCell (p:=⟨w.heap.size,3,none⟩) (aq _) _⟩
theorem OR (s:ByteArray) (w:World) (hs:s.size<=281474976710656):Calls prog 141 #[.string s] w (iZ s w):=by
 by_cases hI:bp s=true
 ·have hok:=Br (yV hI).2.2;by_cases h0:aP s 0=0
  ·have hv:∀ x,pN (aP s 0) x=.iface 292 x:=fun x=>by rw[pN,aF h0]
   have HF:Hid (∀ w',aj w w'->iZ s w (.returned (.tuple #[bO 0 0 0 none 0 0,.bool true])) w'):=fun w' hb=>YS hI h0 hb;have hr:Hid (∀ W,Calls prog 192 #[.string s] W fun e w'=>∃ a c,e=.returned (.tuple #[.iface 292 (bO (aP s 0) (aP s 1) (cm s 2) a (cu s (bW s)).length c),.bool true])/\aQ W.heap.size w' a (cu s (bW s))/\(cu s (bW s)).length<=c/\aj W w'):=fun W=>IL hs hI hv;clear hok hv h0 hI;go_enter func141,ntmps141;go_wp2_with (first
    | (go_at_call 192;refine (hr.out _).mono ?_;rintro e w1 ⟨a,c,rfl,ho,hl,b1⟩;have r1:=zc b1 ho)
    | (go_at_call 193;refine (YE _ _ _ _ _ _ _).mono ?_;rintro e w2 ⟨rfl,b2⟩;have r2:=r1.below b2;have c0:=r2.res.c0;have c1:=r2.res.c1;have c2:=r2.res.c2;have c3:=r2.res.c3;have f0:=r2.res.f0;have f1:=r2.res.f1;have f2:=r2.res.f2;have f3:=r2.res.f3))
   have q:=r2.res.eU (ad 0) (ad 0) (ad 0) (.slice none 0 0);have d:=r2.done (ad 0) (ad 0) (ad 0) (.slice none 0 0);exact bL (v:=.tuple #[bO 0 0 0 none 0 0,.bool true]) (by simp[results,results141,go_sem,q.c0,q.c1,q.c2,q.c3]) rfl (HF.out _ d.2)
  have HF:Hid (∀ a c w',aQ w.heap.size w' a (cu s (bW s))->(cu s (bW s)).length<=c->aj w w'->iZ s w (.returned (.tuple #[bO (aP s 0) (aP s 1) (cm s 2) a (cu s (bW s)).length c,.bool true])) w'):=fun a c w' ho hl hb=>IK hI ho hl hb;by_cases h1:aP s 0=1
  ·have hv:∀ x,pN (aP s 0) x=.iface 265 x:=fun x=>by rw[pN,aG h0,aF h1]
   have hr:Hid (∀ W,Calls prog 192 #[.string s] W fun e w'=>∃ a c,e=.returned (.tuple #[.iface 265 (bO (aP s 0) (aP s 1) (cm s 2) a (cu s (bW s)).length c),.bool true])/\aQ W.heap.size w' a (cu s (bW s))/\(cu s (bW s)).length<=c/\aj W w'):=fun W=>IL hs hI hv;clear hok hv h0 h1 hI;go_enter func141,ntmps141;go_wp2_with (first
    | (go_at_call 192;refine (hr.out _).mono ?_;rintro e w1 ⟨a,c,rfl,ho,hl,b1⟩;have r1:=zc b1 ho)
    | (go_at_call 193;refine (YF _ _ _ _ _ _ _).mono ?_;rintro e w2 ⟨rfl,b2⟩;have r2:=r1.below b2;have c0:=r2.res.c0;have c1:=r2.res.c1;have c2:=r2.res.c2;have c3:=r2.res.c3;have f0:=r2.res.f0;have f1:=r2.res.f1;have f2:=r2.res.f2;have f3:=r2.res.f3))
   have q:=r2.res.eU (ad (aP s 0)) (ad (aP s 1)) (ad (cm s 2)) (.slice a (cu s (bW s)).length c);have d:=r2.done (ad (aP s 0)) (ad (aP s 1)) (ad (cm s 2)) (.slice a (cu s (bW s)).length c);exact bL (v:=.tuple #[bO (aP s 0) (aP s 1) (cm s 2) a (cu s (bW s)).length c,.bool true]) (by simp[results,results141,go_sem,q.c0,q.c1,q.c2,q.c3]) rfl (HF.out _ _ _ d.1 hl d.2)
  have h2:aP s 0=2:=by omega
  have hv:∀ x,pN (aP s 0) x=.iface 267 x:=fun x=>by rw[pN,aG h0,aG h1,aF h2]
  have hr:Hid (∀ W,Calls prog 192 #[.string s] W fun e w'=>∃ a c,e=.returned (.tuple #[.iface 267 (bO (aP s 0) (aP s 1) (cm s 2) a (cu s (bW s)).length c),.bool true])/\aQ W.heap.size w' a (cu s (bW s))/\(cu s (bW s)).length<=c/\aj W w'):=fun W=>IL hs hI hv;clear hok hv h0 h1 h2 hI;go_enter func141,ntmps141;go_wp2_with (first
   | (go_at_call 192;refine (hr.out _).mono ?_;rintro e w1 ⟨a,c,rfl,ho,hl,b1⟩;have r1:=zc b1 ho)
   | (go_at_call 193;refine (YG _ _ _ _ _ _ _).mono ?_;rintro e w2 ⟨rfl,b2⟩;have r2:=r1.below b2;have c0:=r2.res.c0;have c1:=r2.res.c1;have c2:=r2.res.c2;have c3:=r2.res.c3;have f0:=r2.res.f0;have f1:=r2.res.f1;have f2:=r2.res.f2;have f3:=r2.res.f3))
  have q:=r2.res.eU (ad (aP s 0)) (ad (aP s 1)) (ad (cm s 2)) (.slice a (cu s (bW s)).length c);have d:=r2.done (ad (aP s 0)) (ad (aP s 1)) (ad (cm s 2)) (.slice a (cu s (bW s)).length c);exact bL (v:=.tuple #[bO (aP s 0) (aP s 1) (cm s 2) a (cu s (bW s)).length c,.bool true]) (by simp[results,results141,go_sem,q.c0,q.c1,q.c2,q.c3]) rfl (HF.out _ _ _ d.1 hl d.2)
 have hI':bp s=false:=by simpa using hI
 have HF:Hid (∀ w',aj w w'->iZ s w (.returned (.tuple #[bO 0 0 0 none 0 0,.bool false])) w'):=fun w' hb=>IJ hI' hb;have hr:Hid (∀ W,Calls prog 192 #[.string s] W (aT (.tuple #[.nilIface,.bool false]) W)):=fun W=>YT hs hI';clear hI hI';go_enter func141,ntmps141;go_wp2_with (go_at_call 192;refine (hr.out _).mono ?_;rintro e w1 ⟨rfl,b1⟩;have r1:=zc (a:=none) (zs:=[]) b1 (Or.inl rfl);have c0:=r1.res.c0;have c1:=r1.res.c1;have c2:=r1.res.c2;have c3:=r1.res.c3;have f0:=r1.res.f0;have f1:=r1.res.f1;have f2:=r1.res.f2;have f3:=r1.res.f3);have q:=r1.res.eU (ad 0) (ad 0) (ad 0) (.slice none 0 0);have d:=r1.done (ad 0) (ad 0) (ad 0) (.slice none 0 0);exact bL (v:=.tuple #[bO 0 0 0 none 0 0,.bool false]) (by simp[results,results141,go_sem,q.c0,q.c1,q.c2,q.c3]) rfl (HF.out _ d.2)
end
section
theorem YU {P:Program} {ops:Array Oper} {o:Oper} {A:Act} {W:World} {K:Act->World->Prop} {Q:Exit->Act->World->Prop} {E:Prop} {f:Nat} (hgd:o.guard=none) (x y:Operand) (ts:Array TypeId) (hop:o.op=.call { callee:=.value (.func f),args:=#[x,y],argTypes:=ts }) (eg:∀ args w,(callFunc f args).run P w=.ok (.enter f args) w) (vx vy:Value) (hx:A.eval x=vx) (hy:A.eval y=vy) (hc:Calls P f #[vx,vy] W fun e w'=>∃ u,e=.returned u/\K (A.put o.dst u) w'):if Region.wanted o (yielded ops A.tmps)=true then Oper.wp P o A W K Q else E:=by
 have hw:Region.wanted o (yielded ops A.tmps)=true:=by simp[Region.wanted,hgd]
 rw[aF hw];have he:(execOp A.eval o).run P W=.ok (.enter f #[vx,vy]) W:=by subst hx;subst hy;simp[execOp,hop,resolve,go_sem,invoke,eg]
 unfold Oper.wp;rw[he];refine mC hc ?_;rintro e w' ⟨u,rfl,h⟩;exact h
structure mK (w:World) (k o s:Int) (a:Option Addr) (n c:Nat) (zs:List Int) (W:World):Prop where
 res:av w.heap.size (eV 0 0 0 none 0 0) W
 nd:av (w.heap.size+1) (eV k o s a n c) W
 buf:bo (w.heap.size+2) W a n c zs
 lt:w.heap.size+2<=W.heap.size
 ah:aj w W
variable {w W W' : World} {k o s : Int} {a : Option Addr} {n c : Nat} {zs : List Int}
theorem mK.below (h:mK w k o s a n c zs W) (hb:aj W W'):mK w k o s a n c zs W':=⟨h.res.below hb,h.nd.below hb,h.buf.below hb,bt h.lt hb.size,h.ah.trans (hb.mono h.ah.size)⟩
theorem mK.drewN (h:mK w k o s a n c zs W) (m:Nat):mK w k o s a n c zs (W.drewN m):=⟨h.res.drewN m,h.nd.drewN m,h.buf.drewN m,h.lt,cL h.ah m⟩
theorem YV (w:World) (k o s:Int) (m:Nat):mK w k o s none 0 0 [] (((w.alloc (.cells (bj 0 0 0 none 0 0) 117)).drewN m).alloc (.cells (bj k o s none 0 0) 117)):=⟨((bu (eV 0 0 0 none 0 0) w 117).drewN m).alloc _,gH (eV k o s none 0 0) ((w.alloc _).drewN m) 117 (by simp),Es _,by simp,(cL ((aK _ _).alloc (aq _) _) m).alloc (by simp) _⟩
theorem mK.step (h:mK w k o s a n c zs W) {g' c':Nat} {z:Int} (hb:bo (w.heap.size+2) W' (some ⟨g',0,none⟩) (n+1) c' (zs ++ [z])) (hl:Below (w.heap.size+2) W W'):mK w k o s (some ⟨g',0,none⟩) (n+1) c' (zs ++ [z]) (W'.setCell ⟨w.heap.size+1,3,none⟩ (bg g' (n+1) c')):=by
 have r1:=fQ h.res hl (by omega);have n1:=fQ h.nd hl (by omega);refine ⟨r1.aR (by omega) 3 _,n1.set 3 _,⟨hb.1,hb.2.1,?_⟩,?_,(h.ah.trans (hl.mono (by omega))).setCell (p:=⟨w.heap.size+1,3,none⟩) (by simp) _⟩
 ·rcases hb.2.2 with h0 | ⟨g,cap,cur,hv,hg,hc,r⟩;·exact Or.inl h0
  refine Or.inr ⟨g,cap,cur,hv,hg,?_,r⟩;rw[Nv W' ⟨w.heap.size+1,3,none⟩ _ g (by show g≠w.heap.size+1;omega)];exact hc
 have:=bt h.lt hl.size;simpa [World.setCell] using this
theorem mK.at3 (h:mK w k o s a n c zs W) (hl:Below (w.heap.size+2) W W'):af W' (w.heap.size+1) 3 (.slice a n c)/\W'.frozen? ⟨w.heap.size+1,3,none⟩=false:=by have n1:=fQ h.nd hl (by omega);exact ⟨n1.c3,n1.f3⟩
theorem mK.done (h:mK w k o s a n c zs W) (x y z u:Value):aQ w.heap.size ((((W.setCell ⟨w.heap.size,0,none⟩ x).setCell ⟨w.heap.size,1,none⟩ y).setCell ⟨w.heap.size,2,none⟩ z).setCell ⟨w.heap.size,3,none⟩ u) a zs/\aj w ((((W.setCell ⟨w.heap.size,0,none⟩ x).setCell ⟨w.heap.size,1,none⟩ y).setCell ⟨w.heap.size,2,none⟩ z).setCell ⟨w.heap.size,3,none⟩ u):=
  ⟨((((h.buf.own.set (by omega) 0 x).set (by omega) 1 y).set (by omega) 2 z).set (by omega) 3 u).mono (by omega),
   (((h.ah.setCell (p:=⟨w.heap.size,0,none⟩) (aq _) _).setCell (p:=⟨w.heap.size,1,none⟩) (aq _) _).setCell (p:=⟨w.heap.size,2,none⟩) (aq _) _).setCell (p:=⟨w.heap.size,3,none⟩) (aq _) _⟩
theorem uX (s:ByteArray) (w:World) (hs:s.size<=281474976710656):Calls prog 135 #[.string s] w (iZ s w):=by
 have hm:s.size<=maxLen:=by unfold maxLen;omega
 have jy:=Iz s 2;have hcl:=wL s;have hct:=Ox s;have Us:=YV w (aP s 0) (aP s 1) (cm s 2);have heg:∀ args w,(callFunc 175 args).run prog w=.ok (.enter 175 args) w:=bh func175 (by kernel_rfl) rfl;have HY:Hid (∀ a c w',s.size=16->((dO (aP s 0) (aP s 1) (cm s 2) (cu s (bW s))).toList == s.toList)=true->aQ w.heap.size w' a (cu s (bW s))->(cu s (bW s)).length<=c->aj w w'->iZ s w (.returned (.tuple #[bO (aP s 0) (aP s 1) (cm s 2) a (cu s (bW s)).length c,.bool true])) w'):=fun a c w' h16 htx ho hl hb=>IK (Oy h16 htx) ho hl hb;have HN:Hid (∀ w',((dO (aP s 0) (aP s 1) (cm s 2) (cu s (bW s))).toList == s.toList)=false->aj w w'->iZ s w (.returned (.tuple #[bO 0 0 0 none 0 0,.bool false])) w'):=fun w' htx hb=>IJ (Oz htx) hb;have HZ:Hid (∀ w',¬ s.size=16->aj w w'->iZ s w (.returned (.tuple #[bO 0 0 0 none 0 0,.bool false])) w'):=fun w' h16 hb=>IJ (OA h16) hb;have hlen:(cu s (bW s)).length=bW s:=wK _ _;obtain ⟨R,hR⟩:∃ R,iZ s w=R:=⟨_,rfl⟩;rw[hR] at HY HN HZ ⊢;clear hR;go_enter func135,ntmps135;go_wp2_with (first
  | (go_at_call 175;refine (Bg _ _ _ hm).mono ?_;rintro e w' ⟨rfl,rfl⟩)
  | (go_at_call 176;refine (XN _ _ _ hs).mono ?_;rintro e w0 ⟨rfl,m0,rfl⟩))
 go_loopw [5] (fun i w'=>∃ (k c:Nat) (a:Option Addr),k<=bW s/\i=ad (k:Int)/\mK w (aP s 0) (aP s 1) (cm s 2) a k c (cu s k) w') (fun i _=>12-(intOf i).toNat);case atStart=>exact ⟨0,0,none,aS _,rfl,Us m0⟩
 case round=>
 obtain ⟨k,c,a,hk,rfl,sp⟩:=hrel;clear Us;have x0:=sp.nd.c0;have x1:=sp.nd.c1;have x2:=sp.nd.c2;have x3:=sp.nd.c3;have x4:=sp.nd.f3;have hnd:Hid (∀ W,Calls prog 177 #[ad (cm s 2)] W fun e w'=>e=.returned (ad (fC (cm s 2)))/\W=w'):=fun W=>(Ik _ _ jy.1 jy.2).mono fun _ _ h=>⟨h.1,h.2.symm⟩;by_cases hlt:k<bW s
 ·obtain ⟨h1,h2⟩:=(hct k).1 hlt;have h2':(k:Int)<12:=by omega
  have hwr:IntKind.i64.wrap (4+(k:Int))=4+(k:Int):=by rw[se];omega
  have HS:Hid (cu s k ++ [aP s (4+(k:Int))]=cu s (k+1)):=Ov s k;have xa:=(sp.nd.alloc (.cells #[ad (aP s (4+(k:Int)))] 3)).c3;have hby:Hid (∀ W,Calls prog 175 #[.string s,ad (4+(k:Int))] W fun e w'=>e=.returned (ad (aP s (4+(k:Int))))/\W=w'):=fun W=>(Bg _ _ _ hm).mono fun _ _ h=>⟨h.1,h.2.symm⟩;clear hct HY HN HZ;go_wp2_with (go_at_call 177;refine (hnd.out _).mono ?_;rintro e w' ⟨rfl,rfl⟩);go_region_law (first
   | (refine YU rfl (.tmp 26) (.tmp 28) _ rfl heg (.string s) (ad (4+(k:Int))) (by simp[Act.eval,Act.put]) (by simp[Act.eval,Act.put]) ((hby.out _).mono ?_);rintro e w' ⟨rfl,rfl⟩;refine ⟨_,rfl,?_⟩)
   | (refine Yd (w:=wr.drew) rfl (.tmp 25) (.tmp 30) rfl sp.buf.drew _ (by simp[Act.eval,Act.put]) (by simp[Act.eval,Act.put]) (by omega) sp.lt ?_;intro g1 ij w1 mQ ko;have y3:=(sp.drewN 1).at3 ko;have y4:=y3.2;have y3:=y3.1))
  all_goals
   go_wp2;go_roundw;case rel=>exact ⟨k+1,ij,some ⟨g1,0,none⟩,by omega,by go_num,by rw[<- HS.out];exact (sp.drewN 1).step mQ ko⟩
   case measure=>simp[intOf];omega
 obtain rfl:k=bW s:=by omega
 have hpi:Hid (Calls prog 111 #[bO (aP s 0) (aP s 1) (cm s 2) a (bW s) c] wr (aT (.string (dO (aP s 0) (aP s 1) (cm s 2) (cu s (bW s)))) wr)):=by have:=Bz (aP s 0) (aP s 1) (cm s 2) a c (cu s (bW s)) wr (by omega) (by rw[hlen];exact sp.buf.fits) sp.buf.own.row;rw[hlen] at this;exact this
 rw[hlen] at HY;have HE:Hid (((bW s:Int)<fC (cm s 2)/\¬ (bW s:Int)<12)\/¬ (bW s:Int)<fC (cm s 2)):=by
  show _\/_
  by_cases h:(bW s:Int)<fC (cm s 2)
  ·left;refine ⟨h,fun h2=>?_⟩;exact hlt ((hct _).2 ⟨h,by omega⟩)
  exact Or.inr h
 have hfit:=sp.buf.fits;have r0:=sp.res.c0;have r1:=sp.res.c1;have r2:=sp.res.c2;have r3:=sp.res.c3;have q0:=sp.res.f0;have q1:=sp.res.f1;have q2:=sp.res.f2;have q3:=sp.res.f3;clear hct hlt hk hlen;have e3:decide ((bW s:Int)<fC (cm s 2))=false\/((bW s:Int)<fC (cm s 2)/\decide ((bW s:Int)<12)=false):=by
  rcases HE.out with ⟨h1,h2⟩ | h1;·exact Or.inr ⟨h1,by simpa using h2⟩
  exact Or.inl (by simpa using h1)
 clear HE;rcases e3 with e3 | ⟨e4,e3⟩;all_goals
  by_cases h16:s.size=16
  ·have g16:((s.size:Int) != 16)=false:=by simp;omega
   by_cases htx:((dO (aP s 0) (aP s 1) (cm s 2) (cu s (bW s))).toList == s.toList)=true
   ·go_wp2_with (first
     | (go_at_call 177;refine (hnd.out _).mono ?_;rintro e w' ⟨rfl,rfl⟩)
     | (go_at_call 111;refine hpi.out.mono ?_;rintro e w2 ⟨rfl,b2⟩;have sp2:=sp.below b2;have y0:=sp2.nd.c0;have y1:=sp2.nd.c1;have y2:=sp2.nd.c2;have y3:=sp2.nd.c3;have r0:=sp2.res.c0;have r1:=sp2.res.c1;have r2:=sp2.res.c2;have r3:=sp2.res.c3;have q0:=sp2.res.f0;have q1:=sp2.res.f1;have q2:=sp2.res.f2;have q3:=sp2.res.f3))
    have q:=sp2.res.eU (ad (aP s 0)) (ad (aP s 1)) (ad (cm s 2)) (.slice a (bW s) c);have d:=sp2.done (ad (aP s 0)) (ad (aP s 1)) (ad (cm s 2)) (.slice a (bW s) c);exact bL (v:=.tuple #[bO (aP s 0) (aP s 1) (cm s 2) a (bW s) c,.bool true]) (by simp[results,results135,go_sem,q.c0,q.c1,q.c2,q.c3]) rfl (HY.out _ _ _ h16 htx d.1 hfit d.2)
   have Mn:((dO (aP s 0) (aP s 1) (cm s 2) (cu s (bW s))).toList == s.toList)=false:=by simpa using htx
   go_wp2_with (first
    | (go_at_call 177;refine (hnd.out _).mono ?_;rintro e w' ⟨rfl,rfl⟩)
    | (go_at_call 111;refine hpi.out.mono ?_;rintro e w2 ⟨rfl,b2⟩;have sp2:=sp.below b2;have r0:=sp2.res.c0;have r1:=sp2.res.c1;have r2:=sp2.res.c2;have r3:=sp2.res.c3;have q0:=sp2.res.f0;have q1:=sp2.res.f1;have q2:=sp2.res.f2;have q3:=sp2.res.f3))
   have q:=sp2.res.eU (ad 0) (ad 0) (ad 0) (.slice none 0 0);have d:=sp2.done (ad 0) (ad 0) (ad 0) (.slice none 0 0);exact bL (v:=.tuple #[bO 0 0 0 none 0 0,.bool false]) (by simp[results,results135,go_sem,q.c0,q.c1,q.c2,q.c3]) rfl (HN.out _ Mn d.2)
  ·have g16:((s.size:Int) != 16)=true:=by simp;omega
   go_wp2_with (go_at_call 177;refine (hnd.out _).mono ?_;rintro e w' ⟨rfl,rfl⟩);have q:=sp.res.eU (ad 0) (ad 0) (ad 0) (.slice none 0 0);have d:=sp.done (ad 0) (ad 0) (ad 0) (.slice none 0 0);exact bL (v:=.tuple #[bO 0 0 0 none 0 0,.bool false]) (by simp[results,results135,go_sem,q.c0,q.c1,q.c2,q.c3]) rfl (HZ.out _ h16 d.2)
end
section
def cr (E:Nat->List aV):Nat->List (Nat × aV)
 | 0=>[]
 | i+1=>cr E i++(E i).map fun e=>(i,e)
def mc (E:Nat->List aV) (i k:Nat):List (Nat × aV):=cr E i++((E i).take k).map fun e=>(i,e)
theorem YW (E:Nat->List aV) (i:Nat):mc E i 0=cr E i:=by simp[mc]
theorem YY (E:Nat->List aV) (i:Nat):mc E i (E i).length=cr E (i+1):=by simp[mc,cr]
theorem YZ (E:Nat->List aV) (i k:Nat) (h:k<(E i).length):mc E i (k+1)=mc E i k ++ [(i,bS (E i) k)]:=by unfold mc;rw[kr h,yN,qG _ _ h,jQ];rfl
theorem wT {E:Nat->List aV} {d:Nat} {e:aV}:∀ {n:Nat},(d,e) ∈ cr E n ↔ d<n/\e ∈ E d
 | 0=>by simp[cr]
 | n+1=>by
  rw[cr,gP,wT];simp only[na,Prod.mk.injEq];constructor
  ·rintro (⟨h1,h2⟩ | ⟨a,h1,rfl,rfl⟩);·exact ⟨by omega,h2⟩
   exact ⟨by omega,h1⟩
  ·rintro ⟨h1,h2⟩;by_cases h:d=n
   ·subst h;exact Or.inr ⟨e,h2,rfl,rfl⟩
   exact Or.inl ⟨by omega,h2⟩
def eJ (l:List (Nat × aV)) (x:Int):List (Nat × aV):=l.filter fun p=>p.2.1 == x
def de (l:List (Nat × aV)) (x:Int):Int:=match eJ l x with
 | []=>-1
 | [p]=>p.1
 | _=>-2
def sB (l:List (Nat × aV)) (x:Int):ByteArray:=match eJ l x with
 | []=>⟨#[]⟩
 | p :: _=>p.2.2
theorem EB (l:List (Nat × aV)) (i:Nat) (e:aV) (x:Int):eJ (l ++ [(i,e)]) x=if e.1=x then eJ l x ++ [(i,e)] else eJ l x:=by unfold eJ;rw[uL];by_cases h:e.1=x <;> simp[h]
theorem qP (l:List (Nat × aV)) (x:Int):de l x = -1 ↔ eJ l x=[]:=by
 unfold de;split;·simp[*]
 ·rename_i p h;simp[h]
 rename_i h1 h2;constructor
 ·intro h;omega
 intro h;exact absurd h h1
theorem OS (l:List (Nat × aV)) (i:Nat) (e:aV) (x:Int):de (l ++ [(i,e)]) x=if e.1=x then (if de l x = -1 then (i:Int) else -2) else de l x:=by
 by_cases h:e.1=x
 ·rw[aF h];by_cases hn:eJ l x=[]
  ·rw[aF ((qP l x).2 hn)];unfold de;rw[EB,aF h,hn];rfl
  rw[aG (fun h'=>hn ((qP l x).1 h'))];unfold de;rw[EB,aF h];rcases hl:eJ l x with _ | ⟨p,_ | ⟨q,r⟩⟩;·exact absurd hl hn
  ·rfl
  rfl
 rw[aG h];unfold de;rw[EB,aG h]
theorem OT (l:List (Nat × aV)) (i:Nat) (e:aV) (x:Int):sB (l ++ [(i,e)]) x=if e.1=x/\de l x = -1 then e.2 else sB l x:=by
 unfold sB;rw[EB];by_cases h:e.1=x
 ·rw[aF h];by_cases hn:eJ l x=[]
  ·rw[aF ⟨h,(qP l x).2 hn⟩,hn];rfl
  rw[aG (fun h'=>hn ((qP l x).1 h'.2))];rcases hl:eJ l x with _ | ⟨p,r⟩;·exact absurd hl hn
  rfl
 rw[aG h,aG (fun h'=>h h'.1)]
theorem BC (l:List (Nat × aV)) (x:Int):de l x = -1\/de l x = -2\/∃ p,eJ l x=[p]/\de l x=p.1:=by
 unfold de;split;·exact Or.inl rfl
 ·exact Or.inr (Or.inr ⟨_,by assumption,rfl⟩)
 exact Or.inr (Or.inl rfl)
def fR (p:Int->Int):Nat->Int->Bool
 | 0,i=>i == 0
 | n+1,i=>if i=0 then true else if i<0 then false else fR p n (p i)
theorem OU (p:Int->Int) (n:Nat):fR p n 0=true:=by cases n <;> simp[fR]
theorem wU (p:Int->Int) (n:Nat) (i:Int) (h:i<0):fR p n i=false:=by
 cases n with
 | zero=>simp[fR];omega
 | succ n=>rw[fR,aG (by omega),aF h]
theorem zd (p:Int->Int) (n:Nat) (i:Int) (h:0<i):fR p (n+1) i=fR p n (p i):=by rw[fR,aG (by omega),aG (by omega)]
def lg (E:Nat->List aV) (K:Nat->Int) (i:Nat):Bool:=((K i == 0) == (de (cr E 8) i == -1)) && (K i == 0 || fR (de (cr E 8)) 8 i)
def gU (E:Nat->List aV) (K:Nat->Int):Bool:=(List.range 7).all fun j=>lg E K (j+1)
theorem uY {E:Nat->List aV} {K:Nat->Int}:gU E K=true ↔ ∀ i,0<i->i<8->lg E K i=true:=by
 unfold gU;rw[AV];constructor
 ·intro h i h0 h8;have:=h (i-1) (mA.2 (by omega));rwa [show i-1+1=i by omega] at this
 intro h j hj;have:=mA.1 hj;exact h _ (by omega) (by omega)
def sC (F:Nat->Nat) (K:Nat->Int) (i:Nat):Bool:=decide (F i=if K i=0 then 0 else 1)
def qQ (F:Nat->Nat) (K:Nat->Int):Bool:=(List.range 7).all fun j=>sC F K (j+1)
theorem BD {F:Nat->Nat} {K:Nat->Int}:qQ F K=true ↔ ∀ i,0<i->i<8->sC F K i=true:=by
 unfold qQ;rw[AV];constructor
 ·intro h i h0 h8;have:=h (i-1) (mA.2 (by omega));rwa [show i-1+1=i by omega] at this
 intro h j hj;have:=mA.1 hj;exact h _ (by omega) (by omega)
def jq (d:Nat):ByteArray:=if d=0 then ⟨#[]⟩ else ⟨#[47]⟩
def eW (E:Nat->List aV):Nat->Nat->ByteArray->Prop
 | x,0,p=>x=0/\p=⟨#[47]⟩
 | x,k+1,p=>∃ d q nm,eW E d k q/\((x:Int),nm) ∈ E d/\p=q++jq d++nm
theorem eW.zero {E:Nat->List aV}:eW E 0 0 ⟨#[47]⟩:=⟨rfl,rfl⟩
theorem eW.down {E:Nat->List aV} {d k:Nat} {q:ByteArray} {x:Nat} {nm:ByteArray} (h:eW E d k q) (hm:((x:Int),nm) ∈ E d):eW E x (k+1) (q++jq d++nm):=⟨d,q,nm,h,hm,rfl⟩
theorem eW.or {E:Nat->List aV} {x:Nat} {p:ByteArray}:∀ {k:Nat},eW E x k p->(x=0/\k=0/\p=⟨#[47]⟩)\/∃ d k' q nm,k=k'+1/\eW E d k' q/\((x:Int),nm) ∈ E d/\p=q++jq d++nm
 | 0,h=>Or.inl ⟨h.1,rfl,h.2⟩
 | k+1,⟨d,q,nm,h,hm,e⟩=>Or.inr ⟨d,k,q,nm,rfl,h,hm,e⟩
theorem eW.ind {E:Nat->List aV} {motive:(x k:Nat)->(p:ByteArray)->eW E x k p->Prop} (zero:motive 0 0 ⟨#[47]⟩ eW.zero) (down:∀ {d k:Nat} {q:ByteArray} {x:Nat} {nm:ByteArray} (hd:eW E d k q) (hm:((x:Int),nm) ∈ E d),motive d k q hd->motive x (k+1) (q++jq d++nm) (eW.down hd hm)):∀ {x k:Nat} {p:ByteArray} (h:eW E x k p),motive x k p h
 | x,0,p,h=>by obtain ⟨rfl,rfl⟩:=h;exact zero
 | x,k+1,p,h=>by obtain ⟨d,q,nm,hd,hm,rfl⟩:=h;exact down hd hm (eW.ind zero down hd)
def jF (S:List (Nat × Nat)) (d:Nat):Nat:=(S.filter fun q=>q.1 == d).length
def lh (S:List (Nat × Nat)) (d:Nat):Bool:=S.any fun q=>q.1 == d
def sE (l:List aV) (x:Nat):Nat:=(l.filter fun e=>e.1 == (x:Int)).length
def wV (E:Nat->List aV) (S:List (Nat × Nat)) (x:Nat):Nat:=(S.map fun q=>sE ((E q.1).take q.2) x).sum
def sF (E:Nat->List aV) (c:Nat->Nat) (x:Nat):Nat:=((eJ (cr E 8) x).map fun p=>c p.1).sum
def BE (E:Nat->List aV):List (Nat × Nat)->Prop
 | []=>True
 | [q]=>q.1=0
 | q :: q' :: r=>(∃ nm,((q.1:Int),nm) ∈ E q'.1)/\0<q.1/\BE E (q' :: r)
structure fM (E:Nat->List aV) (K:Nat->Int) (S:List (Nat × Nat)) (F:Nat->Nat) (P:Nat->ByteArray):Prop where
 lt:∀ q ∈ S,q.1<8/\q.2<=(E q.1).length
 nodup:(S.map (·.1)).Nodup
 chain:BE E S
 Gy:∃ c:Nat->Nat,(∀ x:Nat,F x=sF E c x+wV E S x)/\(∀ d,K d=2->0<d->c d+jF S d=F d)/\c 0+jF S 0=1
 at_:∀ x,0<F x->∃ k,k<=8/\eW E x k (P x)
 Dq:∀ S1 q S2,S=S1++q :: S2->eW E q.1 S2.length (P q.1)
 zero:P 0=⟨#[47]⟩
variable {E : Nat → List aV} {K : Nat → Int} {S R : List (Nat × Nat)} {F : Nat → Nat} {P : Nat → ByteArray} {d n x : Nat}
theorem fM.len (h:fM E K S F P):S.length<=8:=by
 have:=List.Nodup.length_le_of_subset (l₂:=List.range 8) h.nodup (fun y hy=>by obtain ⟨q,hq,rfl⟩:=na.1 hy;exact mA.2 (h.lt q hq).1)
 simpa using this
theorem Y4 (x:Nat):sF E (fun _=>0) x=0:=by
 unfold sF;induction eJ (cr E 8) x with
 | nil=>rfl
 | cons a l ih=>simp[ih]
theorem Y7:fM E K [(0,0)] (fun _=>0) (fun i=>if i=0 then ⟨#[47]⟩ else ⟨#[]⟩):=by
 refine ⟨fun q hq=>?_,by simp,rfl,⟨fun _=>0,fun x=>?_,fun d _ hd=>?_,rfl⟩,fun x h=>absurd h (by omega),fun S1 q S2 e=>?_,rfl⟩
 ·simp only[lW] at hq;subst hq;exact ⟨by decide,aS _⟩
 ·rw[Y4];simp[wV,sE]
 ·have:jF [(0,0)] d=0:=by
   have:¬ (0=d):=by omega
   simp[jF,this]
  rw[this]
 rcases S1 with _ | ⟨a,_ | ⟨b,l⟩⟩
 ·simp only[iX,AX] at e;obtain ⟨rfl,rfl⟩:=e;exact eW.zero
 ·simp at e
 simp at e
theorem Y8 (l:List aV) (k y:Nat) (h:k<l.length):sE (l.take (k+1)) y=sE (l.take k) y+if (bS l k).1=(y:Int) then 1 else 0:=by unfold sE;rw[kr h,uL,bY,qG _ _ h];by_cases e:l[k].1=(y:Int) <;> simp[e]
theorem OV (h:lh S x=false):∀ q ∈ S,q.1≠x:=by intro q hq e;have:=List.any_eq_false.1 h q hq;simp[e] at this
theorem OW (d n m:Nat) (R:List (Nat × Nat)) (y:Nat):jF ((d,n) :: R) y=jF ((d,m) :: R) y:=by unfold jF;by_cases e:d=y <;> simp[Hx,e]
def nz (F:Nat->Nat) (x:Nat):Nat->Nat:=fun y=>if y=x then F y+1 else F y
def nC (P:Nat->ByteArray) (x:Nat) (p:ByteArray):Nat->ByteArray:=fun y=>if y=x then p else P y
theorem BF {l:List aV} {k:Nat} (h:k<l.length):bS l k ∈ l:=by rw[qG _ _ h];exact nQ h
theorem Za {a b:Nat × Nat} {R S1 S2:List (Nat × Nat)} {q:Nat × Nat} (e:a :: R=S1++q :: S2):(S1=[]/\q=a/\S2=R)\/∃ S3,S1=a :: S3/\b :: R=(b :: S3)++q :: S2:=by
 rcases S1 with _ | ⟨y,S3⟩
 ·simp only[iX,AX] at e;exact Or.inl ⟨rfl,e.1.symm,e.2.symm⟩
 simp only[nS,AX] at e;obtain ⟨rfl,rfl⟩:=e;exact Or.inr ⟨S3,rfl,rfl⟩
theorem OY {a b:Nat × Nat} (e:a.1=b.1) (h:BE E (a :: R)):BE E (b :: R):=by
 cases R with
 | nil=>
  have:a.1=0:=h;exact (e.symm.trans this:b.1=0)
 | cons q r=>
  obtain ⟨h1,h2,h3⟩:=h;exact ⟨e ▸ h1,e ▸ h2,h3⟩
theorem OZ (h:fM E K ((d,n) :: R) F P) (hn:n<(E d).length) (hx:(bS (E d) n).1=(x:Int)) (hm:lh ((d,n) :: R) x=false):eW E x (R.length+1) (P d++jq d++(bS (E d) n).2):=by refine eW.down (h.Dq [] (d,n) R rfl) ?_;have:=BF hn;rw[<- hx];exact this
theorem O4 (h:fM E K ((d,n) :: R) F P) (hm:lh ((d,n) :: R) x=false) (p:ByteArray) (S1:List (Nat × Nat)) (q:Nat × Nat) (S2:List (Nat × Nat)) (e:(d,n+1) :: R=S1++q :: S2):eW E q.1 S2.length (nC P x p q.1):=by
 have hne:=OV hm;rcases Za (b:=(d,n)) e with ⟨rfl,rfl,rfl⟩ | ⟨S3,rfl,e'⟩
 ·have h1:=hne (d,n) (by simp);have h2:=h.Dq [] (d,n) S2 rfl;rw[nC,aG h1];exact h2
 have h1:=hne q (by rw[e'];simp);have h2:=h.Dq _ q S2 e';rw[nC,aG h1];exact h2
theorem O5 (h:fM E K ((d,n) :: R) F P) (hn:n<(E d).length) (hx:(bS (E d) n).1=(x:Int)) (c:Nat->Nat) (hc:∀ y:Nat,F y=sF E c y+wV E ((d,n) :: R) y) (y:Nat):nz F x y=sF E c y+wV E ((d,n+1) :: R) y:=by
 have e:=hc y;have hs:=Y8 (E d) n y hn;rw[hx] at hs;simp only[wV,mX,Nw] at e ⊢;rw[hs,nz];by_cases hy:y=x
 ·subst hy;rw[aF rfl,aF rfl];omega
 have:¬ ((x:Int)=(y:Int)):=by omega
 rw[aG hy,aG this];omega
theorem O6 (h:fM E K ((d,n) :: R) F P) (hn:n<(E d).length) (hx:(bS (E d) n).1=(x:Int)) (hm:lh ((d,n) :: R) x=false):∀ y,0<nz F x y->∃ k,k<=8/\eW E y k (nC P x (P d++jq d++(bS (E d) n).2) y):=by
 intro y hy;by_cases e:y=x
 ·subst e;refine ⟨R.length+1,by have:=h.len;simpa using this,?_⟩;rw[nC,aF rfl];exact OZ h hn hx hm
 rw[nz,aG e] at hy;rw[nC,aG e];exact h.at_ y hy
theorem fM.file (h:fM E K ((d,n) :: R) F P) (hn:n<(E d).length) (hx:(bS (E d) n).1=(x:Int)) (hm:lh ((d,n) :: R) x=false) (hK:¬ K x=2) (h0:0<x):fM E K ((d,n+1) :: R) (nz F x) (nC P x (P d++jq d++(bS (E d) n).2)):=by
 obtain ⟨c,h1,h2,h3⟩:=h.Gy;refine ⟨fun q hq=>?_,h.nodup,OY (a:=(d,n)) rfl h.chain,⟨c,O5 h hn hx c h1,fun d' hd hp=>?_,by rw[OW d (n+1) n];exact h3⟩,O6 h hn hx hm,O4 h hm _,by rw[nC,aG (by omega)];exact h.zero⟩
 ·rcases iY.1 hq with rfl | hq;·exact ⟨(h.lt (d,n) (by simp)).1,hn⟩
  exact h.lt q (tB _ hq)
 have e:d'≠x:=fun e=>hK (e ▸ hd);rw[nz,aG e,OW d (n+1) n];exact h2 d' hd hp
theorem fM.dir (h:fM E K ((d,n) :: R) F P) (hn:n<(E d).length) (hx:(bS (E d) n).1=(x:Int)) (hm:lh ((d,n) :: R) x=false) (hK:K x=2) (h0:0<x) (h8:x<8):fM E K ((x,0) :: (d,n+1) :: R) (nz F x) (nC P x (P d++jq d++(bS (E d) n).2)):=by
 obtain ⟨c,h1,h2,h3⟩:=h.Gy;have hne:=OV hm;refine ⟨fun q hq=>?_,?_,⟨⟨(bS (E d) n).2,?_⟩,h0,OY (a:=(d,n)) rfl h.chain⟩,⟨c,fun y=>?_,fun d' hd hp=>?_,?_⟩,O6 h hn hx hm,fun S1 q S2 e=>?_,by rw[nC,aG (by omega)];exact h.zero⟩
 ·rcases iY.1 hq with rfl | hq;·exact ⟨h8,aS _⟩
  rcases iY.1 hq with rfl | hq;·exact ⟨(h.lt (d,n) (by simp)).1,hn⟩
  exact h.lt q (tB _ hq)
 ·rw[mX,Hy];refine ⟨fun hmem=>?_,h.nodup⟩;have hmem':x ∈ ((d,n) :: R).map (·.1):=hmem;obtain ⟨q,hq,e⟩:=na.1 hmem';exact hne q hq e
 ·have:=BF hn;rw[<- hx];exact this
 ·rw[O5 h hn hx c h1 y];simp[wV,sE]
 ·have ho:jF ((x,0) :: (d,n+1) :: R) d'=(if x=d' then 1 else 0)+jF ((d,n) :: R) d':=by
   unfold jF;by_cases e1:x=d' <;> by_cases e2:d=d' <;> simp[Hx,e1,e2] <;> omega
  rw[ho,nz];have:=h2 d' hd hp;by_cases e:d'=x
  ·rw[aF e,aF e.symm];omega
  rw[aG e,aG (fun e'=>e e'.symm)];omega
 ·have ho:jF ((x,0) :: (d,n+1) :: R) 0=jF ((d,n) :: R) 0:=by
   have:¬ (x=0):=by omega
   unfold jF;by_cases e2:d=0 <;> simp[Hx,this,e2]
  rw[ho];exact h3
 rcases S1 with _ | ⟨y,S3⟩
 ·simp only[iX,AX] at e;obtain ⟨rfl,rfl⟩:=e;simp only[dA];rw[nC,aF rfl];exact OZ h hn hx hm
 simp only[nS,AX] at e;obtain ⟨rfl,e⟩:=e;exact O4 h hm _ S3 q S2 e
theorem O7 (d y:Nat):∀ m,((eJ (cr E m) y).filter fun p=>p.1 == d).length=if d<m then sE (E d) y else 0
 | 0=>by simp[cr,eJ]
 | m+1=>by
  have ih:=O7 d y m;unfold eJ at ih ⊢;rw[cr,uL,uL,bY,ih];have e:((((E m).map fun e=>(m,e)).filter fun p=>p.2.1 == (y:Int)).filter fun p=>p.1 == d).length=if m=d then sE (E d) y else 0:=by
   rw[List.filter_map,List.filter_map,DS];by_cases e:m=d
   ·subst e;rw[aF rfl];unfold sE;rw[List.filter_filter];simp[Function.comp_def]
   rw[aG e,AY,Nx];intro a _;simpa [Function.comp_def] using e
  rw[e];by_cases h1:d<m
  ·rw[aF h1,aG (by omega),aF (by omega)];rfl
  ·by_cases h2:m=d
   ·rw[aG h1,aF h2,aF (by omega)];omega
   rw[aG h1,aG h2,aG (by omega)]
theorem Zb (c:Nat->Nat) (d:Nat) (l:List (Nat × aV)):(l.map fun p=>(fun i=>if i=d then c i+1 else c i) p.1).sum=(l.map fun p=>c p.1).sum+(l.filter fun p=>p.1 == d).length:=by
 induction l with
 | nil=>rfl
 | cons a l ih=>
  simp only[mX,Nw] at ih ⊢;rw[ih,Hx];by_cases e:a.1=d
  ·simp[e];omega
  ·simp[e];omega
theorem Zc (c:Nat->Nat) (hd:d<8) (y:Nat):sF E (fun i=>if i=d then c i+1 else c i) y=sF E c y+sE (E d) y:=by have:=Zb c d (eJ (cr E 8) y);rw[O7,aF hd] at this;exact this
theorem fM.pop (h:fM E K ((d,n) :: R) F P) (hn:¬ n<(E d).length):fM E K R F P:=by
 obtain ⟨c,h1,h2,h3⟩:=h.Gy;have hl:=h.lt (d,n) (by simp);have hnd:d ∉ R.map (·.1)/\(R.map (·.1)).Nodup:=by have:=h.nodup;rw[mX,Hy] at this;exact this
 have h0:jF R d=0:=by unfold jF;rw[AY,Nx];intro q hq e;exact hnd.1 (na.2 ⟨q,hq,by simpa using e⟩)
 have hon:∀ d',jF ((d,n) :: R) d'=(if d'=d then 1 else 0)+jF R d':=by
  intro d';unfold jF;by_cases e:d'=d
  ·subst e;simp;omega
  have:¬ (d=d'):=fun e'=>e e'.symm;simp[Hx,e,this]
 refine ⟨fun q hq=>h.lt q (tB _ hq),hnd.2,?_,⟨fun i=>if i=d then c i+1 else c i,fun y=>?_,fun d' hd hp=>?_,?_⟩,h.at_,fun S1 q S2 e=>h.Dq ((d,n) :: S1) q S2 (by rw[e];rfl),h.zero⟩
 ·cases R with
  | nil=>exact trivial
  | cons q r=>exact h.chain.2.2
 ·have e:=h1 y;rw[Zc c hl.1];simp only[wV,mX,Nw] at e ⊢;rw[qx (by omega)] at e;omega
 ·have:=h2 d' hd hp;rw[hon] at this;show (if d'=d then c d'+1 else c d')+jF R d'=F d'
  by_cases e:d'=d
  ·rw[aF e] at this ⊢;omega
  rw[aG e] at this ⊢;omega
 rw[hon] at h3;show (if 0=d then c 0+1 else c 0)+jF R 0=1
 by_cases e:0=d
 ·rw[aF e] at h3 ⊢;omega
 rw[aG e] at h3 ⊢;omega
structure sG (E:Nat->List aV) (K:Nat->Int):Prop where
 dir:∀ d,E d ≠ []->K d=2
 ino:∀ d e,e ∈ E d->0<e.1/\e.1<8
theorem Zd {c:Nat->Nat} {l:List (Nat × aV)} (h:∀ p ∈ l,c p.1=1):(l.map fun p=>c p.1).sum=l.length:=by
 induction l with
 | nil=>rfl
 | cons a l ih=>
  simp only[mX,Nw,dA];rw[h a (by simp),ih fun p hp=>h p (tB _ hp)];omega
theorem Ze {x:Int} {p:Nat × aV} {l:List (Nat × aV)} (h:(eJ l x).length=1) (hp:p ∈ l) (hx:p.2.1=x):de l x=p.1:=by
 have hm:p ∈ eJ l x:=sg.2 ⟨hp,by simpa using hx⟩;rcases ho:eJ l x with _ | ⟨q,_ | ⟨r,t⟩⟩
 ·rw[ho] at h;simp at h
 ·rw[ho] at hm;simp only[lW] at hm;subst hm;unfold de;rw[ho]
 rw[ho] at h;simp at h
theorem EC {e:aV} (h:e ∈ E d) (hd:d<8):(d,e) ∈ cr E 8:=wT.2 ⟨hd,h⟩
theorem eW.lt (hS:sG E K) {k:Nat} {p:ByteArray} (h:eW E x k p):x<8:=by
 rcases h.or with ⟨rfl,_,_⟩ | ⟨d,k',q,nm,_,_,hm,_⟩;·decide
 have:=(hS.ino _ _ hm).2;omega
theorem fM.done (h:fM E K [] F P) (hS:sG E K) (mR:K 0=2):qQ F K=gU E K:=by
 obtain ⟨c,h1,h2,h3⟩:=h.Gy;have h1':∀ y:Nat,F y=sF E c y:=fun y=>by rw[h1 y];rfl
 have hc0:c 0=1:=h3;have h2':∀ d,K d=2->0<d->c d=F d:=fun d a b=>h2 d a b;have hown:∀ (x:Int) (p:Nat × aV),p ∈ eJ (cr E 8) x->p.1<8/\p.2 ∈ E p.1/\p.2.1=x/\K p.1=2:=by intro x p hp;obtain ⟨a,b⟩:=sg.1 hp;obtain ⟨i,e⟩:=p;have:=wT.1 a;exact ⟨this.1,this.2,by simpa using b,hS.dir _ (WR this.2)⟩
 apply qC.2;constructor
 ·intro ho;have ho':=BD.1 ho;have hF:∀ i,0<i->i<8->F i=if K i=0 then 0 else 1:=fun i a b=>by simpa [sC] using ho' i a b
  have hc:∀ d,d<8->K d=2->c d=1:=by
   intro d hd hk;by_cases h0:d=0
   ·rw[h0];exact hc0
   rw[h2' d hk (by omega),hF d (by omega) hd,hk,aG (by decide)]
  have hlen:∀ y:Nat,F y=(eJ (cr E 8) y).length:=by intro y;rw[h1' y];exact Zd fun p hp=>hc _ (hown _ p hp).1 (hown _ p hp).2.2.2
  have aio:∀ (y:Nat) (p:Nat × aV),p ∈ eJ (cr E 8) y->(eJ (cr E 8) y).length=1:=by
   intro y p hp;obtain ⟨a,b,e,_⟩:=hown _ p hp;have hi:=hS.ino _ _ b;have hy:0<y/\y<8:=by omega
   have hne:(eJ (cr E 8) y).length≠0:=by rw[Ne,AY];exact WR hp
   have:=hF y hy.1 hy.2;rw[<- hlen y] at hne ⊢;rw[this] at hne ⊢;by_cases hk:K y=0
   ·rw[aF hk] at hne;exact absurd rfl hne
   rw[aG hk]
  have hroot:∀ {y k:Nat} {p:ByteArray},eW E y k p->∀ m,k<=m->fR (de (cr E 8)) m y=true:=by
   intro y k p ha;induction ha using eW.ind with
   | zero=>exact fun m _=>OU _ m
   | @down d k p x nm hd hm ih=>
    intro m hkm;obtain ⟨m',rfl⟩:∃ m',m=m'+1:=⟨m-1,by omega⟩;have hx:=(hS.ino _ _ hm).1;have hdl:=eW.lt hS hd;have hmem:=EC hm hdl;rw[zd _ _ _ hx,Ze (p:=(d,((x:Int),nm))) (aio x (d,((x:Int),nm)) (sg.2 ⟨hmem,by simp⟩)) hmem rfl];exact ih m' (by omega)
  refine uY.2 fun i hi h8=>?_;have th:=hF i hi h8;unfold lg;by_cases hk:K i=0
  ·have:eJ (cr E 8) i=[]:=by
    rw[aF hk,hlen] at th;exact AY.1 th
   have hp:=(qP _ _).2 this;simp[hk,hp]
  rw[aG hk] at th;obtain ⟨k,wy,ha⟩:=h.at_ i (by omega);have hr:=hroot ha 8 wy;have hp:¬ de (cr E 8) i = -1:=by intro e;have:=(qP _ _).1 e;rw[hlen,this] at th;simp at th
  rw[hr,Hv,DU,Hz.2 hk,Hz.2 hp];rfl
 intro ht;have ht':=uY.1 ht;have hone:∀ i,0<i->i<8->(K i=0 ↔ de (cr E 8) i = -1)/\(K i≠0->fR (de (cr E 8)) 8 i=true):=by
  intro i a b;have:=ht' i a b;unfold lg at this;simp only[cj,qB,kY] at this;refine ⟨?_,fun hk=>?_⟩
  ·have e:=this.1;constructor
   ·intro hk;rw[hk] at e;simpa using e
   intro hp;rw[hp] at e;simpa using e
  rcases this.2 with hk' | hr;·exact absurd hk' hk
  exact hr
 have hup:∀ m (i:Nat),0<i->i<8->fR (de (cr E 8)) m i=true->F i=1:=by
  intro m;induction m with
  | zero=>
   intro i a b hr;simp only[fR,qB] at hr;omega
  | succ m ih=>
   intro i a b hr;rw[zd _ _ _ (by omega)] at hr;rcases BC (cr E 8) i with hp | hp | ⟨p,hp,hq⟩
   ·rw[hp,wU _ _ _ (by decide)] at hr;cases hr
   ·rw[hp,wU _ _ _ (by decide)] at hr;cases hr
   ·rw[hq] at hr;obtain ⟨o1,o2,o3,o4⟩:=hown i p (by rw[hp];simp);have th:F i=c p.1:=by
     rw[h1' i,sF,hp];simp
    by_cases h0:p.1=0
    ·rw[th,h0];exact hc0
    rw[th,h2' _ o4 (by omega)];exact ih _ (by omega) o1 hr
 refine BD.2 fun i hi h8=>?_;obtain ⟨q1,q2⟩:=hone i hi h8;unfold sC;by_cases hk:K i=0
 ·rw[aF hk];have:=(qP _ _).1 (q1.1 hk);simp only[dC];rw[h1' i,sF,this];rfl
 rw[aG hk];simp only[dC];exact hup 8 i hi h8 (q2 hk)
theorem O8:∀ {S:List (Nat × Nat)},BE E S->∀ q ∈ S,0<q.1->∃ S1 q' S2,S=S1++q :: q' :: S2/\∃ nm,((q.1:Int),nm) ∈ E q'.1
 | [],_,q,hq,_=>by simp at hq
 | [a],h,q,hq,h0=>by simp only[lW] at hq;subst hq;have:q.1=0:=h;omega
 | a :: b :: r,h,q,hq,h0=>by
  obtain ⟨h1,h2,h3⟩:=h;rcases iY.1 hq with rfl | hq;·exact ⟨[],b,r,rfl,h1⟩
  ·obtain ⟨S1,q',S2,e,hm⟩:=O8 h3 q hq h0;exact ⟨a :: S1,q',S2,by rw[e];rfl,hm⟩
theorem fM.back (h:fM E K ((d,n) :: R) F P) (hS:sG E K) (hn:n<(E d).length) (hx:(bS (E d) n).1=(x:Int)) (hm:lh ((d,n) :: R) x=true):gU E K=false:=by
 cases ht:gU E K with
 | false=>rfl
 | true=>
  exfalso;have hen:=BF hn;have hi:=hS.ino _ _ hen;have h0:0<x/\x<8:=by omega
  obtain ⟨q,hq,he⟩:=Ht.1 hm;have he':q.1=x:=by simpa using he
  obtain ⟨S1,q',S2,hS2,nm,hmem⟩:=O8 h.chain q hq (by omega);have hd8:=(h.lt (d,n) (by simp)).1;have hq8:=(h.lt q' (by rw[hS2];simp)).1;have hone:=uY.1 ht x h0.1 h0.2;have m1:(d,bS (E d) n) ∈ eJ (cr E 8) x:=sg.2 ⟨EC hen hd8,by simpa using hx⟩;have m2:(q'.1,((q.1:Int),nm)) ∈ eJ (cr E 8) x:=sg.2 ⟨EC hmem hq8,by simp[he']⟩;have wE:∃ p,eJ (cr E 8) x=[p]:=by
   unfold lg at hone;simp only[cj,qB,kY] at hone;rcases BC (cr E 8) x with hp | hp | ⟨p,hp,_⟩
   ·rw[(qP _ _).1 hp] at m1;simp at m1
   ·rcases hone.2 with hk | hr
    ·rw[hk,hp] at hone;simp at hone
    rw[zd _ _ _ (by omega),hp,wU _ _ _ (by decide)] at hr;cases hr
   exact ⟨p,hp⟩
  obtain ⟨p,hp⟩:=wE;rw[hp] at m1 m2;simp only[lW] at m1 m2;have VG:d=q'.1:=(fK Prod.fst m1).trans (fK Prod.fst m2).symm;have hnd:=h.nodup;rw[hS2] at hnd;have htop:∃ T,S1++q :: q' :: S2=(d,n) :: T:=⟨R,hS2.symm⟩;rw[yN,mX,mX] at hnd;rcases S1 with _ | ⟨a,S3⟩
  ·obtain ⟨T,hT⟩:=htop;simp only[iX,AX] at hT;have:q.1=d:=by rw[hT.1]
   simp only[AS,iX,Hy,iY,not_or] at hnd;exact hnd.1.1 (this.trans VG)
  ·obtain ⟨T,hT⟩:=htop;simp only[nS,AX] at hT;have:a.1=d:=by rw[hT.1]
   simp only[mX,nS,Hy,gP,iY,not_or] at hnd;exact hnd.1.2.2.1 (this.trans VG)
def iQ (E:Nat->List aV):List (Nat × Nat)->Nat
 | []=>0
 | q :: R=>((E q.1).length-q.2+1)*16 ^ (8-(R.length+1))+iQ E R
theorem Zf (hn:n<(E d).length):iQ E ((d,n+1) :: R)<iQ E ((d,n) :: R):=by
 simp only[iQ];have:(E d).length-(n+1)+1<(E d).length-n+1:=by omega
 have hp:0<16 ^ (8-(R.length+1)):=Nat.pow_pos (by decide);have:=Nat.mul_lt_mul_of_pos_right this hp;omega
theorem O9:iQ E R<iQ E ((d,n) :: R):=by simp only[iQ];have hp:0<16 ^ (8-(R.length+1)):=Nat.pow_pos (by decide);have:=Nat.le_mul_of_pos_left (16 ^ (8-(R.length+1))) (n:=(E d).length-n+1) (by omega);omega
theorem Zg (hn:n<(E d).length) (hl:(E x).length<=14) (h8:R.length+2<=8):iQ E ((x,0) :: (d,n+1) :: R)<iQ E ((d,n) :: R):=by
 simp only[iQ,dA];have e:16 ^ (8-(R.length+1))=16*16 ^ (8-(R.length+1+1)):=by rw[show 8-(R.length+1)=(8-(R.length+1+1))+1 by omega,Nat.pow_succ,Nat.mul_comm]
 obtain ⟨m,hm⟩:∃ m,(E d).length-(n+1)+1=m:=⟨_,rfl⟩;have hm':(E d).length-n+1=m+1:=by omega
 rw[hm,hm',e];have hp:0<16 ^ (8-(R.length+1+1)):=Nat.pow_pos (by decide);have hq:((E x).length-0+1)*16 ^ (8-(R.length+1+1))<=15*16 ^ (8-(R.length+1+1)):=Nat.mul_le_mul_right _ (by omega);have:(m+1)*(16*16 ^ (8-(R.length+1+1)))=m*(16*16 ^ (8-(R.length+1+1)))+16*16 ^ (8-(R.length+1+1)):=by rw[Nat.succ_mul]
 omega
end
section
structure cW where
 k:Int
 o:Int
 s:Int
 a:Option Addr
 n:Nat
 c:Nat
 x:ByteArray
 ae:Option Addr
 ne:Nat
 ce:Nat
def cW.ee (d:cW):List Value:=[.int .i64 d.k,.int .i64 d.o,.int .i64 d.s,.slice d.a d.n d.c,.string d.x,.slice d.ae d.ne d.ce]
theorem cW.MM (d:cW):d.ee.length=6:=rfl
structure dN (B:Nat) (N:Nat->cW) (F:Nat->Nat) (P:Nat->ByteArray) (W:World):Prop where
 node:∀ i,i<8->∀ j (h:j<(N i).ee.length),W.cell? ⟨B,i*6+j,none⟩=some (N i).ee[j]
 fnd:∀ i,i<8->W.cell? ⟨B,48+i,none⟩=some (.int .i64 (F i:Int))
 rz:∀ i,i<8->W.cell? ⟨B,56+i,none⟩=some (.string (P i))
 free:∀ j,j<64->W.frozen? ⟨B,j,none⟩=false
 lt:B<W.heap.size
variable {B : Nat} {N : Nat → cW} {F : Nat → Nat} {P : Nat → ByteArray} {w W W' : World}
theorem dN.below {b:Nat} (h:dN B N F P W) (hb:Below b W W') (hB:B<b):dN B N F P W':=⟨fun i hi j hj=>(hb.cell (p:=⟨B,i*6+j,none⟩) hB).trans (h.node i hi j hj),fun i hi=>(hb.cell (p:=⟨B,48+i,none⟩) hB).trans (h.fnd i hi),fun i hi=>(hb.cell (p:=⟨B,56+i,none⟩) hB).trans (h.rz i hi),fun j hj=>(hb.frozen (p:=⟨B,j,none⟩) hB).trans (h.free j hj),cS h.lt hb.size⟩
theorem dN.drew (h:dN B N F P W):dN B N F P W.drew:=⟨h.node,h.fnd,h.rz,h.free,h.lt⟩
theorem wW {B j k:Nat} (hne:j≠k) (v:Value):(W.setCell ⟨B,j,none⟩ v).cell? ⟨B,k,none⟩=W.cell? ⟨B,k,none⟩:=fJ _ _ _ _ (fun x=>hne (yM x).2.1)
theorem dN.aiu (h:dN B N F P W) {i:Nat} (hi:i<8) (n:Nat):dN B N (fun y=>if y=i then n else F y) P (W.setCell ⟨B,48+i,none⟩ (ad (n:Int))):=by
 refine ⟨fun k hk j hj=>?_,fun k hk=>?_,fun k hk=>?_,fun j hj=>by rw[iI];exact h.free j hj,by have:=h.lt;simpa [World.setCell] using this⟩
 ·have hj':j<6:=hj;rw[wW (by omega)];exact h.node k hk j hj
 ·by_cases e:k=i
  ·subst e;rw[rW _ _ _ (h.fnd k hk),aF rfl]
  rw[wW (by omega),h.fnd k hk,aG e]
 rw[wW (by omega)];exact h.rz k hk
theorem dN.Wy (h:dN B N F P W) {i:Nat} (hi:i<8) (p:ByteArray):dN B N F (fun y=>if y=i then p else P y) (W.setCell ⟨B,56+i,none⟩ (.string p)):=by
 refine ⟨fun k hk j hj=>?_,fun k hk=>?_,fun k hk=>?_,fun j hj=>by rw[iI];exact h.free j hj,by have:=h.lt;simpa [World.setCell] using this⟩
 ·have hj':j<6:=hj;rw[wW (by omega)];exact h.node k hk j hj
 ·rw[wW (by omega)];exact h.fnd k hk
 by_cases e:k=i
 ·subst e;rw[rW _ _ _ (h.rz k hk),aF rfl]
 rw[wW (by omega),h.rz k hk,aG e]
theorem dN.kind (h:dN B N F P W) {i:Nat} (hi:i<8):af W B (i*6) (ad (N i).k):=h.node i hi 0 (by simp[cW.ee])
theorem dN.Al (h:dN B N F P W) {i:Nat} (hi:i<8):af W B (i*6+5) (.slice (N i).ae (N i).ne (N i).ce):=h.node i hi 5 (by simp[cW.ee])
def ED (F:Nat->Nat) (K:Nat->Int) (k:Nat):Prop:=∀ i,0<i->i<k->sC F K i=true
theorem Zh {F:Nat->Nat} {K:Nat->Int} {i:Nat} (h0:0<i) (h8:i<8) (h:sC F K i=false):qQ F K=false:=by
 cases h':qQ F K with
 | false=>rfl
 | true=>rw[BD.1 h' i h0 h8] at h;cases h
theorem IM {a b:Bool} (h:a=b):Ending.returned (.bool a)=.returned (.bool b):=by rw[h]
theorem Zi (w:World) (hT:dN B N F P w) (hF:∀ i,i<8->F i<=281474976710656):Calls prog 102 #[aD B 0] w (dp (.bool (qQ F (fun i=>(N i).k))) w):=by
 go_enter func102,ntmps102;go_wp2;go_loop [3] (fun i=>∃ k:Nat,0<k/\k<=8/\ED F (fun i=>(N i).k) k/\i=ad k) (fun i=>8-(intOf i).toNat)
 case atStart=>exact ⟨1,by decide,by decide,fun i h0 h1=>by omega,rfl⟩
 case round=>
 obtain ⟨k,hk0,hk,hok,rfl⟩:=hrel;by_cases hlt:k<8
 ·have x1:=hT.kind hlt;have x2:=hT.fnd k hlt;have hF':=hF k hlt;have e1:(0:Int)<=(k:Int):=by omega
  have e2:(k:Int)<8:=by omega
  have hon:sC F (fun i=>(N i).k) k=decide (F k=if (N k).k=0 then 0 else 1):=rfl
  obtain ⟨f,ef⟩:∃ f,F k=f:=⟨_,rfl⟩;obtain ⟨q,eq⟩:∃ q,(N k).k=q:=⟨_,rfl⟩;rw[ef] at x2 hon hF';rw[eq] at x1 hon;have HY:Hid (sC F (fun i=>(N i).k) k=true->ED F (fun i=>(N i).k) (k+1)):=fun h i h0 h1=>by
   by_cases e:i=k
   ·subst e;exact h
   exact hok i h0 (by omega)
  have HN:Hid (sC F (fun i=>(N i).k) k=false->qQ F (fun i=>(N i).k)=false):=fun h=>Zh hk0 hlt h;clear hok hT hF ef eq;by_cases hq:q=0
  ·rw[aF hq] at hon;subst hq;by_cases hf:f=0
   ·have HS:=HY.out (by rw[hon];simpa using hf);have ML:Hid (ED F (fun i=>(N i).k) (k+1)):=HS;have g1:((f:Int) != 0)=false:=by simpa using hf
    clear HS hon HN HY;go_wp2;go_round;case rel=>exact ⟨k+1,by omega,by omega,ML.out,by go_num⟩
    case measure=>simp[intOf];omega
   have HS:Hid (qQ F (fun i=>(N i).k)=false):=HN.out (by rw[hon];simpa using hf);have g1:((f:Int) != 0)=true:=by simp;omega
   clear hon HN HY;go_wp2;go_ret;exact ⟨IM HS.out.symm,rfl⟩
  rw[aG hq] at hon;have g0:(q == 0)=false:=by simpa using hq
  by_cases hf:f=1
  ·have HS:=HY.out (by rw[hon];simpa using hf);have ML:Hid (ED F (fun i=>(N i).k) (k+1)):=HS;have g1:((f:Int) != 1)=false:=by simp;omega
   clear HS hon HN HY;go_wp2;go_round;case rel=>exact ⟨k+1,by omega,by omega,ML.out,by go_num⟩
   case measure=>simp[intOf];omega
  have HS:Hid (qQ F (fun i=>(N i).k)=false):=HN.out (by rw[hon];simpa using hf);have g1:((f:Int) != 1)=true:=by simp;omega
  clear hon HN HY;go_wp2;go_ret;exact ⟨IM HS.out.symm,rfl⟩
 obtain rfl:k=8:=by omega
 have HR:Hid (qQ F (fun i=>(N i).k)=true):=BD.2 fun i h0 h8=>hok i h0 h8;clear hok hT hF;go_wp2;go_ret;exact ⟨IM HR.out.symm,rfl⟩
end
section
variable {B : Nat} {N : Nat → cW} {F : Nat → Nat} {P : Nat → ByteArray} {w W W' : World}
theorem uZ {a b:World} {row:Option Nat} (h:a.grownBy b row):a.grownBy b.drew row:=⟨h.os,h.tape,h.output,h.size,h.block⟩
theorem Zj (d x:Nat) (nm:ByteArray) (w:World) (hT:dN B N F P w) (hd:d<8) (hx:x<8) (hF:F x<281474976710656) (hpz:(P d).size<=281474976710656) (hnz:nm.size<=281474976710656):Calls prog 145 #[aD B 0,ad (d:Int),.agg #[ad (x:Int),.string nm]] w fun e w'=>e=.returned (.tuple #[])/\dN B N (nz F x) (nC P x (P d++jq d++nm)) w'/\w.grownBy w' (some B):=by
 have e1:(0:Int)<=(x:Int):=by omega
 have e2:(x:Int)<8:=by omega
 have e3:(0:Int)<=(d:Int):=by omega
 have e4:(d:Int)<8:=by omega
 have hn:=aB w (.cells #[ad (x:Int),.string nm] 147);have b0:=bu [ad (x:Int),.string nm] w 147;have t0:=hT.below hn hT.lt;have c0:=b0.c0;have c1:=b0.c1;have x0:=t0.fnd x hx;have y0:=t0.free (48+x) (by omega);have z0:=t0.rz x hx;have g0:w.grownBy (w.alloc (.cells #[ad (x:Int),.string nm] 147)) (some B):=tC _ _ _;have hw:IntKind.i64.wrap ((F x:Int)+1)=(F x:Int)+1:=by rw[se];omega
 have t1:=t0.aiu hx (F x+1);have eF:(fun y=>if y=x then F x+1 else F y)=nz F x:=by
  funext y
  unfold nz;by_cases e:y=x;·rw[aF e,aF e,e]
  rw[aG e,aG e]
 rw[eF] at t1;have eC:(((F x+1:Nat)):Int)=(F x:Int)+1:=by omega
 rw[eC] at t1;have g1:=g0.trans (WS _ B (48+x) (ad ((F x:Int)+1)));have b1:=b0.aR (B':=B) (by have:=hT.lt;omega) (48+x) (ad ((F x:Int)+1));have d0:=b1.c0;have d1:=b1.c1;have x1:=t1.rz d hd;have y1:=t1.free (56+x) (by omega);have t2:=t1.Wy hx (P d++jq d++nm);have g2:=g1.trans (WS _ B (56+x) (.string (P d++jq d++nm)));have HD:Hid (dN B N (nz F x) (nC P x (P d++jq d++nm)) ((((w.alloc (.cells #[ad (x:Int),.string nm] 147)).setCell ⟨B,48+x,none⟩ (ad ((F x:Int)+1)))).setCell ⟨B,56+x,none⟩ (.string (P d++jq d++nm)))/\w.grownBy ((((w.alloc (.cells #[ad (x:Int),.string nm] 147)).setCell ⟨B,48+x,none⟩ (ad ((F x:Int)+1)))).setCell ⟨B,56+x,none⟩ (.string (P d++jq d++nm))) (some B)):=⟨t2,g2⟩;clear t2 g2 t1 g1 b1 t0 g0 b0 hT hn eF eC;obtain ⟨f,hf⟩:∃ f,F x=f:=⟨_,rfl⟩;obtain ⟨p,hp⟩:∃ p,P d=p:=⟨_,rfl⟩;have HF:Hid (F x=f):=hf;have HP:Hid (P d=p):=hp;rw[hf] at x0 hw d0 d1 x1 y1 HD hF;rw[hp] at x1 HD hpz ⊢;have s1:¬ (9223372036854775807<p.size):=by omega
 have s2:¬ (9223372036854775807<p.size+1):=by omega
 have s3:¬ (9223372036854775807<p.size+nm.size):=by omega
 have s4:¬ (9223372036854775807<p.size+1+nm.size):=by omega
 clear hf hp;by_cases h0:d=0
 ·subst h0;rw[show jq 0=⟨#[]⟩ from rfl] at HD ⊢
  go_enter func145,ntmps145;go_wp2;go_region
  go_wp2;go_region
  go_wp2;refine Ny (v:=.tuple #[]) (by simp[results,results145,go_sem]) rfl ?_;exact ⟨rfl,HD.out.1.drew.drew,uZ (uZ HD.out.2)⟩
 have h0':((d:Int) == 0)=false:=by simpa using h0
 rw[show jq d=⟨#[47]⟩ from aG h0] at HD ⊢
 go_enter func145,ntmps145;go_wp2;go_region
 go_wp2;go_region
 go_wp2;refine Ny (v:=.tuple #[]) (by simp[results,results145,go_sem]) rfl ?_;exact ⟨rfl,HD.out.1.drew.drew,uZ (uZ HD.out.2)⟩
end
end Go.Proofs.YtidmmopnkjbjoaaGreatDoor
namespace Go.Proofs
open Go.Shelf
def Tryz.lays189_ren:Go.Shelf.Ren:=⟨fun | 189=>95 | 125=>104 | 257=>140 | 128=>154 | 129=>155 | 294=>183 | 295=>184 | 296=>185 | 297=>186 | 298=>187 | 299=>188 | 216=>189 | 300=>190 | 301=>191 | 328=>222 | 329=>197 | 330=>198 | 331=>223 | 332=>224 | 215=>225 | 343=>249 | n=>n,fun | 28=>29 | 3=>3 | 46=>142 | 0=>0 | 51=>95 | 53=>202 | 4=>4 | 183=>195 | 182=>194 | 131=>191 | 5=>5 | 9=>9 | 218=>237 | 222=>241 | 228=>269 | 229=>270 | n=>n,fun | n=>n⟩
theorem Tryz.lays189:Go.Proofs.Lays.n189 Tryz.prog Tryz.lays189_ren:={
 mixed:=by kernel_rfl
 f125:=Tryz.func104.trans (congrArg some (by kernel_rfl))
 f128:=Tryz.func154.trans (congrArg some (by kernel_rfl))
 f129:=Tryz.func155.trans (congrArg some (by kernel_rfl))
 f189:=Tryz.func95.trans (congrArg some (by kernel_rfl))
 f215:=Tryz.func225.trans (congrArg some (by kernel_rfl))
 f216:=Tryz.func189.trans (congrArg some (by kernel_rfl))
 f257:=Tryz.func140.trans (congrArg some (by kernel_rfl))
 f294:=Tryz.func183.trans (congrArg some (by kernel_rfl))
 f295:=Tryz.func184.trans (congrArg some (by kernel_rfl))
 f296:=Tryz.func185.trans (congrArg some (by kernel_rfl))
 f297:=Tryz.func186.trans (congrArg some (by kernel_rfl))
 f298:=Tryz.func187.trans (congrArg some (by kernel_rfl))
 f299:=Tryz.func188.trans (congrArg some (by kernel_rfl))
 f300:=Tryz.func190.trans (congrArg some (by kernel_rfl))
 f301:=Tryz.func191.trans (congrArg some (by kernel_rfl))
 f328:=Tryz.func222.trans (congrArg some (by kernel_rfl))
 f329:=Tryz.func197.trans (congrArg some (by kernel_rfl))
 f330:=Tryz.func198.trans (congrArg some (by kernel_rfl))
 f331:=Tryz.func223.trans (congrArg some (by kernel_rfl))
 f332:=Tryz.func224.trans (congrArg some (by kernel_rfl))
 f343:=Tryz.func249.trans (congrArg some (by kernel_rfl))
 t0:=Tryz.underlying0
 a0:=Tryz.isAgg0
 z0:=Tryz.sizeOf0
 v0:=Tryz.zeroValue0
 t3:=Tryz.underlying3
 a3:=Tryz.isAgg3
 z3:=Tryz.sizeOf3
 v3:=Tryz.zeroValue3
 t4:=Tryz.underlying4
 a4:=Tryz.isAgg4
 z4:=Tryz.sizeOf4
 v4:=Tryz.zeroValue4
 t5:=Tryz.underlying5
 a5:=Tryz.isAgg5
 z5:=Tryz.sizeOf5
 v5:=Tryz.zeroValue5
 t9:=Tryz.underlying9
 a9:=Tryz.isAgg9
 z9:=Tryz.sizeOf9
 v9:=Tryz.zeroValue9
 t28:=Tryz.underlying29
 a28:=Tryz.isAgg29
 z28:=Tryz.sizeOf29
 v28:=Tryz.zeroValue29
 t46:=Tryz.underlying142
 a46:=Tryz.isAgg142
 z46:=Tryz.sizeOf142
 v46:=Tryz.zeroValue142
 t51:=Tryz.underlying95
 a51:=Tryz.isAgg95
 z51:=Tryz.sizeOf95
 v51:=Tryz.zeroValue95
 t53:=Tryz.underlying202
 a53:=Tryz.isAgg202
 z53:=Tryz.sizeOf202
 v53:=Tryz.zeroValue202
 t131:=Tryz.underlying191
 a131:=Tryz.isAgg191
 z131:=Tryz.sizeOf191
 v131:=Tryz.zeroValue191
 t182:=Tryz.underlying194
 a182:=Tryz.isAgg194
 z182:=Tryz.sizeOf194
 v182:=Tryz.zeroValue194
 t183:=Tryz.underlying195
 a183:=Tryz.isAgg195
 z183:=Tryz.sizeOf195
 v183:=Tryz.zeroValue195
 t218:=Tryz.underlying237
 a218:=Tryz.isAgg237
 z218:=Tryz.sizeOf237
 v218:=Tryz.zeroValue237
 t222:=Tryz.underlying241
 a222:=Tryz.isAgg241
 z222:=Tryz.sizeOf241
 v222:=Tryz.zeroValue241
 t228:=Tryz.underlying269
 a228:=Tryz.isAgg269
 z228:=Tryz.sizeOf269
 v228:=Tryz.zeroValue269
 t229:=Tryz.underlying270
 a229:=Tryz.isAgg270
 z229:=Tryz.sizeOf270
 v229:=Tryz.zeroValue270 }
open Go.Sort Go.RowKit in
theorem Tryz.slices_Sort_int (blk off cap:Nat) (zs:List Int) (w:World) (hH:Holds (Value.int .i64) w blk off zs.toArray) (hblk:blk<w.heap.size) (hsz:zs.length<4611686018427387904):Calls Tryz.prog 95 #[.slice (some ⟨blk,off,none⟩) zs.length cap] w fun e w'=>e=.returned (.tuple #[])/\∃ n os,w'=grow (putRow (Value.int .i64) (Sort.ahead w n) blk off (zs.mergeSort fun x y=>decide (x<=y)).toArray) os:=Any.slices_Sort_int Tryz.lays189 blk off cap zs w hH hblk hsz
end Go.Proofs
namespace Go.Proofs.YtidmmopnkjbjoaaGreatDoor
open ChangeShapes WideShapes ChangeAt RowKit
open Go.Proofs.Tryz
section
def IN (B:Nat) (I:Nat->World->Prop) (Ix:Code->World->Prop) (k:Nat) (W:World):Exit->Act->World->Prop
 | .normal,_,V=>KeepsFrom B W V/\I (k+1) V
 | .ret,_,V=>KeepsFrom B W V/\Ix .ret V
 | .exit id,_,V=>KeepsFrom B W V/\Ix (.exit id) V
 | .goto t,_,V=>KeepsFrom B W V/\Ix (.goto t) V
 | _,_,_=>False
theorem Zk (W:World):W.grownBy W.drew none:=⟨rfl,rfl,rfl,aq _,fun _ _ _=>rfl⟩
theorem Zl {B:Nat} {I:Nat->World->Prop} (hI:OwnFrom B I) {k:Nat} {W:World} (h:I k W):I k W.drew:=hI k W _ none h (Zk W) (fun r e=>by cases e)
theorem Zm {B:Nat} {I:Nat->World->Prop} (hI:OwnFrom B I) {k:Nat} {W:World} (m:Nat) (h:I k W):I k (W.drewN m):=hI k W _ none h ⟨rfl,rfl,rfl,aq _,fun _ _ _=>rfl⟩ (fun r e=>by cases e)
variable {P : Program} {n : Nat}
theorem Pa {g:Operand} {ps:Array Tmp} {assign body:Code} {Q:Exit->Act->World->Prop} {a:Act} {w:World} {gf N:Nat} {bd:Array Value} (hg:a.eval g=.func (.func gf) bd #[]) (eg:∀ args w,(callFunc gf args).run P w=.ok (.enter gf args) w) (hps:ps.size=1) (I A:Nat->World->Prop) (Ix:Code->World->Prop) (hI:OwnFrom w.heap.size I) (hA:OwnFrom w.heap.size A) (hIx:OwnFrom w.heap.size Ix) (h0:I 0 w) (hit:∀ (l:Nat) (J:Nat->World->Prop) (Jx:World->Prop) (W:World),(∀ k W,J k W->I k W)->(∀ k W,J k W->I (k+1) W->J (k+1) W)->(∀ k W,J k W->J k W.drew)->(∀ k W m,J k W->J k (W.drewN m))->(∀ k W,k<N->J k W->A k W->YieldAt Fence.wide (n-1-1) P l #[ad (k:Int)] W fun e V=>(e=.returned (.bool true)/\J (k+1) V)\/(e=.returned (.bool false)/\Jx V))->J 0 W->CallsIn Fence.wide (n-1) P gf (bd ++ #[.func (.yield l) #[] #[]]) W fun e V=>(∃ v,e=.returned v)/\(J N V\/Jx V)) (ahh:∀ (l k:Nat) (W V:World),k<N->I k V->A k V->assign.wpIn (Fence.wide.inRound l) (n-1-1) P (Exit.then (fun a' w'=>w'=W/\body.wpIn (Fence.wide.inRound l) (n-1-1) P (IN w.heap.size I Ix k V) a' V) (fun _ _ _=>False)) { tmps:=(ps.zip #[ad (k:Int)]).foldl (fun t (p,v)=>t.setIfInBounds p v) a.tmps,defers:=[] } W) (hdone:∀ (D:Nat) (W:World),w.heap.size<=D->I N W->W.heap[D]? = some (.deferred (some []))->Q .normal { a with defers:={ target:=.collected D,args:=#[] } :: a.defers } W) (hstop:∀ (D:Nat) (c:Code) (W:World),w.heap.size<=D->Ix c W->W.heap[D]? = some (.deferred (some []))->c.wpIn Fence.wide n P Q { a with defers:={ target:=.collected D,args:=#[] } :: a.defers } W):(Code.rangeFunc g ps assign body).wpIn Fence.wide n P Q a w:=by
 refine wpIn_rangeFunc fun fn hfn=>?_;let R (st:LoopState) (pe:Option Code):Loop:={ state:=st,pending:=pe,fn:=fn,tmps:=a.tmps,params:=ps,assign:=assign,body:=body,defers:=w.heap.size }
 let L:=w.heap.size+1
 let M:=fun (V:World) (st:LoopState) (pe:Option Code)=>V.heap[L]? = some (.loop (R st pe))/\V.heap[w.heap.size]? = some (.deferred (some []))
 obtain ⟨W1,hW1⟩:∃ W1,(w.alloc (.deferred (some []))).alloc (.loop (R .ready none))=W1:=⟨_,rfl⟩;have hM1:M W1 .ready none:=by rw[<- hW1];refine ⟨?_,(Below.heap_alloc _ _ _ (by simp)).trans (World.alloc_heap_new w _)⟩;have:=World.alloc_heap_new (w.alloc (.deferred (some []))) (.loop (R .ready none));rwa [AZ] at this
 have hI1:I 0 W1:=by rw[<- hW1];exact hI.alloc _ (hI.alloc _ h0)
 have turn:∀ {V:World} {st:LoopState} {pe:Option Code} (st':LoopState) (MD:Option Code),M V st pe->M (V.putObj L (.loop (R st' MD))) st' MD:=fun st' MD h=>
  ⟨World.putObj_heap_same (mY.1 h.1).1,(WT (Nat.ne_of_lt (gn _))).trans h.2⟩
 refine ⟨L,[{ target:=.collected w.heap.size,args:=#[] }],W1,{ target:=.fn (.func gf) #[],args:=bd ++ #[.func (.yield L) #[] #[]] },W1,gf,bd ++ #[.func (.yield L) #[] #[]],W1,?_,?_,?_,?_,(fun h=>by cases h),?_⟩;·rw[<- hW1];exact run_enterLoop_outer _ _ _ _ _
 ·simp only[resolve,hg];simp[go_sem]
 ·intro f' _;trivial
 ·simp[invoke,go_sem,eg]
 refine (hit L (fun k V=>I k V/\M V .ready none) (fun V=>∃ c,Ix c V/\M V .done (some c)) W1 (fun k V h=>h.1) (fun k V h hk=>⟨hk,h.2⟩) (fun k V h=>⟨Zl hI h.1,h.2⟩) (fun k V m h=>⟨Zm hI m h.1,h.2⟩) ?_ ⟨hI1,hM1⟩).mono ?_
 ·rintro k V hk ⟨hi,hm⟩ ha;have hy:=run_yield (P:=P) (args:=#[ad (k:Int)]) hm.1 (by show 1=ps.size;exact hps.symm);have hm2:=turn .busy none hm;have hi2:=hI.putObj (.loop (R .busy none)) hi (bP _) hm.1 rfl;have ha2:=hA.putObj (.loop (R .busy none)) ha (bP _) hm.1 rfl;refine ⟨fn,_,assign,body,hy,roundIn_of_wpIn hfn (wpIn_mono (ahh L k V _ hk hi2 ha2) ?_)⟩;rintro e a' w' he;cases e with
  | normal=>?_
  | _=>exact he.elim
  obtain ⟨hw',he⟩:=he;rw[hw'];refine ⟨_,run_beginRound hm.1 rfl,wpIn_mono he ?_⟩;have fin:∀ (j:Option Code) (V3:World),KeepsFrom w.heap.size (V.putObj L (.loop (R .busy none))) V3->
    M V3 .busy none/\(Instr.endRound L j).run P V3=.ok (.bool j.isNone) (V3.putObj L (.loop (R (if j.isNone then .ready else .done) j))):=fun j V3 hk3=>by
   have h3:M V3 .busy none:=⟨hk3.same _ _ (bP _) hm2.1 rfl,hk3.same _ _ (aq _) hm2.2 rfl⟩;exact ⟨h3,run_endRound (P:=P) j h3.1⟩
  rintro e a3 V3 hp;cases e with
  | normal=>
   obtain ⟨h3,hr⟩:=fin none V3 hp.1;exact ⟨_,_,hr,.inl ⟨rfl,hI.putObj _ hp.2 (bP _) h3.1 rfl,turn .ready none h3⟩⟩
  | ret=>
   obtain ⟨h3,hr⟩:=fin (some .ret) V3 hp.1;exact ⟨_,_,hr,.inr ⟨rfl,.ret,hIx.putObj _ hp.2 (bP _) h3.1 rfl,turn .done (some .ret) h3⟩⟩
  | exit id=>
   obtain ⟨h3,hr⟩:=fin (some (.exit id)) V3 hp.1;exact ⟨_,_,hr,.inr ⟨rfl,.exit id,hIx.putObj _ hp.2 (bP _) h3.1 rfl,turn .done (some (.exit id)) h3⟩⟩
  | goto t=>
   obtain ⟨h3,hr⟩:=fin (some (.goto t)) V3 hp.1;exact ⟨_,_,hr,.inr ⟨rfl,.goto t,hIx.putObj _ hp.2 (bP _) h3.1 rfl,turn .done (some (.goto t)) h3⟩⟩
  | panic ch=>exact hp.elim
  | outgrown=>exact hp.elim
 rintro e V ⟨⟨v,rfl⟩,(⟨hi,hm⟩ | ⟨c,hi,hm⟩)⟩;·exact ⟨none,_,run_endLoop (P:=P) hm.1 (by simp[R]),hdone _ _ (aq _) (hI.putObj _ hi (bP _) hm.1 rfl) ((WT (Nat.ne_of_lt (gn _))).trans hm.2)⟩
 exact ⟨some c,_,run_endLoop (P:=P) hm.1 (by simp[R]),hstop _ c _ (aq _) (hIx.putObj _ hi (bP _) hm.1 rfl) ((WT (Nat.ne_of_lt (gn _))).trans hm.2)⟩
end
def cI (l:List UInt8) (k:Nat):List UInt8:=(l.drop (k*8)).take 8
def cK (la lb:List UInt8) (p:Nat->Bool):List UInt8:=(List.range 768).map fun j=>if p (j / 8) then la.getD j 0 else lb.getD j 0
theorem ja (la lb:List UInt8) (p:Nat->Bool):(cK la lb p).length=768:=by simp[cK]
theorem nY (la lb:List UInt8) (p:Nat->Bool) (j:Nat) (hj:j<768):(cK la lb p)[j]? = some (if p (j / 8) then la.getD j 0 else lb.getD j 0):=by simp[cK,List.getElem?_range hj]
theorem va {l:List UInt8} {j:Nat} (hl:l.length=768) (hj:j<768):l[j]? = some (l.getD j 0):=by rw[jR,gD (by omega)];rfl
theorem BG {l:List UInt8} {k j:Nat} (hj:j<8):(cI l k)[j]? = l[k*8+j]?:=by rw[cI,tD,aF hj,qD]
theorem EE (la lb:List UInt8) (hb:lb.length=768) (p:Nat->Bool) (hp:∀ k,k<96->p k=false):cK la lb p=lb:=by
 apply A5;intro j;by_cases hj:j<768;·rw[nY _ _ _ _ hj,hp _ (by omega),va hb hj];rfl
 rw[pJ (by rw[ja];omega),pJ (by omega)]
theorem wX (la lb:List UInt8) (p q:Nat->Bool) (h:∀ k,k<96->p k=q k):cK la lb p=cK la lb q:=by
 apply A5;intro j;by_cases hj:j<768;·rw[nY _ _ _ _ hj,nY _ _ _ _ hj,h _ (by omega)]
 rw[pJ (by rw[ja];omega),pJ (by rw[ja];omega)]
theorem Pb (la lb:List UInt8) (p q:Nat->Bool) (k:Nat) (ha:la.length=768) (hpq:∀ i,i<96->i≠k->p i=q i) (hk:k<96) (hp:p k=false) (h:cI la k=cI (cK la lb p) k):cK la lb q=cK la lb p:=by
 apply A5;intro j;by_cases hj:j<768
 ·by_cases hjk:j / 8=k
  ·have e:=fK (fun l=>l[j-k*8]?) h;rw[BG (by omega),BG (by omega),show k*8+(j-k*8)=j by omega,nY _ _ _ _ hj,va ha hj] at e;rw[nY _ _ _ _ hj,nY _ _ _ _ hj,hjk,hp];rw[hjk,hp] at e;by_cases hq:q k=true;·rw[hq];simpa using e
   rw[show q k=false by simpa using hq]
  rw[nY _ _ _ _ hj,nY _ _ _ _ hj,hpq _ (by omega) hjk]
 rw[pJ (by rw[ja];omega),pJ (by rw[ja];omega)]
theorem IP (la lb:List UInt8) (p q:Nat->Bool) (k:Nat) (ha:la.length=768) (hk:k<96) (hpq:∀ i,i<96->i≠k->p i=q i) (hq:q k=true):(cK la lb p).take (k*8)++cI la k++(cK la lb p).drop (k*8+8)=cK la lb q:=by
 have hr:(cI la k).length=8:=by rw[cI,fO,jC];omega
 have ht:((cK la lb p).take (k*8)).length=k*8:=by rw[fO,ja];omega
 apply A5;intro j;by_cases hj:j<768
 ·rw[nY _ _ _ _ hj];by_cases h1:j<k*8;·rw[pK (by rw[bY];omega),pK (by omega),tD,aF h1,nY _ _ _ _ hj,hpq _ (by omega) (by omega)]
  by_cases h2:j<k*8+8
  ·rw[pK (by rw[bY];omega),ng (by omega),ht,BG (by omega),show k*8+(j-k*8)=j by omega,va ha hj,show j / 8=k by omega,hq];rfl
  rw[ng (by rw[bY];omega),bY,ht,hr,qD,show k*8+8+(j-(k*8+8))=j by omega,nY _ _ _ _ hj,hpq _ (by omega) (by omega)]
 rw[pJ (by rw[bY,bY,jC,ja];omega),pJ (by rw[ja];omega)]
theorem Zn (m r:List UInt8) (k:Nat) (hm:m.length=768) (hr:r.length=8) (hk:k<96):bJ ⟨m.toArray⟩ ((k:Int)*8) ⟨r.toArray⟩=⟨(m.take (k*8)++r++m.drop (k*8+8)).toArray⟩:=by
 have hrs:(⟨r.toArray⟩:ByteArray).size=8:=hr;have hms:(⟨m.toArray⟩:ByteArray).size=768:=hm;have e:=D9 ⟨m.toArray⟩ (k*8) ⟨r.toArray⟩ (by rw[hrs,hms];omega);rw[bJ,hrs,hms,show cZ 768 ((k:Int)*8) ((8:Nat):Int)=true from bF (by omega)]
 rw[hrs,hms] at e;rw[aF rfl,show ((k:Int)*8).toNat=k*8 by omega,show ((k:Int)*8+((8:Nat):Int)).toNat=k*8+8 by omega,e];show (⟨(m.take (k*8)++r++m.drop (k*8+r.length)).toArray⟩:ByteArray)=_
 rw[hr]
theorem EF (a:ByteArray) (k:Nat) (ha:a.size=768) (hk:k<96):aO a ((k:Int)*8) 8=⟨(cI a.data.toList k).toArray⟩:=by
 rw[aO,show cZ a.size ((k:Int)*8) 8=true from bF (by omega),aF rfl]
 apply gm;apply jB.1;rw[pE,show ((k:Int)*8).toNat=k*8 by omega,show ((k:Int)*8+8).toNat=k*8+8 by omega,show k*8+8-k*8=8 by omega];rfl
theorem Pc (a:ByteArray) (lb:List UInt8) (p q:Nat->Bool) (k:Nat) (ha:a.size=768) (hk:k<96) (hpq:∀ i,i<96->i≠k->p i=q i) (hq:q k=true):bJ ⟨(cK a.data.toList lb p).toArray⟩ ((k:Int)*8) (aO a ((k:Int)*8) 8)=⟨(cK a.data.toList lb q).toArray⟩:=by
 have hla:a.data.toList.length=768:=by rw[<- cV];exact ha
 have hrl:(cI a.data.toList k).length=8:=by rw[cI,fO,jC];omega
 rw[EF a k ha hk,Zn _ _ k (ja _ _ _) hrl hk,IP _ _ p q k hla hk hpq hq]
end Go.Proofs.YtidmmopnkjbjoaaGreatDoor
