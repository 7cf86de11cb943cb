/- Joined texts. -/
import Derived.Test.YtgpfmgaidbjcpaaGreatDoorJhC
set_option linter.unusedVariables false
set_option linter.unusedSimpArgs false
set_option maxRecDepth 10000
set_option maxHeartbeats 16000000
namespace Go.Proofs.YtgpfmgaidbjcpaaGreatDoor
open ChangeShapes WideShapes ChangeAt RowKit
open Go.Proofs.Tryz
section
theorem IW {w w1:World} {n:Nat} (h:ah (w.drewN n) w1):ah w w1:=⟨h.os,h.tape,h.output,h.size,h.block⟩
structure Ex (w:World) (B:Nat) (k o s:Int) (a:Option Addr) (zs:List Int) (c:Nat) (W:World):Prop where
 box:az B (fO k o s a zs.length c) W
 own:aR w.heap.size W a zs
 fits:zs.length<=c
 au:ah w W
variable {w W W' : World} {B : Nat} {k o s : Int} {a : Option Addr} {zs : List Int} {c : Nat}
theorem Ex.below (h:Ex w B k o s a zs c W) (hb:ah W W'):Ex w B k o s a zs c W':=⟨h.box.below hb,h.own.below hb,h.fits,h.au.trans (hb.mono h.au.size)⟩
theorem IX (hb:ah w W) (hi:bH w.heap.size W a zs.length c zs):Ex w W.heap.size k o s a zs c (W.alloc (.cells (bj k o s a zs.length c) 35)):=⟨aY (fO k o s a zs.length c) W 35,hi.own.alloc _,hi.fits,hb.alloc hb.size _⟩
def IY (s:ByteArray) (w:World) (e:Ending) (w':World):Prop:=
 ah w w'/\((bM s=false/\e=.returned (.tuple #[.nilIface,.bool false]))\/
  (bM s=true/\∃ a c,e=.returned (.tuple #[lN (aW s 0) (aO (aW s 0) (aW s 1) (cu s 2) a (cH s (bY s)).length c),.bool true])/\aR w.heap.size w' a (cH s (bY s))/\(cH s (bY s)).length<=c))
theorem aao {s:ByteArray} {w w':World} (h:bM s=false) (hb:ah w w'):IY s w (.returned (.tuple #[.nilIface,.bool false])) w':=⟨hb,Or.inl ⟨h,rfl⟩⟩
theorem Pk (s:ByteArray) (w:World) (hs:s.size<=281474976710656):Calls prog 15 #[.string s] w (IY s w):=by
 have hm:s.size<=maxLen:=by unfold maxLen;omega
 by_cases h16:s.size=16
 ·have g16:((s.size:Int) != 16)=false:=by simp;omega
  have ka:=IP s 2;have hbad:=@ZP s;have hof:=@OY s h16;have hnot:=@OZ s;have hans:IY s w=fun e w'=>ah w w'/\((bM s=false/\e=.returned (.tuple #[.nilIface,.bool false]))\/
   (bM s=true/\∃ a c,e=.returned (.tuple #[lN (aW s 0) (aO (aW s 0) (aW s 1) (cu s 2) a (cH s (bY s)).length c),.bool true])/\aR w.heap.size w' a (cH s (bY s))/\(cH s (bY s)).length<=c)):=rfl
  rw[hans];clear hans;have GY:Hid (∀ W,_):=fun W=>aag s W h16;have hlen:(cH s (bY s)).length<=281474976710656:=by rw[uZ];have:=va s;omega
  unfold zj at hof hnot;obtain ⟨Z,hZ⟩:∃ Z,cH s (bY s)=Z:=⟨_,rfl⟩;rw[hZ] at hbad hof hnot GY hlen ⊢;clear hZ;by_cases hok:fe (aW s 0) (aW s 1) (cu s 2) Z=true
  ·by_cases htx:((df (aW s 0) (aW s 1) (cu s 2) Z).toList == s.toList)=true
   ·have HI:Hid (bM s=true):=hof htx;clear hbad hof hnot;go_enter func15,ntmps15;go_wp2_with (first
     | (go_at_call 31;refine (IN _ _ _ hs).mono ?_;rintro e w0 ⟨rfl,m0,rfl⟩)
     | (go_at_call 32;refine (zd _ _ _ hm).mono ?_;rintro e w' ⟨rfl,rfl⟩)
     | (go_at_call 34;refine (Bw _ _ ka.1 ka.2).mono ?_;rintro e w' ⟨rfl,rfl⟩)
     | (go_at_call 33;refine (GY.out _).mono ?_;rintro e w1 ⟨a,c,rfl,hib,b1⟩;have n1:=IX (w:=w) (k:=aW s 0) (o:=aW s 1) (s:=cu s 2) (IW b1) hib)
     | (go_at_call 35;refine (Eu _ _ _ _ _ Z _ hlen n1.fits n1.own.row).mono ?_;rintro e w2 ⟨rfl,b2⟩;have n2:=n1.below b2;have c0:=n2.box.c0;have c1:=n2.box.c1;have c2:=n2.box.c2;have c3:=n2.box.c3)
     | (go_at_call 36;refine (IV _ _ _ _ _ Z _ hok n2.own.row).mono ?_;rintro e w3 ⟨rfl,b3⟩;have n3:=n2.below b3))
    go_ret2;exact ⟨n3.au,Or.inr ⟨HI.out,a,c,rfl,n3.own,n3.fits⟩⟩
   have Mf:((df (aW s 0) (aW s 1) (cu s 2) Z).toList == s.toList)=false:=by simpa using htx
   have HI:Hid (bM s=false):=hnot Mf;clear hbad hof hnot htx;go_enter func15,ntmps15;go_wp2_with (first
    | (go_at_call 31;refine (IN _ _ _ hs).mono ?_;rintro e w0 ⟨rfl,m0,rfl⟩)
    | (go_at_call 32;refine (zd _ _ _ hm).mono ?_;rintro e w' ⟨rfl,rfl⟩)
    | (go_at_call 34;refine (Bw _ _ ka.1 ka.2).mono ?_;rintro e w' ⟨rfl,rfl⟩)
    | (go_at_call 33;refine (GY.out _).mono ?_;rintro e w1 ⟨a,c,rfl,hib,b1⟩;have n1:=IX (w:=w) (k:=aW s 0) (o:=aW s 1) (s:=cu s 2) (IW b1) hib)
    | (go_at_call 35;refine (Eu _ _ _ _ _ Z _ hlen n1.fits n1.own.row).mono ?_;rintro e w2 ⟨rfl,b2⟩;have n2:=n1.below b2;have c0:=n2.box.c0;have c1:=n2.box.c1;have c2:=n2.box.c2;have c3:=n2.box.c3)
    | (go_at_call 36;refine (IV _ _ _ _ _ Z _ hok n2.own.row).mono ?_;rintro e w3 ⟨rfl,b3⟩;have n3:=n2.below b3))
   go_ret2;exact ⟨n3.au,Or.inl ⟨HI.out,rfl⟩⟩
  have hok':fe (aW s 0) (aW s 1) (cu s 2) Z=false:=by simpa using hok
  have HI:Hid (bM s=false):=hbad hok';clear hbad hof hnot hok;go_enter func15,ntmps15;go_wp2_with (first
   | (go_at_call 31;refine (IN _ _ _ hs).mono ?_;rintro e w0 ⟨rfl,m0,rfl⟩)
   | (go_at_call 32;refine (zd _ _ _ hm).mono ?_;rintro e w' ⟨rfl,rfl⟩)
   | (go_at_call 34;refine (Bw _ _ ka.1 ka.2).mono ?_;rintro e w' ⟨rfl,rfl⟩)
   | (go_at_call 33;refine (GY.out _).mono ?_;rintro e w1 ⟨a,c,rfl,hib,b1⟩;have n1:=IX (w:=w) (k:=aW s 0) (o:=aW s 1) (s:=cu s 2) (IW b1) hib)
   | (go_at_call 35;refine (Eu _ _ _ _ _ Z _ hlen n1.fits n1.own.row).mono ?_;rintro e w2 ⟨rfl,b2⟩;have n2:=n1.below b2))
  go_ret2;exact ⟨n2.au,Or.inl ⟨HI.out,rfl⟩⟩
 have g16:((s.size:Int) != 16)=true:=by simp;omega
 have HI:Hid (bM s=false):=O4 h16;go_enter func15,ntmps15;go_wp2;go_ret2;exact aao HI.out (aQ _ _)
end
section
def gR (s:ByteArray) (w:World) (e:Ending) (w':World):Prop:=∃ a c,e=.returned (.tuple #[aO (bg s) (bI s) (bU s) a (aD s).length c,.bool (bM s)])/\aR w.heap.size w' a (aD s)/\(aD s).length<=c/\ah w w'
theorem IZ {s:ByteArray} {w w':World} (h:bM s=false) (hb:ah w w'):gR s w (.returned (.tuple #[aO 0 0 0 none 0 0,.bool false])) w':=by obtain ⟨h1,h2,h3,h4⟩:=zn h;exact ⟨none,0,by rw[h1,h2,h3,h4,h];rfl,by rw[h4];exact Or.inl rfl,by rw[h4];exact av _,hb⟩
theorem I5 {s:ByteArray} {w w':World} {a:Option Addr} {c:Nat} (h:bM s=true) (ho:aR w.heap.size w' a (cH s (bY s))) (hc:(cH s (bY s)).length<=c) (hb:ah w w'):gR s w (.returned (.tuple #[aO (aW s 0) (aW s 1) (cu s 2) a (cH s (bY s)).length c,.bool true])) w':=by obtain ⟨h1,h2,h3,h4⟩:=zp h;exact ⟨a,c,by rw[h1,h2,h3,h4,h],by rw[h4];exact ho,by rw[h4];exact hc,hb⟩
theorem aap {s:ByteArray} {w w':World} (h:bM s=true) (hk:aW s 0=0) (hb:ah w w'):gR s w (.returned (.tuple #[aO 0 0 0 none 0 0,.bool true])) w':=by have hok:=(zm h).2.2;rw[fe,aN hk] at hok;simp only[jF,ca,dp] at hok;have hz:cH s (bY s)=[]:=sn hok.2.2;have:=I5 (a:=none) (c:=0) h (by rw[hz];exact Or.inl rfl) (by rw[hz];exact av _) hb;rwa [hk,hok.1,hok.2.1,hz] at this
variable {w W W' : World}
theorem Pm {s:ByteArray} (hs:s.size<=281474976710656) (h:bM s=false):Calls prog 15 #[.string s] W (aV (.tuple #[.nilIface,.bool false]) W):=
 (Pk s W hs).mono fun e w' ⟨hb,hc⟩=>by
  rcases hc with ⟨_,he⟩ | ⟨h2,_⟩;·exact ⟨he,hb⟩
  ·rw[h] at h2;cases h2
theorem Ey {s:ByteArray} (hs:s.size<=281474976710656) (h:bM s=true) {v:Value->Value} (hv:∀ x,lN (aW s 0) x=v x):Calls prog 15 #[.string s] W fun e w'=>∃ a c,e=.returned (.tuple #[v (aO (aW s 0) (aW s 1) (cu s 2) a (cH s (bY s)).length c),.bool true])/\aR W.heap.size w' a (cH s (bY s))/\(cH s (bY s)).length<=c/\ah W w':=
 (Pk s W hs).mono fun e w' ⟨hb,hc⟩=>by
  rcases hc with ⟨h2,_⟩ | ⟨_,a,c,he,ho,hl⟩;·rw[h] at h2;cases h2
  ·exact ⟨a,c,by rw[he,hv],ho,hl,hb⟩
structure oB (w:World) (a:Option Addr) (zs:List Int) (W:World):Prop where
 res:az w.heap.size (fO 0 0 0 none 0 0) W
 own:aR (w.heap.size+1) W a zs
 au:ah w W
theorem oB.below {a:Option Addr} {zs:List Int} (h:oB w a zs W) (hb:ah W W'):oB w a zs W':=⟨h.res.below hb,h.own.below hb,h.au.trans (hb.mono h.au.size)⟩
theorem tO {a:Option Addr} {zs:List Int} (hb:ah (w.alloc (.cells (bj 0 0 0 none 0 0) 35)) W) (ho:aR (w.alloc (.cells (bj 0 0 0 none 0 0) 35)).heap.size W a zs):oB w a zs W:=⟨(aY (fO 0 0 0 none 0 0) w 35).below hb,ho.mono (by simp),(aA w _).trans (hb.mono (by simp))⟩
theorem oB.done {a:Option Addr} {zs:List Int} (h:oB w a zs W) (x y z u:Value):aR w.heap.size ((((W.setCell ⟨w.heap.size,0,none⟩ x).setCell ⟨w.heap.size,1,none⟩ y).setCell ⟨w.heap.size,2,none⟩ z).setCell ⟨w.heap.size,3,none⟩ u) a zs/\ah w ((((W.setCell ⟨w.heap.size,0,none⟩ x).setCell ⟨w.heap.size,1,none⟩ y).setCell ⟨w.heap.size,2,none⟩ z).setCell ⟨w.heap.size,3,none⟩ u):=
  ⟨((((h.own.set (cm _) 0 x).set (cm _) 1 y).set (cm _) 2 z).set (cm _) 3 u).mono (bS _),
   (((h.au.setCell (p:=⟨w.heap.size,0,none⟩) (av _) _).setCell (p:=⟨w.heap.size,1,none⟩) (av _) _).setCell (p:=⟨w.heap.size,2,none⟩) (av _) _).setCell (p:=⟨w.heap.size,3,none⟩) (av _) _⟩
theorem BC (s:ByteArray) (w:World) (hs:s.size<=281474976710656):Calls prog 184 #[.string s] w (gR s w):=by
 by_cases hI:bM s=true
 ·have hok:=zi (zm hI).2.2;by_cases h0:aW s 0=0
  ·have hv:∀ x,lN (aW s 0) x=.iface 86 x:=fun x=>by rw[lN,aN h0]
   have HF:Hid (∀ w',ah w w'->gR s w (.returned (.tuple #[aO 0 0 0 none 0 0,.bool true])) w'):=fun w' hb=>aap hI h0 hb;have hr:Hid (∀ W,Calls prog 15 #[.string s] W fun e w'=>∃ a c,e=.returned (.tuple #[.iface 86 (aO (aW s 0) (aW s 1) (cu s 2) a (cH s (bY s)).length c),.bool true])/\aR W.heap.size w' a (cH s (bY s))/\(cH s (bY s)).length<=c/\ah W w'):=fun W=>Ey hs hI hv;clear hok hv h0 hI;go_enter func184,ntmps184;go_wp2_with (first
    | (go_at_call 15;refine (hr.out _).mono ?_;rintro e w1 ⟨a,c,rfl,ho,hl,b1⟩;have r1:=tO b1 ho)
    | (go_at_call 19;refine (aan _ _ _ _ _ _ _).mono ?_;rintro e w2 ⟨rfl,b2⟩;have r2:=r1.below b2;have c0:=r2.res.c0;have c1:=r2.res.c1;have c2:=r2.res.c2;have c3:=r2.res.c3;have f0:=r2.res.f0;have f1:=r2.res.f1;have f2:=r2.res.f2;have f3:=r2.res.f3))
   have q:=r2.res.dQ (aa 0) (aa 0) (aa 0) (.slice none 0 0);have d:=r2.done (aa 0) (aa 0) (aa 0) (.slice none 0 0);exact bF (v:=.tuple #[aO 0 0 0 none 0 0,.bool true]) (by simp[results,results184,go_sem,q.c0,q.c1,q.c2,q.c3]) rfl (HF.out _ d.2)
  have HF:Hid (∀ a c w',aR w.heap.size w' a (cH s (bY s))->(cH s (bY s)).length<=c->ah w w'->gR s w (.returned (.tuple #[aO (aW s 0) (aW s 1) (cu s 2) a (cH s (bY s)).length c,.bool true])) w'):=fun a c w' ho hl hb=>I5 hI ho hl hb;by_cases h1:aW s 0=1
  ·have hv:∀ x,lN (aW s 0) x=.iface 88 x:=fun x=>by rw[lN,aM h0,aN h1]
   have hr:Hid (∀ W,Calls prog 15 #[.string s] W fun e w'=>∃ a c,e=.returned (.tuple #[.iface 88 (aO (aW s 0) (aW s 1) (cu s 2) a (cH s (bY s)).length c),.bool true])/\aR W.heap.size w' a (cH s (bY s))/\(cH s (bY s)).length<=c/\ah W w'):=fun W=>Ey hs hI hv;clear hok hv h0 h1 hI;go_enter func184,ntmps184;go_wp2_with (first
    | (go_at_call 15;refine (hr.out _).mono ?_;rintro e w1 ⟨a,c,rfl,ho,hl,b1⟩;have r1:=tO b1 ho)
    | (go_at_call 19;refine (Ph _ _ _ _ _ _ _).mono ?_;rintro e w2 ⟨rfl,b2⟩;have r2:=r1.below b2;have c0:=r2.res.c0;have c1:=r2.res.c1;have c2:=r2.res.c2;have c3:=r2.res.c3;have f0:=r2.res.f0;have f1:=r2.res.f1;have f2:=r2.res.f2;have f3:=r2.res.f3))
   have q:=r2.res.dQ (aa (aW s 0)) (aa (aW s 1)) (aa (cu s 2)) (.slice a (cH s (bY s)).length c);have d:=r2.done (aa (aW s 0)) (aa (aW s 1)) (aa (cu s 2)) (.slice a (cH s (bY s)).length c);exact bF (v:=.tuple #[aO (aW s 0) (aW s 1) (cu s 2) a (cH s (bY s)).length c,.bool true]) (by simp[results,results184,go_sem,q.c0,q.c1,q.c2,q.c3]) rfl (HF.out _ _ _ d.1 hl d.2)
  have h2:aW s 0=2:=by omega
  have hv:∀ x,lN (aW s 0) x=.iface 90 x:=fun x=>by rw[lN,aM h0,aM h1,aN h2]
  have hr:Hid (∀ W,Calls prog 15 #[.string s] W fun e w'=>∃ a c,e=.returned (.tuple #[.iface 90 (aO (aW s 0) (aW s 1) (cu s 2) a (cH s (bY s)).length c),.bool true])/\aR W.heap.size w' a (cH s (bY s))/\(cH s (bY s)).length<=c/\ah W w'):=fun W=>Ey hs hI hv;clear hok hv h0 h1 h2 hI;go_enter func184,ntmps184;go_wp2_with (first
   | (go_at_call 15;refine (hr.out _).mono ?_;rintro e w1 ⟨a,c,rfl,ho,hl,b1⟩;have r1:=tO b1 ho)
   | (go_at_call 19;refine (Pj _ _ _ _ _ _ _).mono ?_;rintro e w2 ⟨rfl,b2⟩;have r2:=r1.below b2;have c0:=r2.res.c0;have c1:=r2.res.c1;have c2:=r2.res.c2;have c3:=r2.res.c3;have f0:=r2.res.f0;have f1:=r2.res.f1;have f2:=r2.res.f2;have f3:=r2.res.f3))
  have q:=r2.res.dQ (aa (aW s 0)) (aa (aW s 1)) (aa (cu s 2)) (.slice a (cH s (bY s)).length c);have d:=r2.done (aa (aW s 0)) (aa (aW s 1)) (aa (cu s 2)) (.slice a (cH s (bY s)).length c);exact bF (v:=.tuple #[aO (aW s 0) (aW s 1) (cu s 2) a (cH s (bY s)).length c,.bool true]) (by simp[results,results184,go_sem,q.c0,q.c1,q.c2,q.c3]) rfl (HF.out _ _ _ d.1 hl d.2)
 have hI':bM s=false:=by simpa using hI
 have HF:Hid (∀ w',ah w w'->gR s w (.returned (.tuple #[aO 0 0 0 none 0 0,.bool false])) w'):=fun w' hb=>IZ hI' hb;have hr:Hid (∀ W,Calls prog 15 #[.string s] W (aV (.tuple #[.nilIface,.bool false]) W)):=fun W=>Pm hs hI';clear hI hI';go_enter func184,ntmps184;go_wp2_with (go_at_call 15;refine (hr.out _).mono ?_;rintro e w1 ⟨rfl,b1⟩;have r1:=tO (a:=none) (zs:=[]) b1 (Or.inl rfl);have c0:=r1.res.c0;have c1:=r1.res.c1;have c2:=r1.res.c2;have c3:=r1.res.c3;have f0:=r1.res.f0;have f1:=r1.res.f1;have f2:=r1.res.f2;have f3:=r1.res.f3);have q:=r1.res.dQ (aa 0) (aa 0) (aa 0) (.slice none 0 0);have d:=r1.done (aa 0) (aa 0) (aa 0) (.slice none 0 0);exact bF (v:=.tuple #[aO 0 0 0 none 0 0,.bool false]) (by simp[results,results184,go_sem,q.c0,q.c1,q.c2,q.c3]) rfl (HF.out _ d.2)
end
section
def qO (k o:Int) (zs:List Int) (j:Nat):ByteArray:=jr k o++iy (zs.take j)
theorem aaq (k o:Int) (zs:List Int):qO k o zs 0=jr k o:=by apply kD;simp[qO,iy]
theorem aar (k o:Int) (zs:List Int) (j:Nat) (h:j<zs.length):qO k o zs j ++ ⟨#[UInt8.ofNat (zs.getD j 0).toNat]⟩=qO k o zs (j+1):=by rw[qO,qO,amb,OV zs j h]
theorem aas (k o:Int) (zs:List Int):qO k o zs zs.length=jr k o++iy zs:=by rw[qO,nC]
variable {base g n cap : Nat} {w W1 W W' : World} {t u : ByteArray}
theorem aat (h:fB base W g n cap (t++u)) (m:Nat) (hm:m=t.size):(convert 22 9 (aH g m cap)).run prog W=.ok (.string t) W:=by
 have hh:=h.holds;have:=tM (P:=prog) W 22 9 5 g 0 cap t.data.toList underlying22 underlying5 underlying9 (fun j hj=>by have h2:=hh j (by simp[pI] at hj ⊢;omega);rw[h2];congr 2;simp only[pI,uS];rw[Ic hj]) m (by rw[hm,dX])
 rwa [Bc] at this
theorem aau (h:fB base W g n cap (t++u)) (m:Nat) (hm:m=t.size) (r:Nat) (hr:r=u.size) (c:Nat):(convert 22 9 (.slice (some ⟨g,m,none⟩) r c)).run prog W=.ok (.string u) W:=by
 have hh:=h.holds;have:=tM (P:=prog) W 22 9 5 g m c u.data.toList underlying22 underlying5 underlying9 (fun j hj=>by
  have hts:t.data.toList.length=m:=by rw[hm,dX]
  have h2:=hh (m+j) (by simp only[pI,uS,de];omega);rw[dW] at h2;rw[h2];congr 2;simp only[pI,uS];rw[NX (by omega)];simp[hts]) r (by rw[hr,dX])
 rwa [Bc] at this
theorem aav (W:World) (b o c:Nat):(convert 22 9 (.slice (some ⟨b,o,none⟩) 0 c)).run prog W=.ok (.string ⟨#[]⟩) W:=tM (P:=prog) W 22 9 5 b o c [] underlying22 underlying5 underlying9 (fun j hj=>by simp at hj) 0 rfl
theorem amj (m:Int) (h:js w W1 g n cap t W):Calls prog 119 #[aa m] W fun e w'=>e=.returned (.string (iT m))/\js w W1 g n cap t w'/\ah W w':=(OH m W).mono fun _ _ ⟨he,hb⟩=>⟨he,h.below hb,hb⟩
abbrev Ez (k o:Int) (g cap:Nat) (W:World):Prop:=(convert 22 9 (.slice (some ⟨g,0,none⟩) 2 cap)).run prog W=.ok (.string (jr k o)) W
abbrev EA (zs:List Int) (g cap:Nat) (W:World):Prop:=(convert 22 9 (.slice (some ⟨g,2,none⟩) zs.length (cap-2))).run prog W=.ok (.string (iy zs)) W
theorem Pn {k o s:Int} {zs:List Int} (h:js w W1 g (2+zs.length) cap (jr k o++iy zs) W) (hc:ad W w.heap.size 2 (aa s)):Ez k o g cap W/\EA zs g cap W/\ad W w.heap.size 2 (aa s)/\js w W1 g (2+zs.length) cap (jr k o++iy zs) W:=⟨aat h.buf 2 rfl,aau h.buf 2 rfl zs.length (Ep zs).symm (cap-2),hc,h⟩
theorem Po {k o s:Int} {zs:List Int} (h:Ez k o g cap W/\EA zs g cap W/\W.cell? ⟨w.heap.size,2,none⟩=some (.int .i64 s)/\js w W1 g (2+zs.length) cap (jr k o++iy zs) W):Calls prog 119 #[.int .i64 s] W fun e w'=>e=.returned (.string (iT s))/\(Ez k o g cap w'/\EA zs g cap w'/\w'.cell? ⟨w.heap.size,2,none⟩=some (.int .i64 s)/\js w W1 g (2+zs.length) cap (jr k o++iy zs) w'):=
 (OH s W).mono fun _ w' ⟨he,hb⟩=>⟨he,Pn (h.2.2.2.below hb) ((hb.cell (p:=⟨w.heap.size,2,none⟩) (by
  have:=h.2.2.1;unfold World.cell? at this;cases hq:W.heap[w.heap.size]? with
  | none=>simp[hq] at this
  | some o=>exact (nz.1 hq).1)).trans h.2.2.1)⟩
theorem Pp (k o s:Int) (a:Option Addr) (c:Nat) (zs:List Int) (W:World) (hbig:zs.length<=281474976710656) (hcap:zs.length<=c) (hR:aK W a zs) (mP:az w.heap.size (fO k o s a zs.length c) W) (hl:ah w W):Calls prog 118 #[aO k o s a zs.length c] W fun e w'=>e=.returned (.bool (fe k o s zs))/\az w.heap.size (fO k o s a zs.length c) w'/\aK w' a zs/\ah w w':=(O6 k o s a c zs W hbig hcap hR).mono fun _ _ ⟨he,hb⟩=>⟨he,mP.below hb,hR.below hb,hl.trans (hb.mono hl.size)⟩
theorem BD (k o s:Int) (a:Option Addr) (c:Nat) (zs:List Int) (w:World) (hbig:zs.length<=281474976710656) (hcap:zs.length<=c) (hR:aK w a zs):Calls prog 72 #[aO k o s a zs.length c] w (aV (.string (df k o s zs)) w):=by
 have mP:=aY (fO k o s a zs.length c) w 35;have hl0:=aA w (.cells (bj k o s a zs.length c) 35);have hR0:=hR.below hl0;clear hR;by_cases hok:fe k o s zs=true
 ·obtain ⟨hk,ho,hs,hl,-,hp⟩:=zi hok;have hP2:=IL s (by omega) (by omega);have hs0:0<=s:=hs.1;have hk0:0<=k:=hk.1;have hk1:k<=2:=hk.2;have ho0:0<=o:=ho.1;have ho1:o<=9:=ho.2;have HT:Hid (df k o s zs=(jr k o++iT s++iy zs)++bG (16-(4+(zs.length:Int)))):=by
   rw[df,aN hok,sB,bG,aN (by omega),show (16-(4+(zs.length:Int))).toNat=12-zs.length by omega];rfl
  go_enter func72,ntmps72;go_wp2_with (go_at_call 118;refine (Pp k o s a c zs _ hbig hcap hR0 mP hl0).mono ?_;rintro e w1 ⟨rfl,qy,rG,hl1⟩;have c0:=qy.c0;have c1:=qy.c1;have c2:=qy.c2;have c3:=qy.c3;have oW:=O7 (base:=w1.heap.size) w1 k o (by omega) (by omega) (av _);have vT:=aA w1 (.cells #[.int .u8 k,.int .u8 o] 5));go_loopw [3,4] (fun r i w'=>∃ (j g cap:Nat),j<=zs.length/\i=aa j/\r=aH g (2+j) cap/\fB w1.heap.size w' g (2+j) cap (qO k o zs j)/\ah w1 w') (fun _ i _=>zs.length-(intOf i).toNat);case atStart=>exact ⟨0,_,_,bh _,rfl,rfl,by rw[aaq];exact oW,vT⟩
  case round=>
  obtain ⟨j,g,cap,hj,rfl,rfl,hbuf,hbel⟩:=hrel;have XX:=qy.below hbel;have r2:=XX.c2;have r3:=XX.c3;clear oW vT c0 c1 c2 c3 mP hl0 hR0;by_cases hlt:j<zs.length
  ·obtain ⟨b,off,rfl,hb,hc⟩:=(rG.below hbel).get hlt;have x1:=hc j hlt;have hz:=By hp hlt;have hu:=aar k o zs j hlt;obtain ⟨z,ez⟩:∃ z,zs.getD j 0=z:=⟨_,rfl⟩;rw[ez] at x1 hz hu;have z0:0<=z:=by omega
   have z1:z<=23:=hz.2;have e1:(0:Int)<=(j:Int):=by omega
   have e2:(j:Int)<(zs.length:Int):=by omega
   have HU:Hid (qO k o zs j ++ ⟨#[UInt8.ofNat z.toNat]⟩=qO k o zs (j+1)):=hu;clear hu ez hc hz;go_wp2_with (at_builtin;refine Pa rfl (.tmp 23) (.tmp 30) rfl hbuf z (by omega) (by rfl) (by rfl) (by omega) hbel.size ?_;intro g1 dO w2 oX mf);go_roundw;case rel=>exact ⟨j+1,g1,dO,by omega,by go_num,rfl,by rw[<- HU.out];exact oX,hbel.trans mf⟩
   case measure=>simp[intOf];omega
  obtain rfl:j=zs.length:=by omega
  rw[aas] at hbuf;have st:js w w1 g (2+zs.length) cap (jr k o++iy zs) wr:=⟨hbuf,hbel⟩;have hfin:Hid (∀ W,js w w1 g (2+zs.length) cap (jr k o++iy zs) W->ah w W):=fun W h=>hl1.trans (h.au.mono hl1.size);have hcp:2+zs.length<=cap:=by
   rcases hbuf.2.2 with ⟨h0,_⟩ | ⟨g',cap',cur,hv,_,_,hle,_⟩;·cases h0
   simp at hv;omega
  clear rG hbuf hbel qy hl1;have z1:(jr k o).size+(iT s).size<=9223372036854775807:=by rw[Es,hP2];omega
  have z2:(jr k o++iT s).size+(iy zs).size<=9223372036854775807:=by rw[ke,Es,hP2,Ep];omega
  have h2s:=Es k o;have hps:=Ep zs;have z3:4+zs.length+(bG (16-(4+(zs.length:Int)))).size<=9223372036854775807:=by rw[bG,aN (by omega),sw];omega
  have hSd:Ez k o g cap wr.drew/\EA zs g cap wr.drew/\wr.drew.cell? ⟨w.heap.size,2,none⟩=some (aa s)/\js w w1 g (2+zs.length) cap (jr k o++iy zs) wr.drew:=Pn st.drew r2;by_cases hc2:cap=2
  ·subst hc2;obtain rfl:zs=[]:=sn (by omega);have hcn:=aav;have HE:Hid (df k o s []=(jr k o++iT s ++ ⟨#[]⟩)++bG 12):=HT.out;have z5:4+(bG 12).size<=9223372036854775807:=z3;clear HT z3;go_wp2;go_region_held3 (fun W=>(convert 22 9 (aH g 2 2)).run prog W=.ok (.string (jr k o)) W/\(convert 22 9 (.slice (some ⟨g,2,none⟩) ([]:List Int).length (2-2))).run prog W=.ok (.string (iy [])) W/\ad W w.heap.size 2 (aa s)/\js w w1 g (2+([]:List Int).length) 2 (jr k o++iy []) W) (assumption) ((go_at_call 119;refine (Po (by assumption)).mono ?_;rintro e w4 ⟨rfl,h4⟩))
   all_goals
    go_wp2_with (go_at_call 90;refine (wQ _ _).mono ?_;rintro e w2 ⟨rfl,rfl⟩);go_ret;exact ⟨BB HE.out.symm,hfin.out _ h4.2.2.2⟩
  have i1:(2:Int)<=(cap:Int):=by omega
  have i2:(2:Int)<=2+(zs.length:Int):=by omega
  have i3:2+(zs.length:Int)<=(cap:Int):=by omega
  have i5:2+2+zs.length<=9223372036854775807:=by omega
  have i6:4+zs.length<=9223372036854775807:=by omega
  have i7:¬ 9223372036854775807<4+zs.length:=by omega
  have i4:(2:Int)<=((2+zs.length:Nat):Int):=by omega
  go_wp2;go_region_held3 (fun W=>(convert 22 9 (aH g 2 cap)).run prog W=.ok (.string (jr k o)) W/\(convert 22 9 (.slice (some ⟨g,2,none⟩) zs.length (cap-2))).run prog W=.ok (.string (iy zs)) W/\ad W w.heap.size 2 (aa s)/\js w w1 g (2+zs.length) cap (jr k o++iy zs) W) (assumption) ((go_at_call 119;refine (Po (by assumption)).mono ?_;rintro e w4 ⟨rfl,h4⟩))
  all_goals
   go_wp2_with (go_at_call 90;refine (wQ _ _).mono ?_;rintro e w2 ⟨rfl,rfl⟩);go_ret;exact ⟨BB HT.out.symm,hfin.out _ h4.2.2.2⟩
 have hok':fe k o s zs=false:=by simpa using hok
 have HR:Hid (df k o s zs=⟨#[]⟩):=by rw[df,aM hok];rfl
 go_enter func72,ntmps72;go_wp2_with (go_at_call 118;refine (Pp k o s a c zs _ hbig hcap hR0 mP hl0).mono ?_;rintro e w1 ⟨rfl,qy,rG,hl1⟩);go_ret;exact ⟨BB HR.out.symm,hl1⟩
end
section
theorem aaw {P:Program} {ops:Array Oper} {o:Oper} {A:Act} {W:World} {K:Act->World->Prop} {Q:Exit->Act->World->Prop} {E:Prop} {f:Nat} (hgd:o.guard=none) (x y:Operand) (ts:Array TypeId) (hop:o.op=.call { callee:=.value (.func f),args:=#[x,y],argTypes:=ts }) (eg:∀ args w,(callFunc f args).run P w=.ok (.enter f args) w) (vx vy:Value) (hx:A.eval x=vx) (hy:A.eval y=vy) (hc:Calls P f #[vx,vy] W fun e w'=>∃ u,e=.returned u/\K (A.put o.dst u) w'):if Region.wanted o (yielded ops A.tmps)=true then Oper.wp P o A W K Q else E:=by
 have hw:Region.wanted o (yielded ops A.tmps)=true:=by simp[Region.wanted,hgd]
 rw[aN hw];have he:(execOp A.eval o).run P W=.ok (.enter f #[vx,vy]) W:=by subst hx;subst hy;simp[execOp,hop,resolve,go_sem,invoke,eg]
 unfold Oper.wp;rw[he];refine kZ hc ?_;rintro e w' ⟨u,rfl,h⟩;exact h
structure mR (w:World) (k o s:Int) (a:Option Addr) (n c:Nat) (zs:List Int) (W:World):Prop where
 res:az w.heap.size (fO 0 0 0 none 0 0) W
 nd:az (w.heap.size+1) (fO k o s a n c) W
 buf:bH (w.heap.size+2) W a n c zs
 lt:w.heap.size+2<=W.heap.size
 au:ah w W
variable {w W W' : World} {k o s : Int} {a : Option Addr} {n c : Nat} {zs : List Int}
theorem mR.below (h:mR w k o s a n c zs W) (hb:ah W W'):mR w k o s a n c zs W':=⟨h.res.below hb,h.nd.below hb,h.buf.below hb,br h.lt hb.size,h.au.trans (hb.mono h.au.size)⟩
theorem mR.drewN (h:mR w k o s a n c zs W) (m:Nat):mR w k o s a n c zs (W.drewN m):=⟨h.res.drewN m,h.nd.drewN m,h.buf.drewN m,h.lt,gy h.au m⟩
theorem aax (w:World) (k o s:Int) (m:Nat):mR w k o s none 0 0 [] (((w.alloc (.cells (bj 0 0 0 none 0 0) 35)).drewN m).alloc (.cells (bj k o s none 0 0) 35)):=⟨((aY (fO 0 0 0 none 0 0) w 35).drewN m).alloc _,dR (fO k o s none 0 0) ((w.alloc _).drewN m) 35 (by simp),Bz _,by simp,(gy ((aQ _ _).alloc (av _) _) m).alloc (by simp) _⟩
theorem mR.step (h:mR w k o s a n c zs W) {g' c':Nat} {z:Int} (hb:bH (w.heap.size+2) W' (some ⟨g',0,none⟩) (n+1) c' (zs ++ [z])) (hl:Below (w.heap.size+2) W W'):mR w k o s (some ⟨g',0,none⟩) (n+1) c' (zs ++ [z]) (W'.setCell ⟨w.heap.size+1,3,none⟩ (aH g' (n+1) c')):=by
 have r1:=gd h.res hl (by omega);have n1:=gd h.nd hl (by omega);refine ⟨r1.aP (by omega) 3 _,n1.set 3 _,⟨hb.1,hb.2.1,?_⟩,?_,(h.au.trans (hl.mono (by omega))).setCell (p:=⟨w.heap.size+1,3,none⟩) (by simp) _⟩
 ·rcases hb.2.2 with h0 | ⟨g,cap,cur,hv,hg,hc,r⟩;·exact Or.inl h0
  refine Or.inr ⟨g,cap,cur,hv,hg,?_,r⟩;rw[Ij W' ⟨w.heap.size+1,3,none⟩ _ g (by show g≠w.heap.size+1;omega)];exact hc
 have:=br h.lt hl.size;simpa [World.setCell] using this
theorem mR.at3 (h:mR w k o s a n c zs W) (hl:Below (w.heap.size+2) W W'):ad W' (w.heap.size+1) 3 (.slice a n c)/\W'.frozen? ⟨w.heap.size+1,3,none⟩=false:=by have n1:=gd h.nd hl (by omega);exact ⟨n1.c3,n1.f3⟩
theorem mR.done (h:mR w k o s a n c zs W) (x y z u:Value):aR w.heap.size ((((W.setCell ⟨w.heap.size,0,none⟩ x).setCell ⟨w.heap.size,1,none⟩ y).setCell ⟨w.heap.size,2,none⟩ z).setCell ⟨w.heap.size,3,none⟩ u) a zs/\ah w ((((W.setCell ⟨w.heap.size,0,none⟩ x).setCell ⟨w.heap.size,1,none⟩ y).setCell ⟨w.heap.size,2,none⟩ z).setCell ⟨w.heap.size,3,none⟩ u):=
  ⟨((((h.buf.own.set (by omega) 0 x).set (by omega) 1 y).set (by omega) 2 z).set (by omega) 3 u).mono (by omega),
   (((h.au.setCell (p:=⟨w.heap.size,0,none⟩) (av _) _).setCell (p:=⟨w.heap.size,1,none⟩) (av _) _).setCell (p:=⟨w.heap.size,2,none⟩) (av _) _).setCell (p:=⟨w.heap.size,3,none⟩) (av _) _⟩
theorem I6 (s:ByteArray) (w:World) (hs:s.size<=281474976710656):Calls prog 128 #[.string s] w (gR s w):=by
 have hm:s.size<=maxLen:=by unfold maxLen;omega
 have ka:=IP s 2;have hcl:=va s;have hct:=OX s;have WW:=aax w (aW s 0) (aW s 1) (cu s 2);have heg:∀ args w,(callFunc 181 args).run prog w=.ok (.enter 181 args) w:=bo func181 (by kernel_rfl) rfl;have HY:Hid (∀ a c w',s.size=16->((df (aW s 0) (aW s 1) (cu s 2) (cH s (bY s))).toList == s.toList)=true->aR w.heap.size w' a (cH s (bY s))->(cH s (bY s)).length<=c->ah w w'->gR s w (.returned (.tuple #[aO (aW s 0) (aW s 1) (cu s 2) a (cH s (bY s)).length c,.bool true])) w'):=fun a c w' h16 htx ho hl hb=>I5 (OY h16 htx) ho hl hb;have HN:Hid (∀ w',((df (aW s 0) (aW s 1) (cu s 2) (cH s (bY s))).toList == s.toList)=false->ah w w'->gR s w (.returned (.tuple #[aO 0 0 0 none 0 0,.bool false])) w'):=fun w' htx hb=>IZ (OZ htx) hb;have HZ:Hid (∀ w',¬ s.size=16->ah w w'->gR s w (.returned (.tuple #[aO 0 0 0 none 0 0,.bool false])) w'):=fun w' h16 hb=>IZ (O4 h16) hb;have hlen:(cH s (bY s)).length=bY s:=uZ _ _;obtain ⟨R,hR⟩:∃ R,gR s w=R:=⟨_,rfl⟩;rw[hR] at HY HN HZ ⊢;clear hR;go_enter func128,ntmps128;go_wp2_with (first
  | (go_at_call 181;refine (Bm _ _ _ hm).mono ?_;rintro e w' ⟨rfl,rfl⟩)
  | (go_at_call 182;refine (ZN _ _ _ hs).mono ?_;rintro e w0 ⟨rfl,m0,rfl⟩))
 go_loopw [5] (fun i w'=>∃ (k c:Nat) (a:Option Addr),k<=bY s/\i=aa (k:Int)/\mR w (aW s 0) (aW s 1) (cu s 2) a k c (cH s k) w') (fun i _=>12-(intOf i).toNat);case atStart=>exact ⟨0,0,none,bh _,rfl,WW m0⟩
 case round=>
 obtain ⟨k,c,a,hk,rfl,sp⟩:=hrel;clear WW;have x0:=sp.nd.c0;have x1:=sp.nd.c1;have x2:=sp.nd.c2;have x3:=sp.nd.c3;have x4:=sp.nd.f3;have hnd:Hid (∀ W,Calls prog 172 #[aa (cu s 2)] W fun e w'=>e=.returned (aa (dL (cu s 2)))/\W=w'):=fun W=>(IJ _ _ ka.1 ka.2).mono fun _ _ h=>⟨h.1,h.2.symm⟩;by_cases hlt:k<bY s
 ·obtain ⟨h1,h2⟩:=(hct k).1 hlt;have h2':(k:Int)<12:=by omega
  have hwr:IntKind.i64.wrap (4+(k:Int))=4+(k:Int):=by rw[Be];omega
  have HS:Hid (cH s k ++ [aW s (4+(k:Int))]=cH s (k+1)):=OW s k;have xa:=(sp.nd.alloc (.cells #[aa (aW s (4+(k:Int)))] 3)).c3;have hby:Hid (∀ W,Calls prog 181 #[.string s,aa (4+(k:Int))] W fun e w'=>e=.returned (aa (aW s (4+(k:Int))))/\W=w'):=fun W=>(Bm _ _ _ hm).mono fun _ _ h=>⟨h.1,h.2.symm⟩;clear hct HY HN HZ;go_wp2_with (go_at_call 172;refine (hnd.out _).mono ?_;rintro e w' ⟨rfl,rfl⟩);go_region_law (first
   | (refine aaw rfl (.tmp 26) (.tmp 28) _ rfl heg (.string s) (aa (4+(k:Int))) (by simp[Act.eval,Act.put]) (by simp[Act.eval,Act.put]) ((hby.out _).mono ?_);rintro e w' ⟨rfl,rfl⟩;refine ⟨_,rfl,?_⟩)
   | (refine ZX (w:=wr.drew) rfl (.tmp 25) (.tmp 30) rfl sp.buf.drew _ (by simp[Act.eval,Act.put]) (by simp[Act.eval,Act.put]) (by omega) sp.lt ?_;intro g1 dO w1 oX mf;have y3:=(sp.drewN 1).at3 mf;have y4:=y3.2;have y3:=y3.1))
  all_goals
   go_wp2;go_roundw;case rel=>exact ⟨k+1,dO,some ⟨g1,0,none⟩,by omega,by go_num,by rw[<- HS.out];exact (sp.drewN 1).step oX mf⟩
   case measure=>simp[intOf];omega
 obtain rfl:k=bY s:=by omega
 have hpi:Hid (Calls prog 72 #[aO (aW s 0) (aW s 1) (cu s 2) a (bY s) c] wr (aV (.string (df (aW s 0) (aW s 1) (cu s 2) (cH s (bY s)))) wr)):=by have:=BD (aW s 0) (aW s 1) (cu s 2) a c (cH s (bY s)) wr (by omega) (by rw[hlen];exact sp.buf.fits) sp.buf.own.row;rw[hlen] at this;exact this
 rw[hlen] at HY;have HE:Hid (((bY s:Int)<dL (cu s 2)/\¬ (bY s:Int)<12)\/¬ (bY s:Int)<dL (cu s 2)):=by
  show _\/_
  by_cases h:(bY s:Int)<dL (cu s 2)
  ·left;refine ⟨h,fun h2=>?_⟩;exact hlt ((hct _).2 ⟨h,by omega⟩)
  exact Or.inr h
 have hfit:=sp.buf.fits;have r0:=sp.res.c0;have r1:=sp.res.c1;have r2:=sp.res.c2;have r3:=sp.res.c3;have q0:=sp.res.f0;have q1:=sp.res.f1;have q2:=sp.res.f2;have q3:=sp.res.f3;clear hct hlt hk hlen;have e3:decide ((bY s:Int)<dL (cu s 2))=false\/((bY s:Int)<dL (cu s 2)/\decide ((bY s:Int)<12)=false):=by
  rcases HE.out with ⟨h1,h2⟩ | h1;·exact Or.inr ⟨h1,by simpa using h2⟩
  exact Or.inl (by simpa using h1)
 clear HE;rcases e3 with e3 | ⟨e4,e3⟩;all_goals
  by_cases h16:s.size=16
  ·have g16:((s.size:Int) != 16)=false:=by simp;omega
   by_cases htx:((df (aW s 0) (aW s 1) (cu s 2) (cH s (bY s))).toList == s.toList)=true
   ·go_wp2_with (first
     | (go_at_call 172;refine (hnd.out _).mono ?_;rintro e w' ⟨rfl,rfl⟩)
     | (go_at_call 72;refine hpi.out.mono ?_;rintro e w2 ⟨rfl,b2⟩;have sp2:=sp.below b2;have y0:=sp2.nd.c0;have y1:=sp2.nd.c1;have y2:=sp2.nd.c2;have y3:=sp2.nd.c3;have r0:=sp2.res.c0;have r1:=sp2.res.c1;have r2:=sp2.res.c2;have r3:=sp2.res.c3;have q0:=sp2.res.f0;have q1:=sp2.res.f1;have q2:=sp2.res.f2;have q3:=sp2.res.f3))
    have q:=sp2.res.dQ (aa (aW s 0)) (aa (aW s 1)) (aa (cu s 2)) (.slice a (bY s) c);have d:=sp2.done (aa (aW s 0)) (aa (aW s 1)) (aa (cu s 2)) (.slice a (bY s) c);exact bF (v:=.tuple #[aO (aW s 0) (aW s 1) (cu s 2) a (bY s) c,.bool true]) (by simp[results,results128,go_sem,q.c0,q.c1,q.c2,q.c3]) rfl (HY.out _ _ _ h16 htx d.1 hfit d.2)
   have Mf:((df (aW s 0) (aW s 1) (cu s 2) (cH s (bY s))).toList == s.toList)=false:=by simpa using htx
   go_wp2_with (first
    | (go_at_call 172;refine (hnd.out _).mono ?_;rintro e w' ⟨rfl,rfl⟩)
    | (go_at_call 72;refine hpi.out.mono ?_;rintro e w2 ⟨rfl,b2⟩;have sp2:=sp.below b2;have r0:=sp2.res.c0;have r1:=sp2.res.c1;have r2:=sp2.res.c2;have r3:=sp2.res.c3;have q0:=sp2.res.f0;have q1:=sp2.res.f1;have q2:=sp2.res.f2;have q3:=sp2.res.f3))
   have q:=sp2.res.dQ (aa 0) (aa 0) (aa 0) (.slice none 0 0);have d:=sp2.done (aa 0) (aa 0) (aa 0) (.slice none 0 0);exact bF (v:=.tuple #[aO 0 0 0 none 0 0,.bool false]) (by simp[results,results128,go_sem,q.c0,q.c1,q.c2,q.c3]) rfl (HN.out _ Mf d.2)
  ·have g16:((s.size:Int) != 16)=true:=by simp;omega
   go_wp2_with (go_at_call 172;refine (hnd.out _).mono ?_;rintro e w' ⟨rfl,rfl⟩);have q:=sp.res.dQ (aa 0) (aa 0) (aa 0) (.slice none 0 0);have d:=sp.done (aa 0) (aa 0) (aa 0) (.slice none 0 0);exact bF (v:=.tuple #[aO 0 0 0 none 0 0,.bool false]) (by simp[results,results128,go_sem,q.c0,q.c1,q.c2,q.c3]) rfl (HZ.out _ h16 d.2)
end
end Go.Proofs.YtgpfmgaidbjcpaaGreatDoor
