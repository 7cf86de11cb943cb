/- Joined texts. -/
import Derived.Test.YtidmmopnkjbjoaaGreatDoorJpW
import Derived.Test.YtidmmopnkjbjoaaGreatDoorJpX
import Derived.Test.YtidmmopnkjbjoaaGreatDoorJpU
set_option linter.unusedVariables false
set_option linter.unusedSimpArgs false
set_option maxRecDepth 10000
set_option maxHeartbeats 16000000
namespace Go.Proofs.YtidmmopnkjbjoaaGreatDoor
open ChangeShapes WideShapes ChangeAt RowKit
open Go.Proofs.Tryz
section
def tY (m:ByteArray) (d:ak) (j:Nat):Bool:=decide (aO d.aH ((j:Int)*32) 32=aO m (d.pg.getD j 0*32) 32)
def ub (m:ByteArray) (d:ak) (j:Nat):Bool:=decide (ar m (d.fr.getD j 0)=bB 16)
def ud (m:ByteArray) (us:List Int) (d:ak):Bool:=bT d && (dY m d.ino && (decide (d.rc=ar m d.ino) && (bC (tY m d) d.pg.length && (bC (ub m d) d.fr.length && decide ((dF (db true d.po us)).length=0)))))
structure kO (w:World) (d:ak) (s:aA) (ai:Option Addr) (zn ci:Nat) (L I:Nat) (W:World):Prop where
 lb:fL L d s W
 ib:W.cell? ⟨I,3,none⟩=some (.slice ai zn ci)
 lt:I<W.heap.size
 ah:aj w W
variable {w W W' : World} {d : ak} {s : aA} {ai : Option Addr} {zn ci L I : Nat}
theorem kO.below (h:kO w d s ai zn ci L I W) (hb:aj W W'):kO w d s ai zn ci L I W':=⟨h.lb.below hb,(hb.cell (p:=⟨I,3,none⟩) h.lt).trans h.ib,cS h.lt hb.size,h.ah.trans (hb.mono h.ah.size)⟩
theorem kO.drewN (h:kO w d s ai zn ci L I W) (n:Nat):kO w d s ai zn ci L I (W.drewN n):=h.below (cL (aK _ _) n)
theorem kO.cells (h:kO w d s ai zn ci L I W):af W L 0 (ad d.ino)/\af W L 1 (ad d.cl)/\af W L 2 (ad d.un)/\af W L 3 (.string d.rc)/\af W L 4 (.slice s.a1 d.pg.length s.c1)/\af W L 5 (.string d.aH)/\af W L 6 (.slice s.a2 d.po.length s.c2)/\af W L 7 (.slice s.a3 d.fr.length s.c3)/\af W I 3 (.slice ai zn ci):=⟨h.lb.c0,h.lb.c1,h.lb.c2,h.lb.c3,h.lb.c4,h.lb.c5,h.lb.c6,h.lb.c7,h.ib⟩
theorem adW (m:ByteArray) (ua:Option Addr) (uc:Nat) (us:List Int) (d:ak) (s:aA) (w:World) (hm:m.size=768) (hF:jX d s) (hpo:d.po.length<=1048576) (hfr:d.fr.length<=1048576) (jz:us.length<=1048576) (hR:dq w d s) (ru:aI w ua us):Calls prog 33 #[.string m,.slice ua us.length uc,bH d s] w (aT (.bool (ud m us d)) w):=by
 have x0:=zJ w d s;have HL:Hid (∀ W,aj w W->dq W d s):=fun W hb=>hR.below hb;have oS:Hid (∀ W,Calls prog 81 #[.string m,ad d.ino] W fun e w'=>∃ k o t a n c x,e=.returned (.tuple #[bO k o t a n c,.string x,.bool (dY m d.ino)])/\aj W w'/\(dY m d.ino=true->n=(aN (ar m d.ino)).length/\aI w' a (aN (ar m d.ino)))):=fun W=>(vw m d.ino W (by omega)).mono fun e w' ⟨a,c,he,ho,hc,hb⟩=>⟨_,_,_,a,_,c,_,he,hb,fun h=>by have h4:=(wO h).2.2.2.1;rw[h4] at ho ⊢;exact ⟨rfl,ho.row⟩⟩
 have iV:Hid (∀ W,aj w W->_):=fun W hb=>Fu d s W hF hpo hfr (hR.below hb);have ry:Hid (∀ i W,_):=fun i W=>vo m i W (by omega);have HOn:Hid (∀ W,aj w W->Calls prog 87 #[.slice s.a2 d.po.length s.c2,.slice ua us.length uc,.bool true] W fun e w'=>∃ a c,e=.returned (.slice a (dF (db true d.po us)).length c)/\aj W w'):=fun W hb=>(RU true s.a2 ua s.c2 uc d.po us W hpo (by omega) (hR.below hb).r2 (ru.below hb)).mono fun e w' ⟨a,c,he,_,_,hb⟩=>⟨a,c,he,hb⟩;have hss:=hF.m5;clear hR hF ru;unfold ud;cases hok:bT d with
 | false=>
  rw[hok] at iV;clear hok;go_enter func33,ntmps33;go_wp2_with (go_at_call 81;refine (oS.out _).mono ?_;rintro e w1 ⟨kk,oo,tt,ai,zn,ci,xx,rfl,b1,hy⟩;have x1:=x0.below b1;have HY:Hid _:=hy;clear hy);have b2:=aB w1 (.cells (bj kk oo tt ai zn ci) 117);have k2:=bu [ad kk,ad oo,ad tt,.slice ai zn ci] w1 117;have x2:=x1.below b2;have hb:kO w d s ai zn ci w.heap.size w1.heap.size (w1.alloc (.cells (bj kk oo tt ai zn ci) 117)):=⟨x2.arg,k2.c3,k2.lt,x2.ah⟩;obtain ⟨L,hL⟩:∃ L,w.heap.size=L:=⟨_,rfl⟩;obtain ⟨I,hI⟩:∃ I,w1.heap.size=I:=⟨_,rfl⟩;obtain ⟨W2,hW2⟩:∃ W2,w1.alloc (.cells (bj kk oo tt ai zn ci) 117)=W2:=⟨_,rfl⟩;rw[hI,hW2] at hb;simp only[hI,hW2];have hb1:kO w d s ai zn ci L I W2.drew:=by rw[<- hL];exact hb.drewN 1
  simp only[hL];have s1:=hb1.cells;clear hW2 hb x2 k2 b2 x1 b1 HY x0;refine et (S:=fun W=>af W L 0 (ad d.ino)/\af W L 1 (ad d.cl)/\af W L 2 (ad d.un)/\af W L 3 (.string d.rc)/\af W L 4 (.slice s.a1 d.pg.length s.c1)/\af W L 5 (.string d.aH)/\af W L 6 (.slice s.a2 d.po.length s.c2)/\af W L 7 (.slice s.a3 d.fr.length s.c3)/\af W I 3 (.slice ai zn ci)) (by kernel_rfl) ?_;refine aC 0 (bH d s) s1 ?_;refine fY (i:=1) (by kernel_rfl) rfl (by rfl) (.tmp 20) _ rfl (bH d s) (by rfl) (bh func72 (by kernel_rfl) rfl) ((iV.out _ hb1.ah).mono ?_);rintro e w3 ⟨rfl,b3⟩;have hb3:=hb1.below b3;have s3:=hb3.cells;refine ⟨_,rfl,s3,?_⟩;simp only[ao,Act.put,Nat.reduceAdd];refine aE 2 (.bool true) s3 ?_;refine aE 3 (.bool true) s3 ?_;refine aM 4 s3 ?_;refine aM 5 s3 ?_;refine aE 6 (.bool true) s3 ?_;refine aE 7 (.bool true) s3 ?_;refine aM 8 s3 ?_;refine aM 9 s3 ?_;refine aM 10 s3 ?_;refine aM 11 s3 ?_;refine aM 12 s3 ?_;refine aM 13 s3 ?_;refine aM 14 s3 ?_;refine aE 15 (.bool true) s3 ?_;refine aE 16 (.bool true) s3 ?_;refine aM 17 s3 ?_;refine aM 18 s3 ?_;refine aM 19 s3 ?_;refine aM 20 s3 ?_;refine aM 21 s3 ?_;refine aM 22 s3 ?_;refine aE 23 (.bool true) s3 ?_;refine dV (by kernel_rfl) ?_ _;go_wp2;go_ret;exact ⟨rfl,hb3.ah⟩
 | true=>
  rw[hok] at iV;obtain ⟨-,-,hgz,hsv,-,-,te,wu,hp2,eZ,hfi,-,-⟩:=iO hok;have fN:∀ j,j<d.pg.length->5<=d.pg.getD j 0/\d.pg.getD j 0<=23:=fun j hj=>(mJ.1 eZ).1 _ (gP.2 (Or.inl (kz hj)));clear hok eZ hsv hfi;cases hl:dY m d.ino with
  | false=>
   rw[hl] at oS;clear hl hgz;go_enter func33,ntmps33;go_wp2_with (go_at_call 81;refine (oS.out _).mono ?_;rintro e w1 ⟨kk,oo,tt,ai,zn,ci,xx,rfl,b1,hy⟩;have x1:=x0.below b1;have HY:Hid _:=hy;clear hy);have b2:=aB w1 (.cells (bj kk oo tt ai zn ci) 117);have k2:=bu [ad kk,ad oo,ad tt,.slice ai zn ci] w1 117;have x2:=x1.below b2;have hb:kO w d s ai zn ci w.heap.size w1.heap.size (w1.alloc (.cells (bj kk oo tt ai zn ci) 117)):=⟨x2.arg,k2.c3,k2.lt,x2.ah⟩;obtain ⟨L,hL⟩:∃ L,w.heap.size=L:=⟨_,rfl⟩;obtain ⟨I,hI⟩:∃ I,w1.heap.size=I:=⟨_,rfl⟩;obtain ⟨W2,hW2⟩:∃ W2,w1.alloc (.cells (bj kk oo tt ai zn ci) 117)=W2:=⟨_,rfl⟩;rw[hI,hW2] at hb;simp only[hI,hW2];have hb1:kO w d s ai zn ci L I W2.drew:=by rw[<- hL];exact hb.drewN 1
   simp only[hL];have s1:=hb1.cells;clear hW2 hb x2 k2 b2 x1 b1 HY x0;refine et (S:=fun W=>af W L 0 (ad d.ino)/\af W L 1 (ad d.cl)/\af W L 2 (ad d.un)/\af W L 3 (.string d.rc)/\af W L 4 (.slice s.a1 d.pg.length s.c1)/\af W L 5 (.string d.aH)/\af W L 6 (.slice s.a2 d.po.length s.c2)/\af W L 7 (.slice s.a3 d.fr.length s.c3)/\af W I 3 (.slice ai zn ci)) (by kernel_rfl) ?_;refine aC 0 (bH d s) s1 ?_;refine fY (i:=1) (by kernel_rfl) rfl (by rfl) (.tmp 20) _ rfl (bH d s) (by rfl) (bh func72 (by kernel_rfl) rfl) ((iV.out _ hb1.ah).mono ?_);rintro e w3 ⟨rfl,b3⟩;have hb3:=hb1.below b3;have s3:=hb3.cells;refine ⟨_,rfl,s3,?_⟩;simp only[ao,Act.put,Nat.reduceAdd];refine aE 2 (.bool false) s3 ?_;refine aE 3 (.bool false) s3 ?_;refine aE 4 (.bool false) s3 ?_;refine aE 5 (.bool true) s3 ?_;refine aE 6 (.bool true) s3 ?_;refine aE 7 (.bool true) s3 ?_;refine aM 8 s3 ?_;refine aM 9 s3 ?_;refine aM 10 s3 ?_;refine aM 11 s3 ?_;refine aM 12 s3 ?_;refine aM 13 s3 ?_;refine aM 14 s3 ?_;refine aE 15 (.bool true) s3 ?_;refine aE 16 (.bool true) s3 ?_;refine aM 17 s3 ?_;refine aM 18 s3 ?_;refine aM 19 s3 ?_;refine aM 20 s3 ?_;refine aM 21 s3 ?_;refine aM 22 s3 ?_;refine aE 23 (.bool true) s3 ?_;refine dV (by kernel_rfl) ?_ _;go_wp2;go_ret;exact ⟨rfl,hb3.ah⟩
  | true=>
   rw[hl] at oS;clear hl;by_cases hrc:d.rc=ar m d.ino;rotate_left
   ·have e1:=Cu hrc;rw[bq hrc];clear hrc hgz;go_enter func33,ntmps33;go_wp2_with (go_at_call 81;refine (oS.out _).mono ?_;rintro e w1 ⟨kk,oo,tt,ai,zn,ci,xx,rfl,b1,hy⟩;have x1:=x0.below b1;have HY:Hid _:=hy;clear hy);have b2:=aB w1 (.cells (bj kk oo tt ai zn ci) 117);have k2:=bu [ad kk,ad oo,ad tt,.slice ai zn ci] w1 117;have x2:=x1.below b2;have hb:kO w d s ai zn ci w.heap.size w1.heap.size (w1.alloc (.cells (bj kk oo tt ai zn ci) 117)):=⟨x2.arg,k2.c3,k2.lt,x2.ah⟩;obtain ⟨L,hL⟩:∃ L,w.heap.size=L:=⟨_,rfl⟩;obtain ⟨I,hI⟩:∃ I,w1.heap.size=I:=⟨_,rfl⟩;obtain ⟨W2,hW2⟩:∃ W2,w1.alloc (.cells (bj kk oo tt ai zn ci) 117)=W2:=⟨_,rfl⟩;rw[hI,hW2] at hb;simp only[hI,hW2];have hb1:kO w d s ai zn ci L I W2.drew:=by
     rw[<- hL];exact hb.drewN 1
    simp only[hL];have s1:=hb1.cells;clear hW2 hb x2 k2 b2 x1 b1 HY x0;refine et (S:=fun W=>af W L 0 (ad d.ino)/\af W L 1 (ad d.cl)/\af W L 2 (ad d.un)/\af W L 3 (.string d.rc)/\af W L 4 (.slice s.a1 d.pg.length s.c1)/\af W L 5 (.string d.aH)/\af W L 6 (.slice s.a2 d.po.length s.c2)/\af W L 7 (.slice s.a3 d.fr.length s.c3)/\af W I 3 (.slice ai zn ci)) (by kernel_rfl) ?_;refine aC 0 (bH d s) s1 ?_;refine fY (i:=1) (by kernel_rfl) rfl (by rfl) (.tmp 20) _ rfl (bH d s) (by rfl) (bh func72 (by kernel_rfl) rfl) ((iV.out _ hb1.ah).mono ?_);rintro e w3 ⟨rfl,b3⟩;have hb3:=hb1.below b3;have s3:=hb3.cells;refine ⟨_,rfl,s3,?_⟩;simp only[ao,Act.put,Nat.reduceAdd];refine aE 2 (.bool false) s3 ?_;refine aE 3 (.bool false) s3 ?_;refine aE 4 (.bool true) s3 ?_;refine aE 5 (.bool false) s3 ?_;refine aE 6 (.bool false) s3 ?_;refine aE 7 (.bool false) s3 ?_;refine aC 8 (aD L 3) s3 ?_;refine aC 9 (.string d.rc) s3 ?_;refine aE 10 (.string m) s3 ?_;refine aC 11 (aD L 0) s3 ?_;refine aC 12 (ad d.ino) s3 ?_;refine jm (i:=13) (by kernel_rfl) rfl (by rfl) (.tmp 30) (.tmp 32) _ rfl (.string m) (ad d.ino) (by rfl) (by rfl) (bh func85 (by kernel_rfl) rfl) ((ry.out _ _).mono ?_);rintro e w4 ⟨rfl,rfl⟩;refine ⟨_,rfl,s3,?_⟩;simp only[ao,Act.put,Nat.reduceAdd];refine aC 14 (.bool true) s3 ?_;refine aE 15 (.bool true) s3 ?_;refine aE 16 (.bool true) s3 ?_;refine aM 17 s3 ?_;refine aM 18 s3 ?_;refine aM 19 s3 ?_;refine aM 20 s3 ?_;refine aM 21 s3 ?_;refine aM 22 s3 ?_;refine aE 23 (.bool true) s3 ?_;refine dV (by kernel_rfl) ?_ _;go_wp2;go_ret;exact ⟨rfl,hb3.ah⟩
   ·have e1:=JS hrc;rw[bF hrc];have Vu:Hid (d.rc=ar m d.ino):=hrc;have WG:Hid (aN d.rc=d.pg):=hgz;clear hrc hgz;go_enter func33,ntmps33;go_wp2_with (go_at_call 81;refine (oS.out _).mono ?_;rintro e w1 ⟨kk,oo,tt,ai,zn,ci,xx,rfl,b1,hy⟩;have x1:=x0.below b1;have HY:Hid _:=hy;clear hy);have b2:=aB w1 (.cells (bj kk oo tt ai zn ci) 117);have k2:=bu [ad kk,ad oo,ad tt,.slice ai zn ci] w1 117;have x2:=x1.below b2;have hb:kO w d s ai zn ci w.heap.size w1.heap.size (w1.alloc (.cells (bj kk oo tt ai zn ci) 117)):=⟨x2.arg,k2.c3,k2.lt,x2.ah⟩;obtain ⟨L,hL⟩:∃ L,w.heap.size=L:=⟨_,rfl⟩;obtain ⟨I,hI⟩:∃ I,w1.heap.size=I:=⟨_,rfl⟩;obtain ⟨W2,hW2⟩:∃ W2,w1.alloc (.cells (bj kk oo tt ai zn ci) 117)=W2:=⟨_,rfl⟩;obtain ⟨hzn,hrz⟩:=HY.out (by trivial);have hrc:=Vu.out;have hgz:=WG.out;have MV:=hrz.below b2;rw[hW2] at MV;have Wm:Hid (∀ W,aj w W->aj W2 W->Calls prog 86 #[.slice ai zn ci,.slice s.a1 d.pg.length s.c1] W fun e w'=>e=.returned (.bool true)/\∃ n,w'=W.drewN n):=fun W h1 h2=>by
     have h:=Ev ai s.a1 ci s.c1 (aN (ar m d.ino)) d.pg W (by rw[<- hrc,hgz];omega) (by omega) (MV.below h2) (HL.out W h1).r1;rw[<- hzn,bF (show aN (ar m d.ino)=d.pg by rw[<- hrc];exact hgz)] at h;exact h
    clear hzn hrz MV hrc hgz;rw[hI,hW2] at hb;simp only[hI,hW2];have hb1:kO w d s ai zn ci L I W2.drew:=by rw[<- hL];exact hb.drewN 1
    simp only[hL];have s1:=hb1.cells;clear hW2 hb x2 k2 b2 x1 b1 HY x0;refine et (S:=fun W=>af W L 0 (ad d.ino)/\af W L 1 (ad d.cl)/\af W L 2 (ad d.un)/\af W L 3 (.string d.rc)/\af W L 4 (.slice s.a1 d.pg.length s.c1)/\af W L 5 (.string d.aH)/\af W L 6 (.slice s.a2 d.po.length s.c2)/\af W L 7 (.slice s.a3 d.fr.length s.c3)/\af W I 3 (.slice ai zn ci)) (by kernel_rfl) ?_;refine aC 0 (bH d s) s1 ?_;refine fY (i:=1) (by kernel_rfl) rfl (by rfl) (.tmp 20) _ rfl (bH d s) (by rfl) (bh func72 (by kernel_rfl) rfl) ((iV.out _ hb1.ah).mono ?_);rintro e w3 ⟨rfl,b3⟩;have hb3:=hb1.below b3;have s3:=hb3.cells;refine ⟨_,rfl,s3,?_⟩;simp only[ao,Act.put,Nat.reduceAdd];refine aE 2 (.bool false) s3 ?_;refine aE 3 (.bool false) s3 ?_;refine aE 4 (.bool true) s3 ?_;refine aE 5 (.bool false) s3 ?_;refine aE 6 (.bool false) s3 ?_;refine aE 7 (.bool false) s3 ?_;refine aC 8 (aD L 3) s3 ?_;refine aC 9 (.string d.rc) s3 ?_;refine aE 10 (.string m) s3 ?_;refine aC 11 (aD L 0) s3 ?_;refine aC 12 (ad d.ino) s3 ?_;refine jm (i:=13) (by kernel_rfl) rfl (by rfl) (.tmp 30) (.tmp 32) _ rfl (.string m) (ad d.ino) (by rfl) (by rfl) (bh func85 (by kernel_rfl) rfl) ((ry.out _ _).mono ?_);rintro e w4 ⟨rfl,rfl⟩;refine ⟨_,rfl,s3,?_⟩;simp only[ao,Act.put,Nat.reduceAdd];refine aC 14 (.bool false) s3 ?_;refine aE 15 (.bool false) s3 ?_;refine aE 16 (.bool false) s3 ?_;refine aC 17 (aD I 3) s3 ?_;refine aC 18 (.slice ai zn ci) s3 ?_;refine aC 19 (aD L 4) s3 ?_;refine aC 20 (.slice s.a1 d.pg.length s.c1) s3 ?_;refine jm (i:=21) (by kernel_rfl) rfl (by rfl) (.tmp 38) (.tmp 40) _ rfl (.slice ai zn ci) (.slice s.a1 d.pg.length s.c1) (by rfl) (by rfl) (bh func86 (by kernel_rfl) rfl) ((Wm.out _ (hb1.below b3).ah (show aj W2 _ from ⟨b3.os,b3.tape,b3.output,b3.size,b3.block⟩)).mono ?_)
    rintro e w5 ⟨rfl,n5,rfl⟩;have hb5:=hb3.drewN n5;have s5:=hb5.cells;refine ⟨_,rfl,s5,?_⟩;simp only[ao,Act.put,Nat.reduceAdd];refine aE 22 (.bool false) s5 ?_;refine aE 23 (.bool false) s5 ?_;refine dV (by kernel_rfl) ?_ _;clear s1 s3 s5 hb3 hb1 b3 Wm oS iV e1 Vu WG;go_wp2;go_loopw [10] (fun i w'=>∃ k:Nat,k<=d.pg.length/\bC (tY m d) k=true/\i=ad k/\kO w d s ai zn ci L I w') (fun i _=>d.pg.length-(intOf i).toNat);case atStart=>exact ⟨0,aS _,rfl,rfl,hb5⟩
    case round=>
    obtain ⟨k,hk,hto,rfl,xr⟩:=hrel;clear hb5;have c4:=xr.lb.c4;have c5:=xr.lb.c5;by_cases hlt:k<d.pg.length
    ·obtain ⟨b,off,hab,_,hcell⟩:=(HL.out _ xr.ah).r1.get hlt;have y1:=hcell k hlt;have hz:=fN k hlt;have hat:tY m d k=decide (aO d.aH ((k:Int)*32) 32=aO m (d.pg.getD k 0*32) 32):=rfl;obtain ⟨z,ez⟩:∃ z,d.pg.getD k 0=z:=⟨_,rfl⟩;rw[ez] at y1 hz hat;rw[hab] at c4;have e1:(0:Int)<=(k:Int):=by omega
     have e2:(k:Int)<(d.pg.length:Int):=by omega
     have hp1:Hid (∀ W,Calls prog 74 #[.string d.aH,ad (k:Int)] W (dp (.string (aO d.aH ((k:Int)*32) 32)) W)):=fun W=>Ra _ _ _ hss (by omega);have hp2:Hid (∀ W,_):=fun W=>BY m z W (by omega) hz.1 hz.2;clear hab ez hcell;by_cases heq:aO d.aH ((k:Int)*32) 32=aO m (z*32) 32
     ·have e3:((aO d.aH ((k:Int)*32) 32).toList == (aO m (z*32) 32).toList)=true:=by rw[heq];simp
      rw[bF heq] at hat;have HT:Hid (bC (tY m d) (k+1)=true):=jW hto hat;clear hat heq;go_wp2;go_quiet ((first
       | (go_at_call 74;exact mB (hp1.out _))
       | (go_at_call 74;exact mB (hp2.out _))))
      have x5:=xr.drewN nq;go_wp2;refine ⟨⟨k+1,by omega,HT.out,by go_num,x5⟩,?_⟩;simp[intOf];omega
     have e3:((aO d.aH ((k:Int)*32) 32).toList == (aO m (z*32) 32).toList)=false:=Hz.2 (Cu heq);rw[bq heq] at hat;have HT:Hid (bC (tY m d) d.pg.length=false):=jD hlt hat;clear hat heq;go_wp2;go_quiet ((first
      | (go_at_call 74;exact mB (hp1.out _))
      | (go_at_call 74;exact mB (hp2.out _))))
     have x5:=xr.drewN nq;go_wp2;go_ret;exact ⟨by rw[HT.out];rfl,x5.ah⟩
    obtain rfl:k=d.pg.length:=by omega
    have WC:Hid (bC (tY m d) d.pg.length=true):=hto;clear c5 hto;go_wp2;go_loopw [11] (fun i w'=>∃ k:Nat,k<=d.fr.length/\bC (ub m d) k=true/\i=ad k/\kO w d s ai zn ci L I w') (fun i _=>d.fr.length-(intOf i).toNat);case atStart=>exact ⟨0,aS _,rfl,rfl,xr⟩
    case round=>
    rename_i wr2;obtain ⟨j,hj,M0,rfl,xq⟩:=hrel;clear xr c4;have c7:=xq.lb.c7;by_cases hlt2:j<d.fr.length
    ·obtain ⟨b,off,hab,_,hcell⟩:=(HL.out _ xq.ah).r3.get hlt2;have y1:=hcell j hlt2;have hat:ub m d j=decide (ar m (d.fr.getD j 0)=bB 16):=rfl;obtain ⟨z,ez⟩:∃ z,d.fr.getD j 0=z:=⟨_,rfl⟩;rw[ez] at y1 hat;rw[hab] at c7;have e1:(0:Int)<=(j:Int):=by omega
     have e2:(j:Int)<(d.fr.length:Int):=by omega
     clear hab ez hcell;by_cases heq:ar m z=bB 16
     ·have e3:((ar m z).toList == (bB 16).toList)=true:=by rw[heq];simp
      rw[bF heq] at hat;have HT:Hid (bC (ub m d) (j+1)=true):=jW M0 hat;clear hat heq;go_wp2_with (first
       | (go_at_call 85;refine (ry.out _ _).mono ?_;rintro e w' ⟨rfl,rfl⟩)
       | (go_at_call 75;refine (nj _ _).mono ?_;rintro e w' ⟨rfl,rfl⟩))
      refine ⟨⟨j+1,by omega,HT.out,by go_num,xq⟩,?_⟩;simp[intOf];omega
     have e3:((ar m z).toList == (bB 16).toList)=false:=Hz.2 (Cu heq);rw[bq heq] at hat;have HT:Hid (bC (ub m d) d.fr.length=false):=jD hlt2 hat;clear hat heq;go_wp2_with (first
      | (go_at_call 85;refine (ry.out _ _).mono ?_;rintro e w' ⟨rfl,rfl⟩)
      | (go_at_call 75;refine (nj _ _).mono ?_;rintro e w' ⟨rfl,rfl⟩))
     go_ret;exact ⟨by rw[HT.out,WC.out];rfl,xq.ah⟩
    obtain rfl:j=d.fr.length:=by omega
    have HTF:Hid (bC (ub m d) d.fr.length=true):=M0;clear M0;have c6:=xq.lb.c6;go_wp2_with (go_at_call 87;refine (HOn.out _ xq.ah).mono ?_;rintro e w6 ⟨a6,tl,rfl,b6⟩);go_ret;refine ⟨?_,xq.ah.trans (b6.mono xq.ah.size)⟩;rw[HTF.out,WC.out];have hd:((((dF (db true d.po us)).length:Nat):Int) == 0)=decide ((dF (db true d.po us)).length=0):=by
     by_cases h0:(dF (db true d.po us)).length=0
     ·rw[bF h0,h0];rfl
     rw[bq h0];exact Hz.2 (by omega)
    rw[<- hd];rfl
end
def oD (k:aL) (j:Nat):Bool:=ud (bM k) (cY (bM k)) (au k.ds j) && (decide (j=0) || decide ((au k.ds (j-1)).ino<(au k.ds j).ino))
def FW (k:aL):Bool:=(ju k.mem k.ds k.ds.length).toList == (ju k.ay k.ds k.ds.length).toList
def FX (k:aL):Bool:=cT k.mem k.ay && (aW k.ck 0 999999 && (cv (bM k) && (dM (bD (fun d:ak=>d.po) k.ds k.ds.length) && (dM (bD (fun d:ak=>d.ino :: d.fr) k.ds k.ds.length) && (FW k && bC (oD k) k.ds.length)))))
theorem Sr (k:aL):(bM k).size=k.mem.size:=ml _ _ _
theorem xJ (k:aL) (a:Option Addr) (c:Nat) (ss:Nat->aA) (w:World) (hm1:k.mem.size<=1048576) (hm2:k.ay.size<=1048576) (ht:k.ds.length+ft k.ds k.ds.length<=1048576) (hF:jJ k.ds ss) (hR:aZ w a k.ds ss):Calls prog 9 #[aU k a c] w (aT (.bool (FX k)) w):=by
 have xc:=tU w k a c;have hn:k.ds.length<=1048576:=by omega
 have hg1:(bD (fun d:ak=>d.po) k.ds k.ds.length).length<=1048576:=by have h1:=qb (fun d:ak=>d.po) k.ds 0 (fun d=>by unfold fD;omega) k.ds.length;omega
 have hg2:(bD (fun d:ak=>d.ino :: d.fr) k.ds k.ds.length).length<=1048576:=by have h1:=qb (fun d:ak=>d.ino :: d.fr) k.ds 0 (fun d=>by unfold fD;simp only[dA];omega) k.ds.length;omega
 have agI:=Sr k;have HL:Hid (∀ W,aj w W->aZ W a k.ds ss):=fun W hb=>hR.below hb;have HF:Hid (jJ k.ds ss):=hF;have rK:Hid (∀ W,aj w W->Calls prog 24 #[aU k a c] W (aT (.string (bM k)) W)):=fun W hb=>FD k a c ss W (by omega) hn hF (hR.below hb);have jP:Hid (∀ W,Calls prog 25 #[.agg #[.string k.mem,.string k.ay]] W (aT (.bool (cT k.mem k.ay)) W)):=fun W=>(IF k.mem k.ay W (by unfold maxLen;omega) (by unfold maxLen;omega)).mono fun e w' ⟨he,hw⟩=>⟨he,by rw[hw];exact aB _ _⟩;have uq:Hid (∀ W,Calls prog 27 #[.string (bM k)] W (aT (.bool (cv (bM k))) W)):=fun W=>RQ (bM k) W (by omega);have Lt:Hid (∀ W,Calls prog 32 #[.string (bM k)] W fun e w'=>∃ a c,e=.returned (.slice a (cY (bM k)).length c)/\aI w' a (cY (bM k))/\aj W w'):=fun W=>(adx (bM k) W (by omega)).mono fun e w' ⟨a,c,he,ho,hb⟩=>⟨a,c,he,ho.row,hb⟩;have sZ:Hid (∀ W,aj w W->Calls prog 29 #[aU k a c] W (tV (bD (fun d:ak=>d.po) k.ds k.ds.length) W)):=fun W hb=>Rz k a c ss W hn ht (hR.below hb);have kq:Hid (∀ W,aj w W->Calls prog 30 #[aU k a c] W (tV (bD (fun d:ak=>d.ino :: d.fr) k.ds k.ds.length) W)):=fun W hb=>JL k a c ss W hn ht (hR.below hb);have CQ:Hid (∀ W,aj w W->Calls prog 31 #[aU k a c] W (aT (.bool (FW k)) W)):=fun W hb=>adJ k a c ss W (by omega) (by omega) hn hF (hR.below hb);have HT1:Hid (∀ a c W,(bD (fun d:ak=>d.po) k.ds k.ds.length).length<=c->aI W a (bD (fun d:ak=>d.po) k.ds k.ds.length)->Calls prog 28 #[.slice a (bD (fun d:ak=>d.po) k.ds k.ds.length).length c] W fun e w'=>e=.returned (.bool (!(dM (bD (fun d:ak=>d.po) k.ds k.ds.length))))/\∃ n,w'=W.drewN n):=fun a c W hc h=>RM a c _ W (by omega) hc h;have HT2:Hid (∀ a c W,(bD (fun d:ak=>d.ino :: d.fr) k.ds k.ds.length).length<=c->aI W a (bD (fun d:ak=>d.ino :: d.fr) k.ds k.ds.length)->Calls prog 28 #[.slice a (bD (fun d:ak=>d.ino :: d.fr) k.ds k.ds.length).length c] W fun e w'=>e=.returned (.bool (!(dM (bD (fun d:ak=>d.ino :: d.fr) k.ds k.ds.length))))/\∃ n,w'=W.drewN n):=fun a c W hc h=>RM a c _ W (by omega) hc h
 have Hm:Hid (∀ (j:Nat) (ua:Option Addr) (uc:Nat) W,(bM k).size=768->aj w W->aI W ua (cY (bM k))->j<k.ds.length->Calls prog 33 #[.string (bM k),.slice ua (cY (bM k)).length uc,bH (au k.ds j) (ss j)] W (aT (.bool (ud (bM k) (cY (bM k)) (au k.ds j))) W)):=fun j ua uc W h1 hb hu hj=>by obtain ⟨f1,f2,f3⟩:=hF j hj;exact adW (bM k) ua uc (cY (bM k)) (au k.ds j) (ss j) W h1 f1 f2 f3 (JN _) ((hR.below hb).sub j hj) hu
 have HD:Hid (cT k.mem k.ay=true->(bM k).size=768):=fun h=>by rw[Sr];exact (nW h).1
 have c0:=xc.arg.c0;have c1:=xc.arg.c1;have c2:=xc.arg.c2;have c3:=xc.arg.c3;clear hR hF;unfold FX;obtain ⟨m,em⟩:∃ m,bM k=m:=⟨_,rfl⟩;obtain ⟨us,eu⟩:∃ us,cY m=us:=⟨_,rfl⟩;rw[em,eu] at Lt Hm;rw[em] at rK uq HD ⊢;obtain ⟨g1,Uy⟩:∃ g,bD (fun d:ak=>d.po) k.ds k.ds.length=g:=⟨_,rfl⟩;obtain ⟨g2,Vy⟩:∃ g,bD (fun d:ak=>d.ino :: d.fr) k.ds k.ds.length=g:=⟨_,rfl⟩;rw[Uy] at sZ HT1 ⊢;rw[Vy] at kq HT2 ⊢;have My:Hid (∀ j,oD k j=(ud m us (au k.ds j) && (decide (j=0) || decide ((au k.ds (j-1)).ino<(au k.ds j).ino)))):=fun j=>by
  show oD k j=_
  unfold oD;rw[em,eu]
 clear em eu Uy Vy agI hg1 hg2;cases hc0:cT k.mem k.ay with
 | false=>
  rw[hc0] at jP;go_enter func9,ntmps9;go_wp2_with (first
   | (go_at_call 24;refine (rK.out _ xc.ah).mono ?_;rintro e w1 ⟨rfl,b1⟩;replace xc:=xc.below b1;replace c0:=xc.arg.c0;replace c1:=xc.arg.c1;replace c2:=xc.arg.c2;replace c3:=xc.arg.c3)
   | (go_at_call 25;refine (jP.out _).mono ?_;rintro e w1 ⟨rfl,b1⟩;replace xc:=xc.below b1;replace c0:=xc.arg.c0;replace c1:=xc.arg.c1;replace c2:=xc.arg.c2;replace c3:=xc.arg.c3))
  go_ret;exact ⟨rfl,xc.ah⟩
 | true=>
  rw[hc0] at jP;have hm:m.size=768:=HD.out hc0;cases hc1:aW k.ck 0 999999 with
  | false=>
   go_enter func9,ntmps9;go_wp2_with (first
    | (go_at_call 24;refine (rK.out _ xc.ah).mono ?_;rintro e w1 ⟨rfl,b1⟩;replace xc:=xc.below b1;replace c0:=xc.arg.c0;replace c1:=xc.arg.c1;replace c2:=xc.arg.c2;replace c3:=xc.arg.c3)
    | (go_at_call 25;refine (jP.out _).mono ?_;rintro e w1 ⟨rfl,b1⟩;replace xc:=xc.below b1;replace c0:=xc.arg.c0;replace c1:=xc.arg.c1;replace c2:=xc.arg.c2;replace c3:=xc.arg.c3)
    | (go_at_call 26;refine (cH _ _ _ _).mono ?_;rintro e w' ⟨rfl,rfl⟩))
   go_ret;exact ⟨rfl,xc.ah⟩
  | true=>
   cases hc2:cv m with
   | false=>
    rw[hc2] at uq;go_enter func9,ntmps9;go_wp2_with (first
     | (go_at_call 24;refine (rK.out _ xc.ah).mono ?_;rintro e w1 ⟨rfl,b1⟩;replace xc:=xc.below b1;replace c0:=xc.arg.c0;replace c1:=xc.arg.c1;replace c2:=xc.arg.c2;replace c3:=xc.arg.c3)
     | (go_at_call 25;refine (jP.out _).mono ?_;rintro e w1 ⟨rfl,b1⟩;replace xc:=xc.below b1;replace c0:=xc.arg.c0;replace c1:=xc.arg.c1;replace c2:=xc.arg.c2;replace c3:=xc.arg.c3)
     | (go_at_call 26;refine (cH _ _ _ _).mono ?_;rintro e w' ⟨rfl,rfl⟩)
     | (go_at_call 27;refine (uq.out _).mono ?_;rintro e w1 ⟨rfl,b1⟩;replace xc:=xc.below b1;replace c0:=xc.arg.c0;replace c1:=xc.arg.c1;replace c2:=xc.arg.c2;replace c3:=xc.arg.c3))
    go_ret;exact ⟨rfl,xc.ah⟩
   | true=>
    rw[hc2] at uq;cases hc3:dM g1 with
    | false=>
     rw[hc3] at HT1;go_enter func9,ntmps9;go_wp2_with (first
      | (go_at_call 24;refine (rK.out _ xc.ah).mono ?_;rintro e w1 ⟨rfl,b1⟩;replace xc:=xc.below b1;replace c0:=xc.arg.c0;replace c1:=xc.arg.c1;replace c2:=xc.arg.c2;replace c3:=xc.arg.c3)
      | (go_at_call 25;refine (jP.out _).mono ?_;rintro e w1 ⟨rfl,b1⟩;replace xc:=xc.below b1;replace c0:=xc.arg.c0;replace c1:=xc.arg.c1;replace c2:=xc.arg.c2;replace c3:=xc.arg.c3)
      | (go_at_call 26;refine (cH _ _ _ _).mono ?_;rintro e w' ⟨rfl,rfl⟩)
      | (go_at_call 27;refine (uq.out _).mono ?_;rintro e w1 ⟨rfl,b1⟩;replace xc:=xc.below b1;replace c0:=xc.arg.c0;replace c1:=xc.arg.c1;replace c2:=xc.arg.c2;replace c3:=xc.arg.c3)
      | (go_at_call 29;refine (sZ.out _ xc.ah).mono ?_;rintro e w1 ⟨ga,gc,rfl,go1,rU,b1⟩;replace xc:=xc.below b1;replace c0:=xc.arg.c0;replace c1:=xc.arg.c1;replace c2:=xc.arg.c2;replace c3:=xc.arg.c3;have gr:=go1.row)
      | (go_at_call 28;refine (HT1.out _ _ _ rU gr).mono ?_;rintro e w1 ⟨rfl,n1,rfl⟩;replace xc:=xc.below (cL (aK _ _) n1);replace c0:=xc.arg.c0;replace c1:=xc.arg.c1;replace c2:=xc.arg.c2;replace c3:=xc.arg.c3;clear HT1 gr rU))
     go_ret;exact ⟨rfl,xc.ah⟩
    | true=>
     rw[hc3] at HT1;cases hc4:dM g2 with
     | false=>
      rw[hc4] at HT2;go_enter func9,ntmps9;go_wp2_with (first
       | (go_at_call 24;refine (rK.out _ xc.ah).mono ?_;rintro e w1 ⟨rfl,b1⟩;replace xc:=xc.below b1;replace c0:=xc.arg.c0;replace c1:=xc.arg.c1;replace c2:=xc.arg.c2;replace c3:=xc.arg.c3)
       | (go_at_call 25;refine (jP.out _).mono ?_;rintro e w1 ⟨rfl,b1⟩;replace xc:=xc.below b1;replace c0:=xc.arg.c0;replace c1:=xc.arg.c1;replace c2:=xc.arg.c2;replace c3:=xc.arg.c3)
       | (go_at_call 26;refine (cH _ _ _ _).mono ?_;rintro e w' ⟨rfl,rfl⟩)
       | (go_at_call 27;refine (uq.out _).mono ?_;rintro e w1 ⟨rfl,b1⟩;replace xc:=xc.below b1;replace c0:=xc.arg.c0;replace c1:=xc.arg.c1;replace c2:=xc.arg.c2;replace c3:=xc.arg.c3)
       | (go_at_call 29;refine (sZ.out _ xc.ah).mono ?_;rintro e w1 ⟨ga,gc,rfl,go1,rU,b1⟩;replace xc:=xc.below b1;replace c0:=xc.arg.c0;replace c1:=xc.arg.c1;replace c2:=xc.arg.c2;replace c3:=xc.arg.c3;have gr:=go1.row)
       | (go_at_call 30;refine (kq.out _ xc.ah).mono ?_;rintro e w1 ⟨ha,hc,rfl,ho1,hc1,b1⟩;replace xc:=xc.below b1;replace c0:=xc.arg.c0;replace c1:=xc.arg.c1;replace c2:=xc.arg.c2;replace c3:=xc.arg.c3;have hr:=ho1.row)
       | (go_at_call 28;refine (HT1.out _ _ _ rU gr).mono ?_;rintro e w1 ⟨rfl,n1,rfl⟩;replace xc:=xc.below (cL (aK _ _) n1);replace c0:=xc.arg.c0;replace c1:=xc.arg.c1;replace c2:=xc.arg.c2;replace c3:=xc.arg.c3;clear HT1 gr rU)
       | (go_at_call 28;refine (HT2.out _ _ _ hc1 hr).mono ?_;rintro e w1 ⟨rfl,n1,rfl⟩;replace xc:=xc.below (cL (aK _ _) n1);replace c0:=xc.arg.c0;replace c1:=xc.arg.c1;replace c2:=xc.arg.c2;replace c3:=xc.arg.c3))
      go_ret;exact ⟨rfl,xc.ah⟩
     | true=>
      rw[hc4] at HT2;cases Ut:FW k with
      | false=>
       rw[Ut] at CQ;go_enter func9,ntmps9;go_wp2_with (first
        | (go_at_call 24;refine (rK.out _ xc.ah).mono ?_;rintro e w1 ⟨rfl,b1⟩;replace xc:=xc.below b1;replace c0:=xc.arg.c0;replace c1:=xc.arg.c1;replace c2:=xc.arg.c2;replace c3:=xc.arg.c3)
        | (go_at_call 25;refine (jP.out _).mono ?_;rintro e w1 ⟨rfl,b1⟩;replace xc:=xc.below b1;replace c0:=xc.arg.c0;replace c1:=xc.arg.c1;replace c2:=xc.arg.c2;replace c3:=xc.arg.c3)
        | (go_at_call 26;refine (cH _ _ _ _).mono ?_;rintro e w' ⟨rfl,rfl⟩)
        | (go_at_call 27;refine (uq.out _).mono ?_;rintro e w1 ⟨rfl,b1⟩;replace xc:=xc.below b1;replace c0:=xc.arg.c0;replace c1:=xc.arg.c1;replace c2:=xc.arg.c2;replace c3:=xc.arg.c3)
        | (go_at_call 29;refine (sZ.out _ xc.ah).mono ?_;rintro e w1 ⟨ga,gc,rfl,go1,rU,b1⟩;replace xc:=xc.below b1;replace c0:=xc.arg.c0;replace c1:=xc.arg.c1;replace c2:=xc.arg.c2;replace c3:=xc.arg.c3;have gr:=go1.row)
        | (go_at_call 30;refine (kq.out _ xc.ah).mono ?_;rintro e w1 ⟨ha,hc,rfl,ho1,hc1,b1⟩;replace xc:=xc.below b1;replace c0:=xc.arg.c0;replace c1:=xc.arg.c1;replace c2:=xc.arg.c2;replace c3:=xc.arg.c3;have hr:=ho1.row)
        | (go_at_call 28;refine (HT1.out _ _ _ rU gr).mono ?_;rintro e w1 ⟨rfl,n1,rfl⟩;replace xc:=xc.below (cL (aK _ _) n1);replace c0:=xc.arg.c0;replace c1:=xc.arg.c1;replace c2:=xc.arg.c2;replace c3:=xc.arg.c3;clear HT1 gr rU)
        | (go_at_call 28;refine (HT2.out _ _ _ hc1 hr).mono ?_;rintro e w1 ⟨rfl,n1,rfl⟩;replace xc:=xc.below (cL (aK _ _) n1);replace c0:=xc.arg.c0;replace c1:=xc.arg.c1;replace c2:=xc.arg.c2;replace c3:=xc.arg.c3)
        | (go_at_call 31;refine (CQ.out _ xc.ah).mono ?_;rintro e w1 ⟨rfl,b1⟩;replace xc:=xc.below b1;replace c0:=xc.arg.c0;replace c1:=xc.arg.c1;replace c2:=xc.arg.c2;replace c3:=xc.arg.c3))
       go_ret;exact ⟨rfl,xc.ah⟩
      | true=>
       rw[Ut] at CQ;go_enter func9,ntmps9;go_wp2_with (first
        | (go_at_call 24;refine (rK.out _ xc.ah).mono ?_;rintro e w1 ⟨rfl,b1⟩;replace xc:=xc.below b1;replace c0:=xc.arg.c0;replace c1:=xc.arg.c1;replace c2:=xc.arg.c2;replace c3:=xc.arg.c3)
        | (go_at_call 25;refine (jP.out _).mono ?_;rintro e w1 ⟨rfl,b1⟩;replace xc:=xc.below b1;replace c0:=xc.arg.c0;replace c1:=xc.arg.c1;replace c2:=xc.arg.c2;replace c3:=xc.arg.c3)
        | (go_at_call 26;refine (cH _ _ _ _).mono ?_;rintro e w' ⟨rfl,rfl⟩)
        | (go_at_call 27;refine (uq.out _).mono ?_;rintro e w1 ⟨rfl,b1⟩;replace xc:=xc.below b1;replace c0:=xc.arg.c0;replace c1:=xc.arg.c1;replace c2:=xc.arg.c2;replace c3:=xc.arg.c3)
        | (go_at_call 29;refine (sZ.out _ xc.ah).mono ?_;rintro e w1 ⟨ga,gc,rfl,go1,rU,b1⟩;replace xc:=xc.below b1;replace c0:=xc.arg.c0;replace c1:=xc.arg.c1;replace c2:=xc.arg.c2;replace c3:=xc.arg.c3;have gr:=go1.row)
        | (go_at_call 30;refine (kq.out _ xc.ah).mono ?_;rintro e w1 ⟨ha,hc,rfl,ho1,hc1,b1⟩;replace xc:=xc.below b1;replace c0:=xc.arg.c0;replace c1:=xc.arg.c1;replace c2:=xc.arg.c2;replace c3:=xc.arg.c3;have hr:=ho1.row)
        | (go_at_call 28;refine (HT1.out _ _ _ rU gr).mono ?_;rintro e w1 ⟨rfl,n1,rfl⟩;replace xc:=xc.below (cL (aK _ _) n1);replace c0:=xc.arg.c0;replace c1:=xc.arg.c1;replace c2:=xc.arg.c2;replace c3:=xc.arg.c3;clear HT1 gr rU)
        | (go_at_call 28;refine (HT2.out _ _ _ hc1 hr).mono ?_;rintro e w1 ⟨rfl,n1,rfl⟩;replace xc:=xc.below (cL (aK _ _) n1);replace c0:=xc.arg.c0;replace c1:=xc.arg.c1;replace c2:=xc.arg.c2;replace c3:=xc.arg.c3)
        | (go_at_call 31;refine (CQ.out _ xc.ah).mono ?_;rintro e w1 ⟨rfl,b1⟩;replace xc:=xc.below b1;replace c0:=xc.arg.c0;replace c1:=xc.arg.c1;replace c2:=xc.arg.c2;replace c3:=xc.arg.c3)
        | (go_at_call 32;refine (Lt.out _).mono ?_;rintro e w1 ⟨ua,uc,rfl,ur,b1⟩;replace xc:=xc.below b1;replace c0:=xc.arg.c0;replace c1:=xc.arg.c1;replace c2:=xc.arg.c2;replace c3:=xc.arg.c3))
       have ru:=ur;clear c0 c1 c2 c3 rK jP uq Lt sZ kq CQ HT2 HD;go_loopw [5] (fun i w'=>∃ j:Nat,j<=k.ds.length/\bC (oD k) j=true/\i=ad j/\pY w k a c w'/\aI w' ua us) (fun i _=>k.ds.length-(intOf i).toNat);case atStart=>exact ⟨0,aS _,rfl,rfl,xc,ru⟩
       case round=>
        obtain ⟨j,hj,hto,rfl,xr,rr⟩:=hrel;clear xc ru ur;have c2:=xr.arg.c2;by_cases hlt:j<k.ds.length
        ·obtain ⟨b,off,hab,fW,hc⟩:=(HL.out _ xr.ah).row.get hlt;have hat:=My.out j;have HC:Hid (∀ W,aj w W->aI W ua us->Calls prog 33 #[.string m,.slice ua us.length uc,bH (au k.ds j) (ss j)] W (aT (.bool (ud m us (au k.ds j))) W)):=fun W h1 h2=>Hm.out j ua uc W hm h1 h2 hlt;have yA:Hid (∀ i,i<k.ds.length->∀ W,aj w W->mg W b (off+i*8) (au k.ds i) (ss i)):=fun i hi W hW=>by
          obtain ⟨b',off',hab',_,hc'⟩:=(HL.out W hW).row.get hlt;rw[hab] at hab';cases hab';exact hc' i hi
         have yo:Hid (∀ W,av w.heap.size (cU k a c) W->af W w.heap.size 2 (.slice (some ⟨b,off,none⟩) k.ds.length c)):=fun W h=>by have:=h.c2;rwa [hab] at this
         have HA1:Hid (∀ W,aj w W->mg W b (off+j*8) (au k.ds j) (ss j)):=fun W hW=>yA.out j hlt W hW;have GS:∀ p,p<j->Hid (∀ W,aj w W->af W b (off+p*8) (ad (au k.ds p).ino)):=fun p hp W hW=>(yA.out p (by omega) W hW).1;obtain ⟨d,ed⟩:∃ d,au k.ds j=d:=⟨_,rfl⟩;obtain ⟨s,es⟩:∃ s,ss j=s:=⟨_,rfl⟩;rw[ed,es] at HC HA1;rw[ed] at hat;rw[hab] at c2;have e1:(0:Int)<=(j:Int):=by omega
         have e2:(j:Int)<(k.ds.length:Int):=by omega
         have x0:pY w k a c wr.drew:=xr.below ((aK _ _).drew);have Am:aI wr.drew ua us:=rr.below ((aK _ _).drew);clear hab ed es hc yA Hm My HL HF;cases hok:ud m us d with
         | false=>
          rw[hok] at HC hat;have HT:Hid (bC (oD k) k.ds.length=false):=jD hlt hat;have HS:Hid (∀ W,aj w W->av w.heap.size (cU k a c) W->af W w.heap.size 2 (.slice (some ⟨b,off,none⟩) k.ds.length c)/\af W b (off+j*8) (ad d.ino)/\af W b (off+j*8+1) (ad d.cl)/\af W b (off+j*8+2) (ad d.un)/\af W b (off+j*8+3) (.string d.rc)/\af W b (off+j*8+4) (.slice s.a1 d.pg.length s.c1)/\af W b (off+j*8+5) (.string d.aH)/\af W b (off+j*8+6) (.slice s.a2 d.po.length s.c2)/\af W b (off+j*8+7) (.slice s.a3 d.fr.length s.c3)):=fun W h1 h2=>⟨yo.out W h2,HA1.out W h1⟩;have s0:=HS.out _ x0.ah x0.arg;clear hat hok GS;go_wp2;refine et (S:=fun W=>af W w.heap.size 2 (.slice (some ⟨b,off,none⟩) k.ds.length c)/\af W b (off+j*8) (ad d.ino)/\af W b (off+j*8+1) (ad d.cl)/\af W b (off+j*8+2) (ad d.un)/\af W b (off+j*8+3) (.string d.rc)/\af W b (off+j*8+4) (.slice s.a1 d.pg.length s.c1)/\af W b (off+j*8+5) (.string d.aH)/\af W b (off+j*8+6) (.slice s.a2 d.po.length s.c2)/\af W b (off+j*8+7) (.slice s.a3 d.fr.length s.c3)) (by kernel_rfl) ?_;refine aE 0 (.string m) s0 ?_;refine aE 1 (.slice ua us.length uc) s0 ?_;refine aC 2 (aD w.heap.size 2) s0 ?_;refine aC 3 (.slice (some ⟨b,off,none⟩) k.ds.length c) s0 ?_;refine aE 4 (ad (j:Int)) s0 ?_;refine aC 5 (aD b (off+j*8)) s0 ?_;refine aC 6 (bH d s) s0 ?_;refine uP (i:=7) (by kernel_rfl) rfl (by rfl) (.tmp 47) (.tmp 48) (.tmp 53) _ rfl (.string m) (.slice ua us.length uc) (bH d s) (by rfl) (by rfl) (by rfl) (bh func33 (by kernel_rfl) rfl) ((HC.out _ x0.ah Am).mono ?_);rintro e w3 ⟨rfl,b3⟩;have x3:=x0.below b3;have s3:=HS.out _ x3.ah x3.arg;refine ⟨_,rfl,s3,?_⟩;simp only[ao,Act.put,Nat.reduceAdd];refine aE 8 (.bool true) s3 ?_;refine aE 9 (.bool true) s3 ?_;refine aM 10 s3 ?_;refine aM 11 s3 ?_;refine aM 12 s3 ?_;refine aM 13 s3 ?_;refine aM 14 s3 ?_;refine aM 15 s3 ?_;refine aM 16 s3 ?_;refine aM 17 s3 ?_;refine aM 18 s3 ?_;refine aM 19 s3 ?_;refine aM 20 s3 ?_;refine aM 21 s3 ?_;refine aM 22 s3 ?_;refine aM 23 s3 ?_;refine aM 24 s3 ?_;refine aM 25 s3 ?_;refine aM 26 s3 ?_;refine aM 27 s3 ?_;refine aE 28 (.bool true) s3 ?_;refine dV (by kernel_rfl) ?_ _;go_wp2;go_ret;exact ⟨by rw[HT.out];rfl,x3.ah⟩
         | true=>
          rw[hok] at HC hat;clear hok;by_cases hj0:j=0
          ·have HT:Hid (bC (oD k) (j+1)=true):=jW hto (by rw[hat,bF hj0];rfl);have HS:Hid (∀ W,aj w W->av w.heap.size (cU k a c) W->af W w.heap.size 2 (.slice (some ⟨b,off,none⟩) k.ds.length c)/\af W b (off+j*8) (ad d.ino)/\af W b (off+j*8+1) (ad d.cl)/\af W b (off+j*8+2) (ad d.un)/\af W b (off+j*8+3) (.string d.rc)/\af W b (off+j*8+4) (.slice s.a1 d.pg.length s.c1)/\af W b (off+j*8+5) (.string d.aH)/\af W b (off+j*8+6) (.slice s.a2 d.po.length s.c2)/\af W b (off+j*8+7) (.slice s.a3 d.fr.length s.c3)):=fun W h1 h2=>⟨yo.out W h2,HA1.out W h1⟩;have s0:=HS.out _ x0.ah x0.arg;have e3:¬ (0:Int)<(j:Int):=by omega
           clear hat GS hj0;go_wp2;refine et (S:=fun W=>af W w.heap.size 2 (.slice (some ⟨b,off,none⟩) k.ds.length c)/\af W b (off+j*8) (ad d.ino)/\af W b (off+j*8+1) (ad d.cl)/\af W b (off+j*8+2) (ad d.un)/\af W b (off+j*8+3) (.string d.rc)/\af W b (off+j*8+4) (.slice s.a1 d.pg.length s.c1)/\af W b (off+j*8+5) (.string d.aH)/\af W b (off+j*8+6) (.slice s.a2 d.po.length s.c2)/\af W b (off+j*8+7) (.slice s.a3 d.fr.length s.c3)) (by kernel_rfl) ?_;refine aE 0 (.string m) s0 ?_;refine aE 1 (.slice ua us.length uc) s0 ?_;refine aC 2 (aD w.heap.size 2) s0 ?_;refine aC 3 (.slice (some ⟨b,off,none⟩) k.ds.length c) s0 ?_;refine aE 4 (ad (j:Int)) s0 ?_;refine aC 5 (aD b (off+j*8)) s0 ?_;refine aC 6 (bH d s) s0 ?_;refine uP (i:=7) (by kernel_rfl) rfl (by rfl) (.tmp 47) (.tmp 48) (.tmp 53) _ rfl (.string m) (.slice ua us.length uc) (bH d s) (by rfl) (by rfl) (by rfl) (bh func33 (by kernel_rfl) rfl) ((HC.out _ x0.ah Am).mono ?_);rintro e w3 ⟨rfl,b3⟩;have x3:=x0.below b3;have s3:=HS.out _ x3.ah x3.arg;refine ⟨_,rfl,s3,?_⟩;simp only[ao,Act.put,Nat.reduceAdd];refine aE 8 (.bool false) s3 ?_;refine aE 9 (.bool false) s3 ?_;refine aE 10 (ad (j:Int)) s3 ?_;refine bG (i:=11) (v:=.bool false) rfl (by kernel_rfl) (by kernel_rfl) (by kernel_rfl) (fun _ _ _ h=>h) (Or.inl ⟨by rfl,fun w' hS'=>?_⟩) s3 ?_
           ·obtain ⟨m2,q0,q1,q2,q3,q4,q5,q6,q7⟩:=hS';(go_simp;omega)
           simp only[ao,Act.put,Nat.reduceAdd];refine aE 12 (.bool false) s3 ?_;refine aM 13 s3 ?_;refine aM 14 s3 ?_;refine aM 15 s3 ?_;refine aM 16 s3 ?_;refine aM 17 s3 ?_;refine aM 18 s3 ?_;refine aM 19 s3 ?_;refine aM 20 s3 ?_;refine aM 21 s3 ?_;refine aM 22 s3 ?_;refine aM 23 s3 ?_;refine aM 24 s3 ?_;refine aM 25 s3 ?_;refine aM 26 s3 ?_;refine aE 27 (.bool false) s3 ?_;refine aE 28 (.bool false) s3 ?_;refine dV (by kernel_rfl) ?_ _;have r3:=Am.below b3;go_wp2;refine ⟨⟨j+1,by omega,HT.out,by go_num,x3,r3⟩,?_⟩;simp[intOf];omega
          ·obtain ⟨p,hp⟩:∃ p,j=p+1:=⟨j-1,by omega⟩;have eZ:=GS p (by omega);have hjp:j-1=p:=by omega
           rw[hjp,bq hj0,Hu,fe] at hat;obtain ⟨io,Wg⟩:∃ io,(au k.ds p).ino=io:=⟨_,rfl⟩;rw[Wg] at hat eZ;have HS:Hid (∀ W,aj w W->av w.heap.size (cU k a c) W->af W w.heap.size 2 (.slice (some ⟨b,off,none⟩) k.ds.length c)/\af W b (off+j*8) (ad d.ino)/\af W b (off+j*8+1) (ad d.cl)/\af W b (off+j*8+2) (ad d.un)/\af W b (off+j*8+3) (.string d.rc)/\af W b (off+j*8+4) (.slice s.a1 d.pg.length s.c1)/\af W b (off+j*8+5) (.string d.aH)/\af W b (off+j*8+6) (.slice s.a2 d.po.length s.c2)/\af W b (off+j*8+7) (.slice s.a3 d.fr.length s.c3)/\af W b (off+p*8) (ad io)):=fun W h1 h2=>⟨yo.out W h2,(HA1.out W h1).1,(HA1.out W h1).2.1,(HA1.out W h1).2.2.1,(HA1.out W h1).2.2.2.1,(HA1.out W h1).2.2.2.2.1,(HA1.out W h1).2.2.2.2.2.1,(HA1.out W h1).2.2.2.2.2.2.1,(HA1.out W h1).2.2.2.2.2.2.2,eZ.out W h1⟩;have s0:=HS.out _ x0.ah x0.arg;have e3':(0:Int)<(j:Int):=by omega
           have e4:IntKind.i64.wrap ((j:Int)-1)=(p:Int):=by rw[se];omega
           have e5:(0:Int)<=(p:Int):=by omega
           have e6:(p:Int)<(k.ds.length:Int):=by omega
           clear GS hjp Wg hj0;by_cases hlo:io<d.ino
           ·have e7:¬ d.ino<=io:=by omega
            have HT:Hid (bC (oD k) (j+1)=true):=jW hto (by rw[hat,bF hlo]);clear hat hp;go_wp2;refine et (S:=fun W=>af W w.heap.size 2 (.slice (some ⟨b,off,none⟩) k.ds.length c)/\af W b (off+j*8) (ad d.ino)/\af W b (off+j*8+1) (ad d.cl)/\af W b (off+j*8+2) (ad d.un)/\af W b (off+j*8+3) (.string d.rc)/\af W b (off+j*8+4) (.slice s.a1 d.pg.length s.c1)/\af W b (off+j*8+5) (.string d.aH)/\af W b (off+j*8+6) (.slice s.a2 d.po.length s.c2)/\af W b (off+j*8+7) (.slice s.a3 d.fr.length s.c3)/\af W b (off+p*8) (ad io)) (by kernel_rfl) ?_;refine aE 0 (.string m) s0 ?_;refine aE 1 (.slice ua us.length uc) s0 ?_;refine aC 2 (aD w.heap.size 2) s0 ?_;refine aC 3 (.slice (some ⟨b,off,none⟩) k.ds.length c) s0 ?_;refine aE 4 (ad (j:Int)) s0 ?_;refine aC 5 (aD b (off+j*8)) s0 ?_;refine aC 6 (bH d s) s0 ?_;refine uP (i:=7) (by kernel_rfl) rfl (by rfl) (.tmp 47) (.tmp 48) (.tmp 53) _ rfl (.string m) (.slice ua us.length uc) (bH d s) (by rfl) (by rfl) (by rfl) (bh func33 (by kernel_rfl) rfl) ((HC.out _ x0.ah Am).mono ?_);rintro e w3 ⟨rfl,b3⟩;have x3:=x0.below b3;have s3:=HS.out _ x3.ah x3.arg;refine ⟨_,rfl,s3,?_⟩;simp only[ao,Act.put,Nat.reduceAdd];refine aE 8 (.bool false) s3 ?_;refine aE 9 (.bool false) s3 ?_;refine aE 10 (ad (j:Int)) s3 ?_;refine bG (i:=11) (v:=.bool true) rfl (by kernel_rfl) (by kernel_rfl) (by kernel_rfl) (fun _ _ _ h=>h) (Or.inl ⟨by rfl,fun w' hS'=>?_⟩) s3 ?_
            ·obtain ⟨m2,q0,q1,q2,q3,q4,q5,q6,q7,r0⟩:=hS';(go_simp;omega)
            simp only[ao,Act.put,Nat.reduceAdd];refine aE 12 (.bool true) s3 ?_;refine aC 13 (aD w.heap.size 2) s3 ?_;refine aC 14 (.slice (some ⟨b,off,none⟩) k.ds.length c) s3 ?_;refine aE 15 (ad (j:Int)) s3 ?_;refine aC 16 (aD b (off+j*8)) s3 ?_;refine aC 17 (aD b (off+j*8)) s3 ?_;refine aC 18 (ad d.ino) s3 ?_;refine aC 19 (aD w.heap.size 2) s3 ?_;refine aC 20 (.slice (some ⟨b,off,none⟩) k.ds.length c) s3 ?_;refine aE 21 (ad (j:Int)) s3 ?_;refine aC 22 (ad (p:Int)) s3 ?_;refine aC 23 (aD b (off+p*8)) s3 ?_;refine aC 24 (aD b (off+p*8)) s3 ?_;refine aC 25 (ad io) s3 ?_;refine aC 26 (.bool false) s3 ?_;refine aE 27 (.bool false) s3 ?_;refine aE 28 (.bool false) s3 ?_;refine dV (by kernel_rfl) ?_ _;have r3:=Am.below b3;go_wp2;refine ⟨⟨j+1,by omega,HT.out,by go_num,x3,r3⟩,?_⟩;simp[intOf];omega
           have e7:d.ino<=io:=by omega
           have HT:Hid (bC (oD k) k.ds.length=false):=jD hlt (by rw[hat,bq hlo]);clear hat hp;go_wp2;refine et (S:=fun W=>af W w.heap.size 2 (.slice (some ⟨b,off,none⟩) k.ds.length c)/\af W b (off+j*8) (ad d.ino)/\af W b (off+j*8+1) (ad d.cl)/\af W b (off+j*8+2) (ad d.un)/\af W b (off+j*8+3) (.string d.rc)/\af W b (off+j*8+4) (.slice s.a1 d.pg.length s.c1)/\af W b (off+j*8+5) (.string d.aH)/\af W b (off+j*8+6) (.slice s.a2 d.po.length s.c2)/\af W b (off+j*8+7) (.slice s.a3 d.fr.length s.c3)/\af W b (off+p*8) (ad io)) (by kernel_rfl) ?_;refine aE 0 (.string m) s0 ?_;refine aE 1 (.slice ua us.length uc) s0 ?_;refine aC 2 (aD w.heap.size 2) s0 ?_;refine aC 3 (.slice (some ⟨b,off,none⟩) k.ds.length c) s0 ?_;refine aE 4 (ad (j:Int)) s0 ?_;refine aC 5 (aD b (off+j*8)) s0 ?_;refine aC 6 (bH d s) s0 ?_;refine uP (i:=7) (by kernel_rfl) rfl (by rfl) (.tmp 47) (.tmp 48) (.tmp 53) _ rfl (.string m) (.slice ua us.length uc) (bH d s) (by rfl) (by rfl) (by rfl) (bh func33 (by kernel_rfl) rfl) ((HC.out _ x0.ah Am).mono ?_);rintro e w3 ⟨rfl,b3⟩;have x3:=x0.below b3;have s3:=HS.out _ x3.ah x3.arg;refine ⟨_,rfl,s3,?_⟩;simp only[ao,Act.put,Nat.reduceAdd];refine aE 8 (.bool false) s3 ?_;refine aE 9 (.bool false) s3 ?_;refine aE 10 (ad (j:Int)) s3 ?_;refine bG (i:=11) (v:=.bool true) rfl (by kernel_rfl) (by kernel_rfl) (by kernel_rfl) (fun _ _ _ h=>h) (Or.inl ⟨by rfl,fun w' hS'=>?_⟩) s3 ?_
           ·obtain ⟨m2,q0,q1,q2,q3,q4,q5,q6,q7,r0⟩:=hS';(go_simp;omega)
           simp only[ao,Act.put,Nat.reduceAdd];refine aE 12 (.bool true) s3 ?_;refine aC 13 (aD w.heap.size 2) s3 ?_;refine aC 14 (.slice (some ⟨b,off,none⟩) k.ds.length c) s3 ?_;refine aE 15 (ad (j:Int)) s3 ?_;refine aC 16 (aD b (off+j*8)) s3 ?_;refine aC 17 (aD b (off+j*8)) s3 ?_;refine aC 18 (ad d.ino) s3 ?_;refine aC 19 (aD w.heap.size 2) s3 ?_;refine aC 20 (.slice (some ⟨b,off,none⟩) k.ds.length c) s3 ?_;refine aE 21 (ad (j:Int)) s3 ?_;refine aC 22 (ad (p:Int)) s3 ?_;refine aC 23 (aD b (off+p*8)) s3 ?_;refine aC 24 (aD b (off+p*8)) s3 ?_;refine aC 25 (ad io) s3 ?_;refine aC 26 (.bool true) s3 ?_;refine aE 27 (.bool true) s3 ?_;refine aE 28 (.bool true) s3 ?_;refine dV (by kernel_rfl) ?_ _;go_wp2;go_ret;exact ⟨by rw[HT.out];rfl,x3.ah⟩
        obtain rfl:j=k.ds.length:=by omega
        have HT:Hid (bC (oD k) k.ds.length=true):=hto;clear HL HF Hm My hto;go_wp2;go_ret;exact ⟨by rw[HT.out];rfl,xr.ah⟩
def cM (x:ByteArray) (j:Nat):UInt8:=x.data.toList.getD j 0
def vJ (r:gx) (j:Nat):Bool:=decide (r.1<=(j:Int)/\(j:Int)<r.1+r.2)
theorem Ss (d:ak):∀ r ∈ aJ d,r.1 % 8=0/\r.2 % 8=0:=by
 unfold aJ;cases h:bT d with
 | false=>simp
 | true=>
  obtain ⟨-,-,-,-,hi,-,-,-,-,eZ,hfr,-,-⟩:=iO h;have hrec:∀ z:Int,0<=z->z<=7->bA z=32+z*16:=by intro z h0 h7;unfold bA;rw[aF (jE.2 ⟨h0,h7⟩)]
  intro r hr;simp only[if_true,gP,na,lW] at hr;rcases hr with ((hr | ⟨p,hp,hr⟩) | ⟨p,hp,hr⟩) | ⟨f,hf,hr⟩
  ·subst hr;rw[hrec _ hi.1 hi.2];simp;omega
  ·subst hr;simp;omega
  ·subst hr;simp;omega
  ·subst hr;have:=hfr f hf;rw[hrec f (by omega) (by omega)];simp;omega
theorem Su (a b:ByteArray) (r:gx) (j:Nat) (hj:j<768) (h0:0<=r.1) (h1:16<=r.2) (h2:r.1 % 8=0) (h3:r.2 % 8=0):cM (kN a b r) j=if vJ r j then cM a j else cM b j:=by
 have hsp:og (r.1.toNat / 8) ((r.1.toNat+r.2.toNat-1) / 8) (j / 8)=vJ r j:=by unfold og vJ;congr 1;apply propext;omega
 have h:=nY a.data.toList b.data.toList (og (r.1.toNat / 8) ((r.1.toNat+r.2.toNat-1) / 8)) j hj;rw[hsp] at h;unfold cM kN;rw[jR,h];rfl
theorem adX (n j:Nat):(gF n).data.toList[j]? = if j<n then some 0 else none:=by unfold gF;rw[aiK,aiT]
theorem adY (s:ByteArray) (hs:s.size=768) (r:gx) (j:Nat) (hj:j<768) (h0:0<=r.1) (h1:16<=r.2) (h2:r.1+r.2<=768):cM (bJ s r.1 (bB r.2)) j=if vJ r j then 0 else cM s j:=by
 obtain ⟨u,hu⟩:∃ u:Nat,r.1=u:=⟨r.1.toNat,by omega⟩;obtain ⟨v,hv⟩:∃ v:Nat,r.2=v:=⟨r.2.toNat,by omega⟩;have hz:bB r.2=gF v:=by rw[bB,aF (by omega),hv];rfl
 have hl:cZ s.size r.1 (gF v).size=true:=bF (by rw[ni,hs];omega);have hsl:s.data.toList.length=768:=by rw[<- hs];exact (cV s).symm
 rw[hz,bJ,hl,aF rfl,ni,hu,hs];unfold cM vJ;rw[hu,hv];simp only[jR,mz,rX,pE,List.getElem?_append,adX,tD,qD,fO,jC,hsl,bY];rw[show (gF v).data.toList.length=v by simp[gF],show ((u:Int)).toNat=u by omega,show ((u:Int)+(v:Int)).toNat=u+v by omega];by_cases hc:(u:Int)<=(j:Int)/\(j:Int)<(u:Int)+(v:Int)
 ·rw[bF hc];grind
 rw[bq hc];grind
theorem zZ {α:Type} (p q:Bool) (x y:α):(if p then x else if q then x else y)=if (p || q) then x else y:=by cases p <;> cases q <;> rfl
theorem Sw (a:ByteArray) (rs:List gx) (hin:∀ r ∈ rs,0<=r.1/\16<=r.2/\r.1+r.2<=768) (h8:∀ r ∈ rs,r.1 % 8=0/\r.2 % 8=0):∀ k,k<=rs.length->∃ c:Nat->Bool,∀ j,j<768->(∀ b,b.size=768->cM (dG a b rs k) j=if c j then cM a j else cM b j)/\∀ x,x.size=768->cM (jM x rs k) j=if c j then 0 else cM x j
 | 0,_=>⟨fun _=>false,fun j hj=>⟨fun b hb=>rfl,fun x hx=>rfl⟩⟩
 | k+1,hk=>by
  obtain ⟨c,hc⟩:=Sw a rs hin h8 k (by omega);have hm:ek rs k ∈ rs:=by rw[zt _ _ (by omega)];exact nQ _
  obtain ⟨i1,i2,i3⟩:=hin _ hm;obtain ⟨e1,e2⟩:=h8 _ hm;refine ⟨fun j=>vJ (ek rs k) j || c j,fun j hj=>⟨fun b hb=>?_,fun x hx=>?_⟩⟩
  ·rw[dG,Su _ _ _ _ hj i1 i2 e1 e2,(hc j hj).1 b hb];exact zZ _ _ _ _
  ·rw[jM,adY _ (by rw[Cw];exact hx) _ _ hj i1 i2 i3,(hc j hj).2 x hx];exact zZ _ _ _ _
theorem Sy (a b:ByteArray) (hb:b.size=768) (ds:List ak):∀ k,∃ c:Nat->Bool,∀ j,j<768->cM (fI a b ds k) j=(if c j then cM a j else cM b j)/\∀ x,x.size=768->cM (ju x ds k) j=if c j then 0 else cM x j
 | 0=>⟨fun _=>false,fun j hj=>⟨rfl,fun x hx=>rfl⟩⟩
 | k+1=>by
  obtain ⟨c,hc⟩:=Sy a b hb ds k;obtain ⟨c',hc'⟩:=Sw a (aJ (au ds k)) (JD _) (Ss _) (aJ (au ds k)).length (aq _);refine ⟨fun j=>c' j || c j,fun j hj=>⟨?_,fun x hx=>?_⟩⟩
  ·rw[fI,(hc' j hj).1 _ (vI a b ds hb k),(hc j hj).1];exact zZ _ _ _ _
  ·rw[ju,(hc' j hj).2 _ (by rw[zU];exact hx),(hc j hj).2 x hx];exact zZ _ _ _ _
theorem FY {x y:ByteArray} (hx:x.size=768) (hy:y.size=768):(x.toList == y.toList)=true ↔ ∀ j,j<768->cM x j=cM y j:=by
 rw[qB,wG,wG];have lx:x.data.toList.length=768:=by rw[<- hx];exact (cV x).symm
 have ly:y.data.toList.length=768:=by rw[<- hy];exact (cV y).symm
 constructor
 ·intro h j hj;unfold cM;rw[h]
 intro h;apply A5;intro j;by_cases hj:j<768
 ·have:=h j hj;unfold cM at this;rw[va lx hj,va ly hj,this]
 rw[pJ (by omega),pJ (by omega)]
theorem adZ (a b:ByteArray) (ha:a.size=768) (hb:b.size=768) (ds:List ak) (n:Nat):(a.toList == (fI a b ds n).toList)=((ju a ds n).toList == (ju b ds n).toList):=by
 obtain ⟨c,hc⟩:=Sy a b hb ds n;rw[qC,FY ha (vI a b ds hb n),FY (by rw[zU];exact ha) (by rw[zU];exact hb)];constructor
 ·intro h j hj;have h1:=h j hj;rw[(hc j hj).1] at h1;rw[(hc j hj).2 a ha,(hc j hj).2 b hb];cases hcj:c j with
  | true=>rfl
  | false=>
   rw[hcj] at h1;exact h1
 intro h j hj;have h1:=h j hj;rw[(hc j hj).2 a ha,(hc j hj).2 b hb] at h1;rw[(hc j hj).1];cases hcj:c j with
 | true=>rfl
 | false=>
  rw[hcj] at h1;exact h1
def eb (mem:ByteArray) (d:ak):List Int:=if fG mem d=true then dF (db false (cP (dm d)) (cP (dw mem d.ino))) else []
theorem SC {mem:ByteArray} {d:ak} (h:fG mem d=true):mem.size=768/\bp (ar mem d.ino)=true/\aX (ar mem d.ino)≠0/\dJ d.fr=true:=by
 unfold fG at h;simp only[cj] at h;obtain ⟨h1,h2,h3,h4,-⟩:=h;unfold bT jo at h1;simp only[cj] at h1;unfold JE at h4;simp only[cj,dC] at h4;unfold fv at h3;simp only[cj] at h3;refine ⟨by simpa using h2,h3.1,?_,?_⟩
 ·rw[h4.1];simpa using h1.1.2.1
 have hf:=h1.2.2.2;unfold Ep at hf;split at hf
 ·simp only[cj] at hf;exact hf.2.1
 have:d.fr=[]:=by simpa using hf
 rw[this];rfl
theorem ad0 (mem:ByteArray) (d:ak) (s:aA) (w:World) (hms:mem.size<=281474976710656) (hF:jX d s) (hpo:d.po.length<=1048576) (hfr:d.fr.length<=1048576) (hR:dq w d s):Calls prog 168 #[.string mem,bH d s] w fun e w'=>∃ a c,e=.returned (.slice a (fH mem d).length c)/\(fH mem d).length<=c/\aQ w.heap.size w' a (fH mem d)/\aj w w':=by
 have k0:=lf d s w 49;have l0:=aB w (.cells (dZ d s) 49);have c0:=k0.c0;have c1:=k0.c1;have c2:=k0.c2;have c3:=k0.c3;have c4:=k0.c4;have c5:=k0.c5;have c6:=k0.c6;have c7:=k0.c7;have HV:Hid (∀ W,aj w W->_):=fun W hb=>JH mem d s W hms hF hpo hfr (hR.below hb);have hr3:Hid (∀ W,aj w W->aI W s.a3 d.fr):=fun W hb=>(hR.below hb).r3;have hel:(cP (dw mem d.ino)).length<=13:=by rw[tT];exact FN mem d.ino
 cases hv:fG mem d with
 | false=>
  have hco:fH mem d=[]:=by rw[fH,hv];rfl
  rw[hco];rw[hv] at HV;clear hv hco hel hR hF;go_enter func168,ntmps168;go_wp2_with (go_at_call 205;refine (HV.out _ l0).mono ?_;rintro e w1 ⟨rfl,b1⟩);go_ret;exact ⟨_,_,rfl,aq _,Or.inl rfl,(l0.trans (b1.mono l0.size)).alloc (bt l0.size b1.size) _⟩
 | true=>
  obtain ⟨p1,p2,p3,p4⟩:=SC hv;have HN:Hid (∀ W,_):=fun W=>JF mem d s W p1 p2 p3;have hco:fH mem d=ke d.fr (cP (dw mem d.ino)):=by rw[fH,aF hv]
  rw[hco];rw[hv] at HV;obtain ⟨E,hE⟩:∃ E,cP (dw mem d.ino)=E:=⟨_,rfl⟩;obtain ⟨bn,hbn⟩:∃ b,oB mem d.ino=b:=⟨_,rfl⟩;rw[hE,hbn] at HN;rw[hE] at hel ⊢;have HO:Hid (∀ W c1 c2 a2,aI W s.a3 d.fr->aI W a2 E->_):=fun W c1 c2 a2 r1 r2=>acB s.a3 a2 c1 c2 d.fr E W hfr (by omega) p4 r1 r2;clear hv hco hE hbn p1 p2 p3 p4 hR hF;go_enter func168,ntmps168;go_wp2_with (first
   | (go_at_call 205;refine (HV.out _ l0).mono ?_;rintro e w1 ⟨rfl,b1⟩;have l1:=l0.trans (b1.mono l0.size);have k1:=k0.below b1;have d0:=k1.c0;have d1:=k1.c1;have d2:=k1.c2;have d3:=k1.c3;have d4:=k1.c4;have d5:=k1.c5;have d6:=k1.c6;have d7:=k1.c7)
   | (go_at_call 206;refine (HN.out _).mono ?_;rintro e w2 ⟨a2,n2,rfl,o2,b2⟩;have l2:=l1.trans (b2.mono l1.size);have e7:=(k1.below b2).c7)
   | (go_at_call 87;refine (HO.out _ _ _ _ (hr3.out _ l2) o2.row).mono ?_;rintro e w3 ⟨a3,n3,rfl,q3,o3,b3⟩))
  go_ret;exact ⟨a3,n3,rfl,q3,o3.mono l2.size,l2.trans (b3.mono l2.size)⟩
end Go.Proofs.YtidmmopnkjbjoaaGreatDoor
