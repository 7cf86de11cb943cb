/- Joined texts. -/
import Derived.Test.YtgpfmgaidbjcpaaGreatDoorJhI
import Derived.Test.YtgpfmgaidbjcpaaGreatDoorJhG
set_option linter.unusedVariables false
set_option linter.unusedSimpArgs false
set_option maxRecDepth 10000
set_option maxHeartbeats 16000000
namespace Go.Proofs.YtgpfmgaidbjcpaaGreatDoor
open ChangeShapes WideShapes ChangeAt RowKit
open Go.Proofs.Tryz
section
open Go.Joins Go.Deep
def fh:ai:=⟨0,0,0,⟨#[]⟩,[],⟨#[]⟩,[],[]⟩
def eV:aI:=⟨none,0,none,0,none,0⟩
def aJ (ds:List ai) (k:Nat):ai:=ds.getD k fh
def kh (W:World) (b o:Nat) (d:ai) (s:aI):Prop:=
 W.cell? ⟨b,o,none⟩=some (.int .i64 d.ino)/\W.cell? ⟨b,o+1,none⟩=some (.int .i64 d.cl)/\W.cell? ⟨b,o+2,none⟩=some (.int .i64 d.un)/\W.cell? ⟨b,o+3,none⟩=some (.string d.rc)/\
 W.cell? ⟨b,o+4,none⟩=some (.slice s.a1 d.pg.length s.c1)/\W.cell? ⟨b,o+5,none⟩=some (.string d.aU)/\W.cell? ⟨b,o+6,none⟩=some (.slice s.a2 d.po.length s.c2)/\W.cell? ⟨b,o+7,none⟩=some (.slice s.a3 d.fr.length s.c3)
variable {W W' : World} {a : Option Addr} {ds : List ai} {ss : Nat → aI} {b o : Nat} {d : ai} {s : aI}
theorem kh.below (h:kh W b o d s) (hlt:b<W.heap.size) (hb:ah W W'):kh W' b o d s:=by
 obtain ⟨h0,h1,h2,h3,h4,h5,h6,h7⟩:=h;exact ⟨(hb.cell (p:=⟨b,o,none⟩) hlt).trans h0,(hb.cell (p:=⟨b,o+1,none⟩) hlt).trans h1,(hb.cell (p:=⟨b,o+2,none⟩) hlt).trans h2,(hb.cell (p:=⟨b,o+3,none⟩) hlt).trans h3,
  (hb.cell (p:=⟨b,o+4,none⟩) hlt).trans h4,(hb.cell (p:=⟨b,o+5,none⟩) hlt).trans h5,(hb.cell (p:=⟨b,o+6,none⟩) hlt).trans h6,(hb.cell (p:=⟨b,o+7,none⟩) hlt).trans h7⟩
def sM (W:World) (a:Option Addr) (ds:List ai) (ss:Nat->aI):Prop:=ds=[]\/∃ b off,a=some ⟨b,off,none⟩/\b<W.heap.size/\∀ j,j<ds.length->kh W b (off+j*8) (aJ ds j) (ss j)
def Fu (W:World) (ds:List ai) (ss:Nat->aI):Prop:=∀ j,j<ds.length->cJ W (aJ ds j) (ss j)
theorem sM.below (h:sM W a ds ss) (hb:ah W W'):sM W' a ds ss:=by
 rcases h with h | ⟨b,off,ha,hlt,hc⟩;·exact Or.inl h
 exact Or.inr ⟨b,off,ha,cv hlt hb.size,fun j hj=>(hc j hj).below hlt hb⟩
theorem sM.get {k:Nat} (h:sM W a ds ss) (hk:k<ds.length):∃ b off,a=some ⟨b,off,none⟩/\b<W.heap.size/\∀ j,j<ds.length->kh W b (off+j*8) (aJ ds j) (ss j):=by
 rcases h with h | h
 ·subst h;simp at hk
 exact h
theorem Fu.below (h:Fu W ds ss) (hb:ah W W'):Fu W' ds ss:=fun j hj=>(h j hj).below hb
structure cN (W:World) (a:Option Addr) (ds:List ai) (ss:Nat->aI):Prop where
 row:sM W a ds ss
 sub:Fu W ds ss
theorem cN.below (h:cN W a ds ss) (hb:ah W W'):cN W' a ds ss:=⟨h.row.below hb,h.sub.below hb⟩
structure bz where
 mem:ByteArray
 aL:ByteArray
 ds:List ai
 ck:Int
abbrev bP (k:bz) (a:Option Addr) (c:Nat):Value:=.agg #[.string k.mem,.string k.aL,.slice a k.ds.length c,.int .i64 k.ck]
abbrev iZ (k:bz) (a:Option Addr) (c:Nat):List Value:=[.string k.mem,.string k.aL,.slice a k.ds.length c,.int .i64 k.ck]
section
variable {H : Type} {enc : TypeId × Value → H} {w : World}
end
end
section
variable {w W W' : World} {d : ai} {s : aI} {g1 g2 g3 B : Nat}
theorem QQ (h:qT d<=1048576):d.pg.length<=1048576/\d.po.length<=1048576/\d.fr.length<=1048576/\d.rc.size<=1048576/\d.aU.size<=1048576:=by unfold qT at h;omega
end
def ja (ds:List ai):Nat->Nat
 | 0=>0
 | k+1=>ja ds k+qT (aJ ds k)
theorem QR (ds:List ai) (k:Nat):∀ m,ja ds k<=ja ds (k+m)
 | 0=>av _
 | m+1=>br (QR ds k m) (ix _ _)
theorem Fv {ds:List ai} {k n:Nat} (h:k<=n):ja ds k<=ja ds n:=by have:=QR ds k (n-k);rwa [show k+(n-k)=n by omega] at this
theorem QS {ds:List ai} {j:Nat} (hj:j<ds.length):qT (aJ ds j)<=ja ds ds.length:=by have h1:=Fv (ds:=ds) (k:=j+1) (n:=ds.length) (by omega);have h2:ja ds (j+1)=ja ds j+qT (aJ ds j):=rfl;omega
section
abbrev jb:Array Value:=#[.int .i64 0,.int .i64 0,.int .i64 0,.string ⟨#[]⟩,.slice none 0 0,.string ⟨#[]⟩,.slice none 0 0,.slice none 0 0]
theorem Cl:(prog.info? 31).map (fun i=>(i.zero,i.size,i.bytes))=some (some (.agg jb),8,128):=by kernel_rfl
def oM (L:List Value) (o:Nat) (d:ai) (s:aI):Prop:=L[o]? = some (.int .i64 d.ino)/\L[o+1]? = some (.int .i64 d.cl)/\L[o+2]? = some (.int .i64 d.un)/\L[o+3]? = some (.string d.rc)/\L[o+4]? = some (.slice s.a1 d.pg.length s.c1)/\L[o+5]? = some (.string d.aU)/\L[o+6]? = some (.slice s.a2 d.po.length s.c2)/\L[o+7]? = some (.slice s.a3 d.fr.length s.c3)
theorem tT {B:Nat} {L:List Value} {W:World} (h:az B L W) {x:Nat} {v:Value} (hx:L[x]? = some v):W.cell? ⟨B,x,none⟩=some v:=by obtain ⟨hl,he⟩:=qI.1 hx;rw[h.cell x hl,he]
theorem Cm {B:Nat} {L:List Value} {W:World} {o:Nat} {d:ai} {s:aI} (h:az B L W) (hl:oM L o d s):kh W B o d s:=by obtain ⟨h0,h1,h2,h3,h4,h5,h6,h7⟩:=hl;exact ⟨tT h h0,tT h h1,tT h h2,tT h h3,tT h h4,tT h h5,tT h h6,tT h h7⟩
def sN (L:List Value) (o:Nat) (d:ai) (s:aI):List Value:=((((((((L.set o (.int .i64 d.ino)).set (o+1) (.int .i64 d.cl)).set (o+2) (.int .i64 d.un)).set (o+3) (.string d.rc)).set (o+4) (.slice s.a1 d.pg.length s.c1)).set (o+5) (.string d.aU)).set (o+6) (.slice s.a2 d.po.length s.c2)).set (o+7) (.slice s.a3 d.fr.length s.c3))
theorem acG (L:List Value) (o:Nat) (d:ai) (s:aI):(sN L o d s).length=L.length:=by simp[sN]
theorem acH (L:List Value) (o:Nat) (d:ai) (s:aI) (h:o+7<L.length):oM (sN L o d s) o d s:=by
 unfold oM sN;refine ⟨?_,?_,?_,?_,?_,?_,?_,?_⟩;all_goals
  simp[List.getElem?_set];try omega
theorem vr {L:List Value} {o x:Nat} {d:ai} {s:aI} (h:x<o\/o+7<x):(sN L o d s)[x]? = L[x]?:=by unfold sN;repeat rw[List.getElem?_set_ne (by omega)]
def Cn (W:World) (B o:Nat) (d:ai) (s:aI):World:=((((((((W.setCell ⟨B,o,none⟩ (.int .i64 d.ino)).setCell ⟨B,o+1,none⟩ (.int .i64 d.cl)).setCell ⟨B,o+2,none⟩ (.int .i64 d.un)).setCell ⟨B,o+3,none⟩ (.string d.rc)).setCell ⟨B,o+4,none⟩ (.slice s.a1 d.pg.length s.c1)).setCell ⟨B,o+5,none⟩ (.string d.aU)).setCell ⟨B,o+6,none⟩ (.slice s.a2 d.po.length s.c2)).setCell ⟨B,o+7,none⟩ (.slice s.a3 d.fr.length s.c3))
theorem acI {B o:Nat} {L:List Value} {W:World} {d:ai} {s:aI} (h:az B L W):az B (sN L o d s) (Cn W B o d s):=(((((((h.set _ _).set _ _).set _ _).set _ _).set _ _).set _ _).set _ _).set _ _
structure JH where
 g1:Nat
 g2:Nat
 g3:Nat
variable {g b n k : Nat} {ds : List ai} {P : Nat → JH} {L : List Value} {w W W' : World}
end
section
variable {g b n j B : Nat} {ds : List ai} {P : Nat → JH} {L : List Value} {w W W' : World} {k : bz} {a : Option Addr} {c : Nat} {vs : List Value}
abbrev ij:List Value:=[.string ⟨#[]⟩,.string ⟨#[]⟩,.slice none 0 0,.int .i64 0]
variable {ss : Nat → aI}
end
theorem vt (mem:ByteArray) (i:Int) (w:World) (hms:mem.size<=281474976710656):Calls prog 6 #[.string mem,aa i] w (pT mem i w):=by
 have hrs:=vg mem i hms;have hpt:Hid (∀ W,Calls prog 16 #[.string mem,aa (aZ i),aa 16] W (aV (.string (aj mem i)) W)):=fun W=>lM _ _ _ _ hms;have hl0:=aA w (.cells (bj 0 0 0 none 0 0) 35);by_cases hm:mem.size=768
 ·have g8:((mem.size:Int) != 768)=false:=by simp;omega
  by_cases hI:bM (aj mem i)=true
  ·by_cases h0:aW (aj mem i) 0=0
   ·have HF:Hid (∀ w',ah w w'->pT mem i w (.returned (.tuple #[aO 0 0 0 none 0 0,.string ⟨#[]⟩,.bool false])) w'):=fun w'=>EY (aaG h0);have hr:Hid (∀ W,Calls prog 15 #[.string (aj mem i)] W fun e w'=>∃ a c,e=.returned (.tuple #[.iface 86 (aO (bg (aj mem i)) (bI (aj mem i)) (bU (aj mem i)) a (aD (aj mem i)).length c),.bool true])/\aR W.heap.size w' a (aD (aj mem i))/\(aD (aj mem i)).length<=c/\ah W w'):=fun W=>P5 hrs hI (fun x=>by rw[lN,aN h0]);clear hI h0;go_enter func6,ntmps6;go_wp2_with (first
     | (go_at_call 17;refine (gP _ _).mono ?_;rintro e w' ⟨rfl,rfl⟩)
     | (go_at_call 16;refine (hpt.out _).mono ?_;rintro e w1 ⟨rfl,b1⟩)
     | (go_at_call 15;refine (hr.out _).mono ?_;rintro e w2 ⟨a,c,rfl,ho,hc,b2⟩;have r2:oB w a _ w2:=tO (b1.trans (b2.mono b1.size)) (ho.mono b1.size))
     | (go_at_call 18;refine (Pe _ _ _ _ _ _ _ rfl _).mono ?_;rintro e w3 ⟨rfl,b3⟩;have r3:=r2.below b3;have c0:=r3.res.c0;have c1:=r3.res.c1;have c2:=r3.res.c2;have c3:=r3.res.c3;have f0:=r3.res.f0;have f1:=r3.res.f1;have f2:=r3.res.f2;have f3:=r3.res.f3))
    have q:=r3.res.dQ (aa 0) (aa 0) (aa 0) (.slice none 0 0);have d:=r3.done (aa 0) (aa 0) (aa 0) (.slice none 0 0);exact bF (v:=.tuple #[aO 0 0 0 none 0 0,.string ⟨#[]⟩,.bool false]) (by simp[results,results6,go_sem,q.c0,q.c1,q.c2,q.c3]) rfl (HF.out _ d.2)
   have hL:=Py hm hI h0;by_cases h1:aW (aj mem i) 0=1;·exact P6 88 mem i w hm hI hL (fun x=>by rw[lN,aM h0,aN h1]) (fun k o s a n c W=>Pf _ k o s a n c rfl W) (fun k o s a n c W=>Ph k o s a n c W)
   have h2:aW (aj mem i) 0=2:=by have:=zi (zm hI).2.2;omega
   exact P6 90 mem i w hm hI hL (fun x=>by rw[lN,aM h0,aM h1,aN h2]) (fun k o s a n c W=>Pg _ k o s a n c rfl W) (fun k o s a n c W=>Pj k o s a n c W)
  have hI':bM (aj mem i)=false:=by simpa using hI
  have HF:Hid (∀ w',ah w w'->pT mem i w (.returned (.tuple #[aO 0 0 0 none 0 0,.string ⟨#[]⟩,.bool false])) w'):=fun w'=>EY (aaF hI');have hr:Hid (∀ W,Calls prog 15 #[.string (aj mem i)] W (aV (.tuple #[.nilIface,.bool false]) W)):=fun W=>Pm hrs hI';clear hI hI';go_enter func6,ntmps6;go_wp2_with (first
   | (go_at_call 17;refine (gP _ _).mono ?_;rintro e w' ⟨rfl,rfl⟩)
   | (go_at_call 16;refine (hpt.out _).mono ?_;rintro e w1 ⟨rfl,b1⟩)
   | (go_at_call 15;refine (hr.out _).mono ?_;rintro e w2 ⟨rfl,b2⟩;have r2:oB w none [] w2:=tO (b1.trans (b2.mono b1.size)) (Or.inl rfl);have c0:=r2.res.c0;have c1:=r2.res.c1;have c2:=r2.res.c2;have c3:=r2.res.c3;have f0:=r2.res.f0;have f1:=r2.res.f1;have f2:=r2.res.f2;have f3:=r2.res.f3))
  have q:=r2.res.dQ (aa 0) (aa 0) (aa 0) (.slice none 0 0);have d:=r2.done (aa 0) (aa 0) (aa 0) (.slice none 0 0);exact bF (v:=.tuple #[aO 0 0 0 none 0 0,.string ⟨#[]⟩,.bool false]) (by simp[results,results6,go_sem,q.c0,q.c1,q.c2,q.c3]) rfl (HF.out _ d.2)
 have g8:((mem.size:Int) != 768)=true:=by simp;omega
 have HF:Hid (∀ w',ah w w'->pT mem i w (.returned (.tuple #[aO 0 0 0 none 0 0,.string ⟨#[]⟩,.bool false])) w'):=fun w'=>EY (aaE hm);go_enter func6,ntmps6;go_wp2;refine bF (v:=.tuple #[aO 0 0 0 none 0 0,.string ⟨#[]⟩,.bool false]) (by simp[results,results6,go_sem]) rfl (HF.out _ ?_);go_grown
theorem Fw (mem:ByteArray) (i:Int) (w:World) (hms:mem.size<=281474976710656):Calls prog 80 #[.string mem,aa i] w (pT mem i w):=by
 have hrs:=vg mem i hms;have hG:Hid (∀ W,Calls prog 128 #[.string (aj mem i)] W (gR (aj mem i) W)):=fun W=>I6 _ _ hrs;have wD:Hid (∀ W,_):=fun W=>ES mem i W hms;by_cases hL:cI mem i=true
 ·have hl:=hL;simp only[cI,ca,dp,oy] at hl;obtain ⟨hm,hI,hk⟩:=hl;have hk':¬ aW (aj mem i) 0=0:=Ie hk;have g8:((mem.size:Int) != 768)=false:=by simp;omega
  have hg:=pQ hI;have rX:(bg (aj mem i) == 0)=false:=by rw[(zp hI).1];simpa using hk'
  have HF:Hid (∀ a c w',aR w.heap.size w' a (aD (aj mem i))->(aD (aj mem i)).length<=c->ah w w'->pT mem i w (.returned (.tuple #[aO (bg (aj mem i)) (bI (aj mem i)) (bU (aj mem i)) a (aD (aj mem i)).length c,.string ((di mem (aD (aj mem i)) (aD (aj mem i)).length).extract 0 (bU (aj mem i)).toNat),.bool true])) w'):=fun a c w'=>P4 hL;have hA:Hid (∀ W e w',gR (aj mem i) W e w'->∃ a c,e=.returned (.tuple #[aO (bg (aj mem i)) (bI (aj mem i)) (bU (aj mem i)) a (aD (aj mem i)).length c,.bool true])/\aR W.heap.size w' a (aD (aj mem i))/\(aD (aj mem i)).length<=c/\ah W w'):=fun W e w' ⟨a,c,he,ho,hc,hb⟩=>⟨a,c,by rw[he,hI],ho,hc,hb⟩;clear hk hk' hL hI hrs;obtain ⟨R,hR⟩:∃ R,aj mem i=R:=⟨_,rfl⟩;rw[hR] at hg HF hA hG wD rX;obtain ⟨K,hK⟩:∃ K,bg R=K:=⟨_,rfl⟩;obtain ⟨O,hO⟩:∃ O,bI R=O:=⟨_,rfl⟩;obtain ⟨S,hS⟩:∃ S,bU R=S:=⟨_,rfl⟩;obtain ⟨Z,hZ⟩:∃ Z,aD R=Z:=⟨_,rfl⟩;rw[hK,hO,hS,hZ] at HF hA;rw[hK,hS,hZ] at hg;rw[hK] at rX;obtain ⟨⟨s0,s1⟩,zl,s2,hp,-⟩:=hg;clear hK hO hS hZ hR;go_enter func80,ntmps80;go_wp2_with (first
   | (go_at_call 83;refine (wD.out _).mono ?_;rintro e w' ⟨rfl,rfl⟩)
   | (go_at_call 128;refine (hG.out _).mono ?_;intro e w1 hans;obtain ⟨a,c,rfl,ho,hc,b1⟩:=hA.out _ _ _ hans;clear hans;have r1:oB w a Z w1:=tO b1 ho;have l1:=Jr (k:=K) (o:=O) (s:=S) (c:=c) r1))
  obtain ⟨W1,hW1⟩:∃ W1,w1.alloc (.cells (bj K O S a Z.length c) 35)=W1:=⟨_,rfl⟩;rw[hW1] at l1 ⊢;have x0:=l1.nb.c0;have x1:=l1.nb.c1;have x2:=l1.nb.c2;have x3:=l1.nb.c3;clear hW1 b1 ho r1;go_loop [9,10] (fun t j=>∃ k:Nat,k<=Z.length/\j=aa k/\t=.string (di mem Z k)) (fun _ j=>Z.length-(intOf j).toNat)
  case atStart=>exact ⟨0,bh _,rfl,rfl⟩
  case round=>
  obtain ⟨k,hk,rfl,rfl⟩:=hrel;have hjs:=BE hm hp k hk;by_cases hlt:k<Z.length
  ·obtain ⟨b,off,rfl,hb,hcell⟩:=l1.rs.own.row.get hlt;have y1:=hcell k hlt;have hz:=By hp hlt;have hu:di mem Z (k+1)=di mem Z k++aX mem (Z.getD k 0*32) 32:=rfl;obtain ⟨z,ez⟩:∃ z,Z.getD k 0=z:=⟨_,rfl⟩;rw[ez] at y1 hz hu;have hps:=EB hm hz.1 hz.2;have e1:(0:Int)<=(k:Int):=by omega
   have e2:(k:Int)<(Z.length:Int):=by omega
   have zz:32*k+32<=9223372036854775807:=by omega
   have gY:Hid (∀ W,Calls prog 84 #[.string mem,aa z] W fun e w'=>e=.returned (.string (aX mem (z*32) 32))/\W=w'):=fun W=>(PW mem z W hms hz.1 hz.2).mono fun _ _ h=>⟨h.1,h.2.symm⟩;have HU:Hid (di mem Z (k+1)=di mem Z k++aX mem (z*32) 32):=hu;clear hu ez hcell hz;go_wp2_with (go_at_call 84;refine (gY.out _).mono ?_;rintro e w' ⟨rfl,rfl⟩);go_round;case rel=>exact ⟨k+1,by omega,by go_num,by rw[HU.out]⟩
   case measure=>simp[intOf];omega
  obtain rfl:k=Z.length:=by omega
  have i1:S<=32*(Z.length:Int):=s2;have c0:=l1.rs.res.c0;have c1:=l1.rs.res.c1;have c2:=l1.rs.res.c2;have c3:=l1.rs.res.c3;have f0:=l1.rs.res.f0;have f1:=l1.rs.res.f1;have f2:=l1.rs.res.f2;have f3:=l1.rs.res.f3;have i2:S<=((32*Z.length:Nat):Int):=by omega
  have hnb:=(((l1.nb.aP (B':=w.heap.size) (by have:=l1.ne;omega) 0 (aa K)).aP (B':=w.heap.size) (by have:=l1.ne;omega) 1 (aa O)).aP (B':=w.heap.size) (by have:=l1.ne;omega) 2 (aa S)).aP (B':=w.heap.size) (by have:=l1.ne;omega) 3 (.slice a Z.length c);have y2:=hnb.c2;clear hnb;go_wp2;go_region
  all_goals
   have q:=l1.rs.res.dQ (aa K) (aa O) (aa S) (.slice a Z.length c);have d:=l1.rs.done (aa K) (aa O) (aa S) (.slice a Z.length c);go_wp2;refine bF (v:=.tuple #[aO K O S a Z.length c,.string ((di mem Z Z.length).extract 0 S.toNat),.bool true]) (by simp[results,results80,go_sem,q.c0,q.c1,q.c2,q.c3]) rfl (HF.out _ _ _ ?_ hc ?_);·exact d.1.drew
   ·exact d.2.drew
 have hL':cI mem i=false:=by simpa using hL
 have HF:Hid (∀ w',ah w w'->pT mem i w (.returned (.tuple #[aO 0 0 0 none 0 0,.string ⟨#[]⟩,.bool false])) w'):=fun w'=>EY hL';have hA:Hid (∀ W e w',gR (aj mem i) W e w'->∃ a c,e=.returned (.tuple #[aO (bg (aj mem i)) (bI (aj mem i)) (bU (aj mem i)) a (aD (aj mem i)).length c,.bool (bM (aj mem i))])/\aR W.heap.size w' a (aD (aj mem i))/\(aD (aj mem i)).length<=c/\ah W w'):=fun W e w' h=>h;have hcase:((mem.size:Int) != 768)=true\/(((mem.size:Int) != 768)=false/\bM (aj mem i)=false)\/(((mem.size:Int) != 768)=false/\bM (aj mem i)=true/\(bg (aj mem i) == 0)=true):=by
  by_cases hm:mem.size=768
  ·right;have g8:((mem.size:Int) != 768)=false:=by simp;omega
   cases hI:bM (aj mem i) with
   | false=>exact Or.inl ⟨g8,rfl⟩
   | true=>
    refine Or.inr ⟨g8,rfl,?_⟩;rw[(zp hI).1];by_cases h0:aW (aj mem i) 0=0;·simpa using h0
    ·rw[Py hm hI h0] at hL';cases hL'
  left;simp;omega
 clear hL hL' hrs;obtain ⟨R,hR⟩:∃ R,aj mem i=R:=⟨_,rfl⟩;rw[hR] at hA hG wD hcase;obtain ⟨K,hK⟩:∃ K,bg R=K:=⟨_,rfl⟩;obtain ⟨O,hO⟩:∃ O,bI R=O:=⟨_,rfl⟩;obtain ⟨S,hS⟩:∃ S,bU R=S:=⟨_,rfl⟩;obtain ⟨Z,hZ⟩:∃ Z,aD R=Z:=⟨_,rfl⟩;rw[hK,hO,hS,hZ] at hA;rw[hK] at hcase;clear hK hO hS hZ hR;rcases hcase with g8 | ⟨g8,gI⟩ | ⟨g8,gI,gK⟩;all_goals
  go_enter func80,ntmps80;go_wp2_with (first
   | (go_at_call 83;refine (wD.out _).mono ?_;rintro e w' ⟨rfl,rfl⟩)
   | (go_at_call 128;refine (hG.out _).mono ?_;intro e w1 hans;obtain ⟨a,c,rfl,ho,hc,b1⟩:=hA.out _ _ _ hans;clear hans;have r1:oB w a Z w1:=tO b1 ho;have l1:=Jr (k:=K) (o:=O) (s:=S) (c:=c) r1;have x0:=l1.nb.c0;have c0:=l1.rs.res.c0;have c1:=l1.rs.res.c1;have c2:=l1.rs.res.c2;have c3:=l1.rs.res.c3;have f0:=l1.rs.res.f0;have f1:=l1.rs.res.f1;have f2:=l1.rs.res.f2;have f3:=l1.rs.res.f3))
  have q:=l1.rs.res.dQ (aa 0) (aa 0) (aa 0) (.slice none 0 0);have d:=l1.rs.done (aa 0) (aa 0) (aa 0) (.slice none 0 0);exact bF (v:=.tuple #[aO 0 0 0 none 0 0,.string ⟨#[]⟩,.bool false]) (by simp[results,results80,go_sem,q.c0,q.c1,q.c2,q.c3]) rfl (HF.out _ d.2)
section
def QT (B:Nat) (I:Nat->World->Prop) (Ix:Code->World->Prop) (k:Nat) (W:World):Exit->Act->World->Prop
 | .normal,_,V=>KeepsFrom B W V/\I (k+1) V
 | .ret,_,V=>KeepsFrom B W V/\Ix .ret V
 | .exit id,_,V=>KeepsFrom B W V/\Ix (.exit id) V
 | .goto t,_,V=>KeepsFrom B W V/\Ix (.goto t) V
 | _,_,_=>False
theorem acJ (W:World):W.grownBy W.drew none:=⟨rfl,rfl,rfl,av _,fun _ _ _=>rfl⟩
theorem acK {B:Nat} {I:Nat->World->Prop} (hI:OwnFrom B I) {k:Nat} {W:World} (h:I k W):I k W.drew:=hI k W _ none h (acJ W) (fun r e=>by cases e)
theorem acL {B:Nat} {I:Nat->World->Prop} (hI:OwnFrom B I) {k:Nat} {W:World} (m:Nat) (h:I k W):I k (W.drewN m):=hI k W _ none h ⟨rfl,rfl,rfl,av _,fun _ _ _=>rfl⟩ (fun r e=>by cases e)
variable {P : Program} {n : Nat}
theorem acM {g:Operand} {ps:Array Tmp} {assign body:Code} {Q:Exit->Act->World->Prop} {a:Act} {w:World} {gf N:Nat} {bd:Array Value} (hg:a.eval g=.func (.func gf) bd #[]) (eg:∀ args w,(callFunc gf args).run P w=.ok (.enter gf args) w) (hps:ps.size=1) (I A:Nat->World->Prop) (Ix:Code->World->Prop) (hI:OwnFrom w.heap.size I) (hA:OwnFrom w.heap.size A) (hIx:OwnFrom w.heap.size Ix) (h0:I 0 w) (hit:∀ (l:Nat) (J:Nat->World->Prop) (Jx:World->Prop) (W:World),(∀ k W,J k W->I k W)->(∀ k W,J k W->I (k+1) W->J (k+1) W)->(∀ k W,J k W->J k W.drew)->(∀ k W m,J k W->J k (W.drewN m))->(∀ k W,k<N->J k W->A k W->YieldAt Fence.wide (n-1-1) P l #[aa (k:Int)] W fun e V=>(e=.returned (.bool true)/\J (k+1) V)\/(e=.returned (.bool false)/\Jx V))->J 0 W->CallsIn Fence.wide (n-1) P gf (bd ++ #[.func (.yield l) #[] #[]]) W fun e V=>(∃ v,e=.returned v)/\(J N V\/Jx V)) (aj6:∀ (l k:Nat) (W V:World),k<N->I k V->A k V->assign.wpIn (Fence.wide.inRound l) (n-1-1) P (Exit.then (fun a' w'=>w'=W/\body.wpIn (Fence.wide.inRound l) (n-1-1) P (QT w.heap.size I Ix k V) a' V) (fun _ _ _=>False)) { tmps:=(ps.zip #[aa (k:Int)]).foldl (fun t (p,v)=>t.setIfInBounds p v) a.tmps,defers:=[] } W) (hdone:∀ (D:Nat) (W:World),w.heap.size<=D->I N W->W.heap[D]? = some (.deferred (some []))->Q .normal { a with defers:={ target:=.collected D,args:=#[] } :: a.defers } W) (hstop:∀ (D:Nat) (c:Code) (W:World),w.heap.size<=D->Ix c W->W.heap[D]? = some (.deferred (some []))->c.wpIn Fence.wide n P Q { a with defers:={ target:=.collected D,args:=#[] } :: a.defers } W):(Code.rangeFunc g ps assign body).wpIn Fence.wide n P Q a w:=by
 refine wpIn_rangeFunc fun fn hfn=>?_;let R (st:LoopState) (pe:Option Code):Loop:={ state:=st,pending:=pe,fn:=fn,tmps:=a.tmps,params:=ps,assign:=assign,body:=body,defers:=w.heap.size }
 let L:=w.heap.size+1
 let M:=fun (V:World) (st:LoopState) (pe:Option Code)=>V.heap[L]? = some (.loop (R st pe))/\V.heap[w.heap.size]? = some (.deferred (some []))
 obtain ⟨W1,hW1⟩:∃ W1,(w.alloc (.deferred (some []))).alloc (.loop (R .ready none))=W1:=⟨_,rfl⟩;have hM1:M W1 .ready none:=by rw[<- hW1];refine ⟨?_,(Below.heap_alloc _ _ _ (by simp)).trans (World.alloc_heap_new w _)⟩;have:=World.alloc_heap_new (w.alloc (.deferred (some []))) (.loop (R .ready none));rwa [Ir] at this
 have hI1:I 0 W1:=by rw[<- hW1];exact hI.alloc _ (hI.alloc _ h0)
 have turn:∀ {V:World} {st:LoopState} {pe:Option Code} (st':LoopState) (NS:Option Code),M V st pe->M (V.putObj L (.loop (R st' NS))) st' NS:=fun st' NS h=>
  ⟨World.putObj_heap_same (nz.1 h.1).1,(World.putObj_heap_other (Ip (cm _))).trans h.2⟩
 refine ⟨L,[{ target:=.collected w.heap.size,args:=#[] }],W1,{ target:=.fn (.func gf) #[],args:=bd ++ #[.func (.yield L) #[] #[]] },W1,gf,bd ++ #[.func (.yield L) #[] #[]],W1,?_,?_,?_,?_,(fun h=>by cases h),?_⟩;·rw[<- hW1];exact run_enterLoop_outer _ _ _ _ _
 ·simp only[resolve,hg];simp[go_sem]
 ·intro f' _;trivial
 ·simp[invoke,go_sem,eg]
 refine (hit L (fun k V=>I k V/\M V .ready none) (fun V=>∃ c,Ix c V/\M V .done (some c)) W1 (fun k V h=>h.1) (fun k V h hk=>⟨hk,h.2⟩) (fun k V h=>⟨acK hI h.1,h.2⟩) (fun k V m h=>⟨acL hI m h.1,h.2⟩) ?_ ⟨hI1,hM1⟩).mono ?_
 ·rintro k V hk ⟨hi,hm⟩ ha;have hy:=run_yield (P:=P) (args:=#[aa (k:Int)]) hm.1 (by show 1=ps.size;exact hps.symm);have hm2:=turn .busy none hm;have hi2:=hI.putObj (.loop (R .busy none)) hi (bS _) hm.1 rfl;have ha2:=hA.putObj (.loop (R .busy none)) ha (bS _) hm.1 rfl;refine ⟨fn,_,assign,body,hy,roundIn_of_wpIn hfn (wpIn_mono (aj6 L k V _ hk hi2 ha2) ?_)⟩;rintro e a' w' he;cases e with
  | normal=>?_
  | _=>exact he.elim
  obtain ⟨hw',he⟩:=he;rw[hw'];refine ⟨_,run_beginRound hm.1 rfl,wpIn_mono he ?_⟩;have fin:∀ (j:Option Code) (V3:World),KeepsFrom w.heap.size (V.putObj L (.loop (R .busy none))) V3->
    M V3 .busy none/\(Instr.endRound L j).run P V3=.ok (.bool j.isNone) (V3.putObj L (.loop (R (if j.isNone then .ready else .done) j))):=fun j V3 hk3=>by
   have h3:M V3 .busy none:=⟨hk3.same _ _ (bS _) hm2.1 rfl,hk3.same _ _ (av _) hm2.2 rfl⟩;exact ⟨h3,run_endRound (P:=P) j h3.1⟩
  rintro e a3 V3 hp;cases e with
  | normal=>
   obtain ⟨h3,hr⟩:=fin none V3 hp.1;exact ⟨_,_,hr,.inl ⟨rfl,hI.putObj _ hp.2 (bS _) h3.1 rfl,turn .ready none h3⟩⟩
  | ret=>
   obtain ⟨h3,hr⟩:=fin (some .ret) V3 hp.1;exact ⟨_,_,hr,.inr ⟨rfl,.ret,hIx.putObj _ hp.2 (bS _) h3.1 rfl,turn .done (some .ret) h3⟩⟩
  | exit id=>
   obtain ⟨h3,hr⟩:=fin (some (.exit id)) V3 hp.1;exact ⟨_,_,hr,.inr ⟨rfl,.exit id,hIx.putObj _ hp.2 (bS _) h3.1 rfl,turn .done (some (.exit id)) h3⟩⟩
  | goto t=>
   obtain ⟨h3,hr⟩:=fin (some (.goto t)) V3 hp.1;exact ⟨_,_,hr,.inr ⟨rfl,.goto t,hIx.putObj _ hp.2 (bS _) h3.1 rfl,turn .done (some (.goto t)) h3⟩⟩
  | panic ch=>exact hp.elim
  | outgrown=>exact hp.elim
 rintro e V ⟨⟨v,rfl⟩,(⟨hi,hm⟩ | ⟨c,hi,hm⟩)⟩;·exact ⟨none,_,run_endLoop (P:=P) hm.1 (by simp[R]),hdone _ _ (av _) (hI.putObj _ hi (bS _) hm.1 rfl) ((World.putObj_heap_other (Ip (cm _))).trans hm.2)⟩
 exact ⟨some c,_,run_endLoop (P:=P) hm.1 (by simp[R]),hstop _ c _ (av _) (hIx.putObj _ hi (bS _) hm.1 rfl) ((World.putObj_heap_other (Ip (cm _))).trans hm.2)⟩
end
def eU (l:List UInt8) (k:Nat):List UInt8:=(l.drop (k*8)).take 8
def dZ (la lb:List UInt8) (p:Nat->Bool):List UInt8:=(List.range 768).map fun j=>if p (j / 8) then la.getD j 0 else lb.getD j 0
theorem ki (la lb:List UInt8) (p:Nat->Bool):(dZ la lb p).length=768:=by simp[dZ]
theorem mU (la lb:List UInt8) (p:Nat->Bool) (j:Nat) (hj:j<768):(dZ la lb p)[j]? = some (if p (j / 8) then la.getD j 0 else lb.getD j 0):=by simp[dZ,List.getElem?_range hj]
theorem zO {l:List UInt8} {j:Nat} (hl:l.length=768) (hj:j<768):l[j]? = some (l.getD j 0):=by rw[jl,gM (by omega)];rfl
theorem JI {l:List UInt8} {k j:Nat} (hj:j<8):(eU l k)[j]? = l[k*8+j]?:=by rw[eU,yZ,aN hj,tJ]
theorem QU (la lb:List UInt8) (hb:lb.length=768) (p:Nat->Bool) (hp:∀ k,k<96->p k=false):dZ la lb p=lb:=by
 apply wL;intro j;by_cases hj:j<768;·rw[mU _ _ _ _ hj,hp _ (by omega),zO hb hj];rfl
 rw[lL (by rw[ki];omega),lL (by omega)]
theorem Fx (la lb:List UInt8) (p q:Nat->Bool) (h:∀ k,k<96->p k=q k):dZ la lb p=dZ la lb q:=by
 apply wL;intro j;by_cases hj:j<768;·rw[mU _ _ _ _ hj,mU _ _ _ _ hj,h _ (by omega)]
 rw[lL (by rw[ki];omega),lL (by rw[ki];omega)]
theorem acN (la lb:List UInt8) (p q:Nat->Bool) (k:Nat) (ha:la.length=768) (hpq:∀ i,i<96->i≠k->p i=q i) (hk:k<96) (hp:p k=false) (h:eU la k=eU (dZ la lb p) k):dZ la lb q=dZ la lb p:=by
 apply wL;intro j;by_cases hj:j<768
 ·by_cases hjk:j / 8=k
  ·have e:=iw (fun l=>l[j-k*8]?) h;rw[JI (by omega),JI (by omega),show k*8+(j-k*8)=j by omega,mU _ _ _ _ hj,zO ha hj] at e;rw[mU _ _ _ _ hj,mU _ _ _ _ hj,hjk,hp];rw[hjk,hp] at e;by_cases hq:q k=true;·rw[hq];simpa using e
   rw[show q k=false by simpa using hq]
  rw[mU _ _ _ _ hj,mU _ _ _ _ hj,hpq _ (by omega) hjk]
 rw[lL (by rw[ki];omega),lL (by rw[ki];omega)]
theorem QV (la lb:List UInt8) (p q:Nat->Bool) (k:Nat) (ha:la.length=768) (hk:k<96) (hpq:∀ i,i<96->i≠k->p i=q i) (hq:q k=true):(dZ la lb p).take (k*8)++eU la k++(dZ la lb p).drop (k*8+8)=dZ la lb q:=by
 have hr:(eU la k).length=8:=by rw[eU,jk,kE];omega
 have ht:((dZ la lb p).take (k*8)).length=k*8:=by rw[jk,ki];omega
 apply wL;intro j;by_cases hj:j<768
 ·rw[mU _ _ _ _ hj];by_cases h1:j<k*8;·rw[nD (by rw[de];omega),nD (by omega),yZ,aN h1,mU _ _ _ _ hj,hpq _ (by omega) (by omega)]
  by_cases h2:j<k*8+8
  ·rw[nD (by rw[de];omega),nF (by omega),ht,JI (by omega),show k*8+(j-k*8)=j by omega,zO ha hj,show j / 8=k by omega,hq];rfl
  rw[nF (by rw[de];omega),de,ht,hr,tJ,show k*8+8+(j-(k*8+8))=j by omega,mU _ _ _ _ hj,hpq _ (by omega) (by omega)]
 rw[lL (by rw[de,de,kE,ki];omega),lL (by rw[ki];omega)]
theorem acO (m r:List UInt8) (k:Nat) (hm:m.length=768) (hr:r.length=8) (hk:k<96):bs ⟨m.toArray⟩ ((k:Int)*8) ⟨r.toArray⟩=⟨(m.take (k*8)++r++m.drop (k*8+8)).toArray⟩:=by
 have hrs:(⟨r.toArray⟩:ByteArray).size=8:=hr;have hms:(⟨m.toArray⟩:ByteArray).size=768:=hm;have e:=Eb ⟨m.toArray⟩ (k*8) ⟨r.toArray⟩ (by rw[hrs,hms];omega);rw[bs,hrs,hms,show dq 768 ((k:Int)*8) ((8:Nat):Int)=true from bK (by omega)]
 rw[hrs,hms] at e;rw[aN rfl,show ((k:Int)*8).toNat=k*8 by omega,show ((k:Int)*8+((8:Nat):Int)).toNat=k*8+8 by omega,e];show (⟨(m.take (k*8)++r++m.drop (k*8+r.length)).toArray⟩:ByteArray)=_
 rw[hr]
theorem QW (a:ByteArray) (k:Nat) (ha:a.size=768) (hk:k<96):aX a ((k:Int)*8) 8=⟨(eU a.data.toList k).toArray⟩:=by
 rw[aX,show dq a.size ((k:Int)*8) 8=true from bK (by omega),aN rfl]
 apply kD;apply sk.1;rw[wH,show ((k:Int)*8).toNat=k*8 by omega,show ((k:Int)*8+8).toNat=k*8+8 by omega,show k*8+8-k*8=8 by omega];rfl
theorem acP (a:ByteArray) (lb:List UInt8) (p q:Nat->Bool) (k:Nat) (ha:a.size=768) (hk:k<96) (hpq:∀ i,i<96->i≠k->p i=q i) (hq:q k=true):bs ⟨(dZ a.data.toList lb p).toArray⟩ ((k:Int)*8) (aX a ((k:Int)*8) 8)=⟨(dZ a.data.toList lb q).toArray⟩:=by
 have hla:a.data.toList.length=768:=by rw[<- dX];exact ha
 have hrl:(eU a.data.toList k).length=8:=by rw[eU,jk,kE];omega
 rw[QW a k ha hk,acO _ _ k (ki _ _ _) hrl hk,QV _ _ p q k hla hk hpq hq]
end Go.Proofs.YtgpfmgaidbjcpaaGreatDoor
