/- Joined texts. -/
import Derived.Test.YtidmmopnkjbjoaaGreatDoorJpL
import Derived.Test.YtidmmopnkjbjoaaGreatDoorJpK
set_option linter.unusedVariables false
set_option linter.unusedSimpArgs false
set_option maxRecDepth 10000
set_option maxHeartbeats 16000000
namespace Go.Proofs.YtidmmopnkjbjoaaGreatDoor
open ChangeShapes WideShapes ChangeAt RowKit
open Go.Proofs.Tryz
section
open Go.Joins Go.Deep
def aay:ak:=⟨0,0,0,⟨#[]⟩,[],⟨#[]⟩,[],[]⟩
def Qi:aA:=⟨none,0,none,0,none,0⟩
def au (ds:List ak) (k:Nat):ak:=ds.getD k aay
theorem aaz (ds:List ak) (k:Nat) (h:k<ds.length):au ds k=ds[k]:=by simp[au,List.getD,h]
def mg (W:World) (b o:Nat) (d:ak) (s:aA):Prop:=
 W.cell? ⟨b,o,none⟩=some (.int .i64 d.ino)/\W.cell? ⟨b,o+1,none⟩=some (.int .i64 d.cl)/\W.cell? ⟨b,o+2,none⟩=some (.int .i64 d.un)/\W.cell? ⟨b,o+3,none⟩=some (.string d.rc)/\
 W.cell? ⟨b,o+4,none⟩=some (.slice s.a1 d.pg.length s.c1)/\W.cell? ⟨b,o+5,none⟩=some (.string d.aH)/\W.cell? ⟨b,o+6,none⟩=some (.slice s.a2 d.po.length s.c2)/\W.cell? ⟨b,o+7,none⟩=some (.slice s.a3 d.fr.length s.c3)
variable {W W' : World} {a : Option Addr} {ds : List ak} {ss : Nat → aA} {b o : Nat} {d : ak} {s : aA}
theorem mg.below (h:mg W b o d s) (hlt:b<W.heap.size) (hb:aj W W'):mg W' b o d s:=by
 obtain ⟨h0,h1,h2,h3,h4,h5,h6,h7⟩:=h;exact ⟨(hb.cell (p:=⟨b,o,none⟩) hlt).trans h0,(hb.cell (p:=⟨b,o+1,none⟩) hlt).trans h1,(hb.cell (p:=⟨b,o+2,none⟩) hlt).trans h2,(hb.cell (p:=⟨b,o+3,none⟩) hlt).trans h3,
  (hb.cell (p:=⟨b,o+4,none⟩) hlt).trans h4,(hb.cell (p:=⟨b,o+5,none⟩) hlt).trans h5,(hb.cell (p:=⟨b,o+6,none⟩) hlt).trans h6,(hb.cell (p:=⟨b,o+7,none⟩) hlt).trans h7⟩
def xi (W:World) (a:Option Addr) (ds:List ak) (ss:Nat->aA):Prop:=ds=[]\/∃ b off,a=some ⟨b,off,none⟩/\b<W.heap.size/\∀ j,j<ds.length->mg W b (off+j*8) (au ds j) (ss j)
def vl (W:World) (ds:List ak) (ss:Nat->aA):Prop:=∀ j,j<ds.length->dq W (au ds j) (ss j)
theorem xi.below (h:xi W a ds ss) (hb:aj W W'):xi W' a ds ss:=by
 rcases h with h | ⟨b,off,ha,hlt,hc⟩;·exact Or.inl h
 exact Or.inr ⟨b,off,ha,cS hlt hb.size,fun j hj=>(hc j hj).below hlt hb⟩
theorem xi.get {k:Nat} (h:xi W a ds ss) (hk:k<ds.length):∃ b off,a=some ⟨b,off,none⟩/\b<W.heap.size/\∀ j,j<ds.length->mg W b (off+j*8) (au ds j) (ss j):=by
 rcases h with h | h
 ·subst h;simp at hk
 exact h
theorem vl.below (h:vl W ds ss) (hb:aj W W'):vl W' ds ss:=fun j hj=>(h j hj).below hb
structure aZ (W:World) (a:Option Addr) (ds:List ak) (ss:Nat->aA):Prop where
 row:xi W a ds ss
 sub:vl W ds ss
theorem aZ.below (h:aZ W a ds ss) (hb:aj W W'):aZ W' a ds ss:=⟨h.row.below hb,h.sub.below hb⟩
structure aL where
 mem:ByteArray
 ay:ByteArray
 ds:List ak
 ck:Int
abbrev aU (k:aL) (a:Option Addr) (c:Nat):Value:=.agg #[.string k.mem,.string k.ay,.slice a k.ds.length c,.int .i64 k.ck]
abbrev cU (k:aL) (a:Option Addr) (c:Nat):List Value:=[.string k.mem,.string k.ay,.slice a k.ds.length c,.int .i64 k.ck]
section
variable {H : Type} {enc : TypeId × Value → H} {w : World}
end
end
def ft (ds:List ak):Nat->Nat
 | 0=>0
 | k+1=>ft ds k+fD (au ds k)
theorem Qj (ds:List ak) (k:Nat):∀ m,ft ds k<=ft ds (k+m)
 | 0=>aq _
 | m+1=>bt (Qj ds k m) (sh _ _)
theorem zx {ds:List ak} {k n:Nat} (h:k<=n):ft ds k<=ft ds n:=by have:=Qj ds k (n-k);rwa [show k+(n-k)=n by omega] at this
theorem Fe {ds:List ak} {j:Nat} (hj:j<ds.length):fD (au ds j)<=ft ds ds.length:=by have h1:=zx (ds:=ds) (k:=j+1) (n:=ds.length) (by omega);have h2:ft ds (j+1)=ft ds j+fD (au ds j):=rfl;omega
section
abbrev Ff:Array Value:=#[.int .i64 0,.int .i64 0,.int .i64 0,.string ⟨#[]⟩,.slice none 0 0,.string ⟨#[]⟩,.slice none 0 0,.slice none 0 0]
theorem Fg:(prog.info? 49).map (fun i=>(i.zero,i.size,i.bytes))=some (some (.agg Ff),8,128):=by kernel_rfl
def mM (L:List Value) (o:Nat) (d:ak) (s:aA):Prop:=L[o]? = some (.int .i64 d.ino)/\L[o+1]? = some (.int .i64 d.cl)/\L[o+2]? = some (.int .i64 d.un)/\L[o+3]? = some (.string d.rc)/\L[o+4]? = some (.slice s.a1 d.pg.length s.c1)/\L[o+5]? = some (.string d.aH)/\L[o+6]? = some (.slice s.a2 d.po.length s.c2)/\L[o+7]? = some (.slice s.a3 d.fr.length s.c3)
theorem vm {B:Nat} {L:List Value} {W:World} (h:av B L W) {x:Nat} {v:Value} (hx:L[x]? = some v):W.cell? ⟨B,x,none⟩=some v:=by obtain ⟨hl,he⟩:=pI.1 hx;rw[h.cell x hl,he]
theorem BW {B:Nat} {L:List Value} {W:World} {o:Nat} {d:ak} {s:aA} (h:av B L W) (hl:mM L o d s):mg W B o d s:=by obtain ⟨h0,h1,h2,h3,h4,h5,h6,h7⟩:=hl;exact ⟨vm h h0,vm h h1,vm h h2,vm h h3,vm h h4,vm h h5,vm h h6,vm h h7⟩
def sI (L:List Value) (o:Nat) (d:ak) (s:aA):List Value:=((((((((L.set o (.int .i64 d.ino)).set (o+1) (.int .i64 d.cl)).set (o+2) (.int .i64 d.un)).set (o+3) (.string d.rc)).set (o+4) (.slice s.a1 d.pg.length s.c1)).set (o+5) (.string d.aH)).set (o+6) (.slice s.a2 d.po.length s.c2)).set (o+7) (.slice s.a3 d.fr.length s.c3))
theorem aaA (L:List Value) (o:Nat) (d:ak) (s:aA):(sI L o d s).length=L.length:=by simp[sI]
theorem aaB (L:List Value) (o:Nat) (d:ak) (s:aA) (h:o+7<L.length):mM (sI L o d s) o d s:=by
 unfold mM sI;refine ⟨?_,?_,?_,?_,?_,?_,?_,?_⟩;all_goals
  simp[List.getElem?_set];try omega
theorem vn {L:List Value} {o x:Nat} {d:ak} {s:aA} (h:x<o\/o+7<x):(sI L o d s)[x]? = L[x]?:=by unfold sI;repeat rw[List.getElem?_set_ne (by omega)]
def jG (W:World) (B o:Nat) (d:ak) (s:aA):World:=((((((((W.setCell ⟨B,o,none⟩ (.int .i64 d.ino)).setCell ⟨B,o+1,none⟩ (.int .i64 d.cl)).setCell ⟨B,o+2,none⟩ (.int .i64 d.un)).setCell ⟨B,o+3,none⟩ (.string d.rc)).setCell ⟨B,o+4,none⟩ (.slice s.a1 d.pg.length s.c1)).setCell ⟨B,o+5,none⟩ (.string d.aH)).setCell ⟨B,o+6,none⟩ (.slice s.a2 d.po.length s.c2)).setCell ⟨B,o+7,none⟩ (.slice s.a3 d.fr.length s.c3))
theorem aaC {B o:Nat} {L:List Value} {W:World} {d:ak} {s:aA} (h:av B L W):av B (sI L o d s) (jG W B o d s):=(((((((h.set _ _).set _ _).set _ _).set _ _).set _ _).set _ _).set _ _).set _ _
theorem aaD {B o b:Nat} {w W:World} {d:ak} {s:aA} (h:Below b w W) (hb:b<=B):Below b w (jG W B o d s):=(((((((h.setCell (p:=⟨B,o,none⟩) hb _).setCell (p:=⟨B,o+1,none⟩) hb _).setCell (p:=⟨B,o+2,none⟩) hb _).setCell (p:=⟨B,o+3,none⟩) hb _).setCell (p:=⟨B,o+4,none⟩) hb _).setCell (p:=⟨B,o+5,none⟩) hb _).setCell (p:=⟨B,o+6,none⟩) hb _).setCell (p:=⟨B,o+7,none⟩) hb _
structure Ja where
 g1:Nat
 g2:Nat
 g3:Nat
variable {g b n k : Nat} {ds : List ak} {P : Nat → Ja} {L : List Value} {w W W' : World}
end
section
variable {g b n j B : Nat} {ds : List ak} {P : Nat → Ja} {L : List Value} {w W W' : World} {k : aL} {a : Option Addr} {c : Nat} {vs : List Value}
abbrev gV:List Value:=[.string ⟨#[]⟩,.string ⟨#[]⟩,.slice none 0 0,.int .i64 0]
structure BX (w:World) (k:aL) (a1 a2:Option Addr) (c1 c2:Nat) (W:World):Prop where
 x:av w.heap.size (cU k a1 c1) W
 y:av (w.heap.size+1) (cU k a2 c2) W
 ah:aj w W
theorem BX.below {a1 a2:Option Addr} {c1 c2:Nat} (h:BX w k a1 a2 c1 c2 W) (hb:aj W W'):BX w k a1 a2 c1 c2 W':=⟨h.x.below hb,h.y.below hb,h.ah.trans (hb.mono h.ah.size)⟩
variable {ss : Nat → aA}
end
theorem aaE (i:Int):(Lit.int .i64 (bA i)).wf=true:=by
 refine Ic _ ?_ ?_;all_goals
  unfold bA;split
  ·rename_i h;have:=pL h;omega
  ·omega
theorem vo (mem:ByteArray) (i:Int) (w:World) (hs:mem.size<=281474976710656):Calls prog 85 #[.string mem,ad i] w (dp (.string (ar mem i)) w):=by
 have hm:mem.size<=maxLen:=by unfold maxLen;omega
 have e:ar mem i=aO mem (bA i) 16:=rfl;rw[e];go_enter func85,ntmps85;go_wp2_with (first
  | (go_at_call 73;refine (tI _ _).mono ?_;rintro e w' ⟨rfl,rfl⟩)
  | (go_at_call 78;refine (np _ _ _ _ hm (aaE i) (by decide)).mono ?_;rintro e w' ⟨rfl,rfl⟩))
 go_ret;exact ⟨rfl,rfl⟩
theorem BY (mem:ByteArray) (z:Int) (w:World) (hs:mem.size<=281474976710656) (h0:5<=z) (h1:z<=23):Calls prog 74 #[.string mem,ad z] w (dp (.string (aO mem (z*32) 32)) w):=by
 have hm:mem.size<=maxLen:=by unfold maxLen;omega
 have hw:=Ic (z*32) (by omega) (by omega);go_enter func74,ntmps74;go_wp2_with (go_at_call 78;refine (np _ _ _ _ hm hw (by decide)).mono ?_;rintro e w' ⟨rfl,rfl⟩);go_ret;exact ⟨rfl,rfl⟩
theorem aaF:∃ C:Array Value,C.size=192/\∀ W:World,(Instr.makeSlice 22 (ad 0) (ad 192)).run prog W=.ok (bg W.heap.size 0 192) (W.alloc (.cells C 5)):=by
 obtain ⟨i0,hi,hz0,hz1,hz2⟩:=iW Is;refine ⟨madeCells (Value.int .u8 0).cells (192*i0.size),?_,fun W=>?_⟩
 ·have:(madeCells (Value.int .u8 0).cells (192*i0.size)).toList.length=192:=by
   rw[show (Value.int .u8 0).cells=#[Value.int .u8 0] from rfl,toList_madeCells_one,hz1]
   simp
  simpa using this
 exact run_make (P:=prog) W 22 5 i0 (.int .u8 0) underlying22 hi hz0 .i64 .i64 0 192 (by omega) (by omega) (by rw[hz2];omega) (by omega)
theorem Qk (mem:ByteArray) (a:Option Addr) (c:Nat) (zs:List Int) (w:World) (hm:mem.size=768) (hp:dW zs=true) (hl:zs.length<=6) (uA:aI w a zs):Calls prog 92 #[.string mem,.slice a zs.length c] w (aT (.string (dj mem zs zs.length)) w):=by
 obtain ⟨C,hC,hmk⟩:=aaF;have tj:=XU (base:=w.heap.size) w C 192 hC (by unfold maxLen;omega) (aq _);have CR:=aB w (.cells C 5);have hms:mem.size<=281474976710656:=by omega
 go_enter func92,ntmps92;go_wp2;go_loopw [5,11] (fun r i w'=>∃ (j g cap:Nat),j<=zs.length/\i=ad j/\r=bg g (32*j) cap/\fo w.heap.size w' g (32*j) cap (dj mem zs j)/\aj w w') (fun _ i _=>zs.length-(intOf i).toNat);case atStart=>exact ⟨0,w.heap.size,192,aS _,rfl,rfl,tj,CR⟩
 case round=>
 obtain ⟨j,g,cap,hj,rfl,rfl,hbuf,hbel⟩:=hrel;clear tj CR hmk;by_cases hlt:j<zs.length
 ·obtain ⟨b,off,rfl,hb,hc⟩:=(uA.below hbel).get hlt;have x1:=hc j hlt;have hz:=wJ hp hlt;have hu:dj mem zs (j+1)=dj mem zs j++aO mem (zs.getD j 0*32) 32:=rfl;obtain ⟨z,ez⟩:∃ z,zs.getD j 0=z:=⟨_,rfl⟩;rw[ez] at x1 hz hu;have hps:=Em hm hz.1 hz.2;have z0:0<=z:=by omega
  have z1:z<=23:=hz.2;have e1:(0:Int)<=(j:Int):=by omega
  have e2:(j:Int)<(zs.length:Int):=by omega
  have HU:Hid (dj mem zs (j+1)=dj mem zs j++aO mem (z*32) 32):=hu;clear hu ez hc hz;go_wp2_with (first
   | (go_at_call 90;refine (sn _ _ _ _ hms).mono ?_;rintro e w2 ⟨rfl,b2⟩;have yt:=hbuf.below b2;have je:=hbel.trans (b2.mono hbel.size))
   | (at_builtin;refine Og rfl (.tmp 15) (.tmp 19) rfl yt (aO mem (z*32) 32) (by rfl) (by rfl) (by omega) je.size ?_;intro g1 ij w3 An rN))
  go_roundw;case rel=>
   rw[hps] at An;exact ⟨j+1,g1,ij,by omega,by go_num,rfl,by rw[HU.out];exact An,je.trans rN⟩
  case measure=>simp[intOf];omega
 obtain rfl:j=zs.length:=by omega
 have hcv:=hbuf.conv;clear hbuf uA;go_wp2;go_ret;exact ⟨rfl,hbel⟩
theorem aaG (u:ByteArray) (n:Int) (h0:0<=n) (h1:n<=(u.size:Int)):aO u 0 n=u.extract 0 n.toNat:=by
 rw[aO,aF];·simp
 unfold cZ;simp;omega
theorem Ql (mem:ByteArray) (k o s:Int) (a:Option Addr) (c:Nat) (zs:List Int) (w:World) (hm:mem.size=768) (hp:dW zs=true) (hl:zs.length<=6) (hs0:0<=s) (hs1:s<=32*(zs.length:Int)) (hR:aI w a zs):Calls prog 142 #[.string mem,bO k o s a zs.length c] w (aT (.string ((dj mem zs zs.length).extract 0 s.toNat)) w):=by
 have nN:=bu (eV k o s a zs.length c) w 117;have hl0:=aB w (.cells (bj k o s a zs.length c) 117);have HT:Hid (∀ W,aj w W->_):=fun W hb=>Qk mem a c zs W hm hp hl (hR.below hb);have hsz:=Bt hm hp zs.length (aq _);rw[<- aaG _ _ hs0 (by omega)];obtain ⟨u,hu⟩:∃ u,dj mem zs zs.length=u:=⟨_,rfl⟩;rw[hu] at HT hsz ⊢;have jz:u.size<=281474976710656:=by omega
 have s1:(w.alloc (.cells (bj k o s a zs.length c) 117)).drew.cell? ⟨w.heap.size,2,none⟩=some (ad s)/\(w.alloc (.cells (bj k o s a zs.length c) 117)).drew.cell? ⟨w.heap.size,3,none⟩=some (.slice a zs.length c):=⟨nN.drew.c2,nN.drew.c3⟩;clear hR hu hsz;go_enter func142,ntmps142;go_wp2;go_region_held3 (fun W=>af W w.heap.size 2 (ad s)/\af W w.heap.size 3 (.slice a zs.length c)) (assumption) ((first
  | (go_at_call 92;refine (HT.out _ hl0.drew).mono ?_;rintro e w2 ⟨rfl,b2⟩;have hb2:=nN.drew.below b2;have l2:=hl0.drew.trans (b2.mono hl0.drew.size);have s2:af w2 w.heap.size 2 (ad s)/\af w2 w.heap.size 3 (.slice a zs.length c):=⟨hb2.c2,hb2.c3⟩)
  | (go_at_call 90;refine (sn _ _ _ _ jz).mono ?_;rintro e w3 ⟨rfl,b3⟩;have hb3:=hb2.below b3;have l3:=l2.trans (b3.mono l2.size);have s3:af w3 w.heap.size 2 (ad s)/\af w3 w.heap.size 3 (.slice a zs.length c):=⟨hb3.c2,hb3.c3⟩)))
 all_goals
  go_wp2;go_ret;exact ⟨rfl,l3⟩
theorem tP (s:ByteArray) (i:Int) (t:ByteArray):(bJ s i t).size=s.size:=by
 unfold bJ;split
 ·rename_i h;obtain ⟨h0,h1,h2⟩:=si h;rw[fk,fk,lU,lU];omega
 rfl
def xj:ByteArray:=⟨#[84,78,82,49]⟩
def zy:ByteArray:=bJ (bB 768) 0 xj
def B7 (o:Int):ByteArray:=bJ zy (bA 0) (dO 2 o 0 [])
def sJ (o:Int):ByteArray:=if eH 2 o 0 [] then B7 o else ⟨#[]⟩
theorem Qm:(bB 768).size<=281474976710656:=by rw[bB,aF (by decide),ni];decide
theorem aaH:xj.size<=281474976710656:=show 4<=281474976710656 by omega
theorem aaI {t:ByteArray} (ht:t.data.toList.map UInt8.toNat=[84,78,82,49]):t=xj:=by apply gm;apply jB.1;exact (List.map_inj_right (fun _ _ h=>UInt8.toNat.inj h)).1 (ht.trans rfl)
theorem aaJ:zy.size<=281474976710656:=by rw[zy,tP];exact Qm
theorem aaK (o:Int):(dO 2 o 0 []).size<=281474976710656:=bt (XM _ _ _ _) (by decide)
structure fE (w:World) (o:Int) (W:World):Prop where
 iT:av w.heap.size (eV 2 o 0 none 0 0) W
 ah:aj w W
theorem fE.below {w W W':World} {o:Int} (h:fE w o W) (hb:aj W W'):fE w o W':=⟨h.iT.below hb,h.ah.trans (hb.mono h.ah.size)⟩
theorem fE.drewN {w W:World} {o:Int} (h:fE w o W) (n:Nat):fE w o (W.drewN n):=⟨h.iT.drewN n,cL h.ah n⟩
theorem fE.four {w W:World} {o:Int} (h:fE w o W):af W w.heap.size 0 (ad 2)/\af W w.heap.size 1 (ad o)/\af W w.heap.size 2 (ad 0)/\af W w.heap.size 3 (.slice none 0 0):=⟨h.iT.c0,h.iT.c1,h.iT.c2,h.iT.c3⟩
section
variable {w W : World} {o : Int}
theorem Qn {r:Bool} (hr:eH 2 o 0 []=r) (h:fE w o W):Calls prog 162 #[bO 2 o 0 none 0 0] W fun e w'=>e=.returned (.bool r)/\fE w o w':=(Oc 2 o 0 none 0 [] W (by simp) (by simp) (Or.inl rfl)).mono fun _ _ ⟨he,hb⟩=>⟨by rw[he,hr],h.below hb⟩
theorem aaL {p:ByteArray} (hp:dO 2 o 0 []=p) (h:fE w o W):Calls prog 111 #[bO 2 o 0 none 0 0] W fun e w'=>e=.returned (.string p)/\fE w o w':=(Bz 2 o 0 none 0 [] W (by simp) (by simp) (Or.inl rfl)).mono fun _ _ ⟨he,hb⟩=>⟨by rw[he,hp];done,h.below hb⟩
theorem aaM {z:ByteArray} (hz:bB 768=z) (h:fE w o W):Calls prog 75 #[ad 768] W fun e w'=>e=.returned (.string z)/\fE w o w':=(nj 768 W).mono fun _ _ ⟨he,hb⟩=>⟨by rw[he,hz],by rw[hb];exact h⟩
theorem aaN {x:Int} (hx:bA 0=x) (h:fE w o W):Calls prog 73 #[ad 0] W fun e w'=>e=.returned (ad x)/\fE w o w':=(tI 0 W).mono fun _ _ ⟨he,hb⟩=>⟨by rw[he,hx],by rw[hb];exact h⟩
theorem aaO {z t g:ByteArray} (ht:t.data.toList.map UInt8.toNat=[84,78,82,49]) (hs:z.size<=281474976710656) (hu:bJ z 0 xj=g) (h:fE w o W):Calls prog 60 #[.string z,ad 0,.string t] W fun e w'=>e=.returned (.string g)/\fE w o w':=by obtain rfl:=aaI ht;exact (sk z 0 xj W hs aaH).mono fun _ _ ⟨he,n,hb⟩=>⟨by rw[he,hu],by rw[hb];exact h.drewN n⟩
theorem aaP {s t u:ByteArray} {i:Int} (hs:s.size<=281474976710656) (ht:t.size<=281474976710656) (hu:bJ s i t=u) (h:fE w o W):Calls prog 60 #[.string s,ad i,.string t] W fun e w'=>e=.returned (.string u)/\fE w o w':=(sk s i t W hs ht).mono fun _ _ ⟨he,n,hb⟩=>⟨by rw[he,hu],by rw[hb];exact h.drewN n⟩
end
section
def iB (base:Nat) (w:World) (a:Option Addr) (n cap:Nat) (zs:List Int):Prop:=zs.length=n*2/\w.ownsRow base 114 2 (.slice a n cap) n (bU zs)
theorem aaQ:(prog.info? 114).map (fun i=>(i.zero,i.size,i.bytes))=some (some (.agg #[ad 0,ad 0]),2,16):=by kernel_rfl
variable {base n cap : Nat} {a : Option Addr} {w W : World} {zs : List Int}
theorem iB.below (h:iB base w a n cap zs) (hb:aj w W):iB base W a n cap zs:=⟨h.1,uO h.2 hb⟩
theorem iB.alloc (h:iB base w a n cap zs) (o:Obj):iB base (w.alloc o) a n cap zs:=h.below ((aK _ _).alloc (aq _) o)
theorem Qo (w:World) (x y:Int) (hb:base<=w.heap.size):iB base (w.alloc (.cells #[ad x,ad y] 114)) (some ⟨w.heap.size,0,none⟩) 1 1 [x,y]:=⟨rfl,rfl,Or.inr ⟨w.heap.size,1,#[ad x,ad y],rfl,hb,pF w _,aq _,by unfold maxLen;omega,rfl,rfl⟩⟩
theorem iB.fits (h:iB base w a n cap zs):n<=cap:=by
 rcases h.2.2 with ⟨h0,h1⟩ | ⟨g,c,cur,hv,_,_,hle,_⟩;·omega
 simp at hv;omega
theorem iB.own (h:iB base w a n cap zs):aQ base w a zs:=by
 rcases h.2.2 with ⟨h0,h1⟩ | ⟨g,c,cur,hv,hg,hc,hle,_,hs,ht⟩
 ·left;exact mW (by rw[h.1,h1])
 right;simp at hv;have hn:=h.1;refine ⟨g,hv.1,hg,⟨fun j hj=>?_,fun j hj=>?_,(mY.1 hc).1⟩⟩
 ·have hcell:w.cell? ⟨g,j,none⟩=cur[j]?:=by
   unfold World.cell?;rw[hc];simp
  have hj':j<zs.length:=by simpa using hj
  have e1:(cur.toList.take (n*2))[j]? = (bU zs)[j]?:=by rw[ht]
  rw[AW (by omega)] at e1;rw[hcell,<- Hq,e1];simp[hj']
 unfold World.frozen?;rw[hc];simp
theorem aaR (x y:Int):∀ u ∈ [Value.int .i64 x,ad y],u.oneCell'=true:=by intro u h;simp at h;rcases h with rfl | rfl <;> rfl
theorem zA {ops:Array Oper} {rest:List Oper} {o:Oper} {A:Act} {Q:Exit->Act->World->Prop} (hgd:o.guard=none) (sl x:Operand) (ho:o.op=.call { callee:=.builtin .append,args:=#[sl,x],argTypes:=#[110,110] }) (hbuf:iB base w a n cap zs) (u v:Int) (hs:A.eval sl=.slice a n cap) (hx:A.eval x=bg w.heap.size 1 1) (hlen:n+1<=1048576) (hb:base<=w.heap.size) (h:∀ g' cap' w',iB base w' (some ⟨g',0,none⟩) (n+1) cap' (zs ++ [u,v])->Below base w w'->wpList prog ops Q rest (A.put o.dst (bg g' (n+1) cap')) w'):wpList prog ops Q (o :: rest) A (w.alloc (.cells #[ad u,ad v] 114)):=by
 obtain ⟨i0,hi,hz0,hz1,hz2⟩:=iW aaQ;have hb2:=hbuf.alloc (.cells #[ad u,ad v] 114);refine rY _ hgd sl x 110 ho base 114 i0 (.agg #[ad 0,ad 0]) 2 16 underlying110 hi hz0 hz1 hz2 rfl (by omega) _ n _ hs hb2.2 ⟨w.heap.size,0,none⟩ 1 1 [ad u,ad v] hx rfl (rZ (pF w _)) (aaR u v) (by omega) (by unfold maxLen;omega) (by omega) (by simp;omega) _ rfl ?_;intro g' cap' w' ho' hg' _ _;refine h g' cap' w' ⟨by rw[bY,hbuf.1];simp;omega,?_⟩ ?_
 ·rw[show bU (zs ++ [u,v])=bU zs ++ [ad u,ad v] by simp];exact ho'
 exact lY ((aK _ _).alloc hb _) hg' (fun g hg=>(hbuf.2.lt g hg).1) (by simp;omega)
end
section
variable {lo hi lo' hi' g : Nat} {w W W' w' : World}
def Fh (b m:Nat) (W:World):Prop:=∀ j,j<m->(∃ v,W.cell? ⟨b,j,none⟩=some v)/\W.frozen? ⟨b,j,none⟩=false
theorem aaS {b m:Nat} (h:Fh b m W) (p:Addr) (v:Value):Fh b m (W.setCell p v):=by
 intro j hj;obtain ⟨⟨u,hu⟩,hf⟩:=h j hj;refine ⟨?_,by rw[iI];exact hf⟩;by_cases e:p=⟨b,j,none⟩
 ·subst e;exact ⟨v,rW _ _ _ hu⟩
 exact ⟨u,by rw[fJ _ _ _ _ e];exact hu⟩
structure jH (lo hi:Nat) (w w':World):Prop where
 os:w'.os=w.os
 tape:w'.tape=w.tape
 output:w'.output=w.output
 size:w.heap.size<=w'.heap.size
 block:∀ k,k<w.heap.size->k<lo\/hi<=k->w'.heap[k]? = w.heap[k]?
 wr:∀ b m,Fh b m w->Fh b m w'
theorem jH.refl (lo hi:Nat) (w:World):jH lo hi w w:=⟨rfl,rfl,rfl,aq _,fun _ _ _=>rfl,fun _ _ h=>h⟩
theorem jH.trans (h:jH lo hi w W) (k:jH lo hi W W'):jH lo hi w W':=⟨k.os.trans h.os,k.tape.trans h.tape,k.output.trans h.output,bt h.size k.size,fun i hi hx=>(k.block i (cS hi h.size) hx).trans (h.block i hi hx),fun b m hw=>k.wr b m (h.wr b m hw)⟩
theorem jH.set (h:jH lo hi w W) {p:Addr} (h1:lo<=p.block) (h2:p.block<hi) (v:Value):jH lo hi w (W.setCell p v):=h.trans ⟨rfl,rfl,rfl,by simp[World.setCell],fun k hk hx=>Nv _ _ _ _ (by omega),fun b m hw=>aaS hw p v⟩
theorem jH.below {b:Nat} (h:jH lo hi w W) (hb:b<=lo) (hs:b<=w.heap.size):Below b w W:=⟨h.os,h.tape,h.output,h.size,fun k hk=>h.block k (by omega) (by omega)⟩
theorem aaT {B:Nat} {vs:List Value} (h:av B vs w) (hb:jH lo hi w W) (hx:B<lo\/hi<=B):av B vs W:=by
 have e:=hb.block B h.lt hx;refine ⟨fun j hj=>?_,fun j hj=>?_,cS h.lt hb.size⟩
 ·rw[uM (a:=⟨B,j,none⟩) e];exact h.cell j hj
 rw[yO (a:=⟨B,j,none⟩) e];exact h.free j hj
def jb (lo hi:Nat) (W:World) (a:Option Addr) (zs:List Int):Prop:=zs=[]\/∃ g,a=some ⟨g,0,none⟩/\lo<=g/\g<hi/\av g (bU zs) W
variable {a : Option Addr} {zs : List Int}
theorem jb.row (h:jb lo hi W a zs):aI W a zs:=by
 rcases h with h | ⟨g,rfl,_,_,hb⟩;·exact Or.inl h
 exact wR hb
theorem jb.below (h:jb lo hi W a zs) (hb:aj W W'):jb lo hi W' a zs:=h.imp id fun ⟨g,e,h1,h2,hk⟩=>⟨g,e,h1,h2,hk.below hb⟩
theorem jb.wh (h:jb lo hi W a zs) (hb:jH lo' hi' W W') (hx:hi<=lo'\/hi'<=lo):jb lo hi W' a zs:=h.imp id fun ⟨g,e,h1,h2,hk⟩=>⟨g,e,h1,h2,aaT hk hb (by omega)⟩
theorem jb.set (h:jb lo hi W a zs) {B:Nat} (hB:B<lo) (j:Nat) (v:Value):jb lo hi (W.setCell ⟨B,j,none⟩ v) a zs:=h.imp id fun ⟨g,e,h1,h2,hk⟩=>⟨g,e,h1,h2,hk.aR (by omega) j v⟩
theorem Fi (h:aQ lo W a zs):jb lo W.heap.size W a zs:=h.imp id fun ⟨g,e,h1,hk⟩=>⟨g,e,h1,hk.lt,hk⟩
theorem jb.mono (h:jb lo hi W a zs) (h1:lo'<=lo) (h2:hi<=hi'):jb lo' hi' W a zs:=h.imp id fun ⟨g,e,l1,l2,hk⟩=>⟨g,e,by omega,by omega,hk⟩
theorem aaU (a:Option Addr) (c:Nat) (zs:List Int) (w:World) (hn:zs.length<=1048576) (hR:aI w a zs):Calls prog 94 #[.slice a zs.length c] w fun e w'=>∃ a' c',e=.returned (.slice a' zs.length c')/\aQ w.heap.size w' a' zs/\aj w w':=by
 have qn:∀ (w:World) (a:Option Addr) (n c n' c':Nat),(binOp .eql 29 (.slice a n c) (.slice none n' c')).run prog w=.ok (.bool a.isNone) w:=fun w a n c n' c'=>Xh w _ _ a n c n' c' underlying29;cases a with
 | none=>
  have h0:zs=[]:=by
   rcases hR with h | ⟨b,off,h,_⟩;·exact h
   cases h
  subst h0;go_enter func94,ntmps94;go_wp2;go_ret;exact ⟨none,0,rfl,Or.inl rfl,aK _ _⟩
 | some p=>
  have b0:=fq w (aq _);have l0:=aB w (.cells #[] 3);have r0:=hR.below l0;clear hR;go_enter func94,ntmps94;go_wp2_with (at_builtin;refine pP rfl (.tmp 5) (.tmp 6) rfl b0 _ _ zs (by rfl) (by rfl) r0 (by omega) l0.size ?_;intro a1 c1 w1 b1 l1);go_ret;exact ⟨a1,c1,by simp,by simpa using b1.own,l0.trans l1⟩
end
section
variable {P : Program} {ops : Array Oper} {Q : Exit → Act → World → Prop} {md : Region.Mode} {S : World → Prop} {oi : Oper} {fuel i : Nat} {listed l' : Array Bool} {a a' : Act} {w w' : World}
theorem zB {i j:Nat} (hr:Region.ready md ops listed=[i,j]) (h1:wpOp P ops Q i (fun a' w'=>S w'/\wpAnyH P md ops Q S fuel (listed.setIfInBounds i true) a' w') a w) (h2:wpOp P ops Q j (fun a' w'=>S w'/\wpAnyH P md ops Q S fuel (listed.setIfInBounds j true) a' w') a w):wpAnyH P md ops Q S (fuel+1) listed a w:=by
 refine pG hr (by simp) ?_;intro x hx;rcases iY.1 hx with rfl | hx;·exact h1
 obtain rfl:=lW.1 hx;exact h2
theorem aaV {i j k:Nat} (hr:Region.ready md ops listed=[i,j,k]) (h1:wpOp P ops Q i (fun a' w'=>S w'/\wpAnyH P md ops Q S fuel (listed.setIfInBounds i true) a' w') a w) (h2:wpOp P ops Q j (fun a' w'=>S w'/\wpAnyH P md ops Q S fuel (listed.setIfInBounds j true) a' w') a w) (h3:wpOp P ops Q k (fun a' w'=>S w'/\wpAnyH P md ops Q S fuel (listed.setIfInBounds k true) a' w') a w):wpAnyH P md ops Q S (fuel+1) listed a w:=by
 refine pG hr (by simp) ?_;intro x hx;rcases iY.1 hx with rfl | hx;·exact h1
 rcases iY.1 hx with rfl | hx;·exact h2
 obtain rfl:=lW.1 hx;exact h3
theorem ot {i:Nat} (hr:Region.ready md ops listed=[i]) (h1:wpOp P ops Q i (fun a' w'=>S w'/\wpAnyH P md ops Q S fuel (listed.setIfInBounds i true) a' w') a w):wpAnyH P md ops Q S (fuel+1) listed a w:=by refine pG hr (by simp) ?_;intro x hx;obtain rfl:=lW.1 hx;exact h1
theorem nE (i:Nat) (u:Value) (w':World) (hS:S w') (h:wpAnyH P md ops Q S fuel l' a' w') (ho:ops[i]? = some oi:=by exact rfl) (hw:Region.wanted oi (yielded ops a.tmps)=true:=by rfl) (hl:listed.setIfInBounds i true=l':=by (try simp only[ao]);exact rfl) (ha:a.put oi.dst u=a':=by (try simp only[ao,Act.put,Nat.reduceAdd]);exact rfl) (he:(execOp a.eval oi).run P w=.ok (.value u) w'):wpOp P ops Q i (fun a' w'=>S w'/\wpAnyH P md ops Q S fuel (listed.setIfInBounds i true) a' w') a w:=by subst hl ha;unfold wpOp;rw[ho];refine gT hw (.inl ?_);unfold Oper.wp;rw[he];exact ⟨hS,h⟩
theorem B8 (i f:Nat) (x y:Operand) (ts:Array TypeId) (v u1 u:Value) (hc:Calls P f #[v,u1] w (dp u w)) (hS:S w) (h:wpAnyH P md ops Q S fuel l' a' w) (eg:∀ args w,(callFunc f args).run P w=.ok (.enter f args) w) (ho:ops[i]? = some oi:=by exact rfl) (hw:Region.wanted oi (yielded ops a.tmps)=true:=by rfl) (hop:oi.op=.call { callee:=.value (.func f),args:=#[x,y],argTypes:=ts }:=by exact rfl) (hx0:a.eval x=v:=by rfl) (hx1:a.eval y=u1:=by rfl) (hl:listed.setIfInBounds i true=l':=by (try simp only[ao]);exact rfl) (ha:a.put oi.dst u=a':=by (try simp only[ao,Act.put,Nat.reduceAdd]);exact rfl):wpOp P ops Q i (fun a' w'=>S w'/\wpAnyH P md ops Q S fuel (listed.setIfInBounds i true) a' w') a w:=by
 subst hl ha;unfold wpOp;rw[ho];refine gT hw (.inl ?_);have he:(execOp a.eval oi).run P w=.ok (.enter f #[v,u1]) w:=by subst hx0 hx1;simp[execOp,hop,resolve,go_sem,invoke,eg]
 unfold Oper.wp;rw[he];refine mC hc ?_;rintro e w' ⟨rfl,rfl⟩;exact ⟨hS,h⟩
end
theorem aaW {P:Program} {ops:Array Oper} {Q:Exit->Act->World->Prop} {md:Region.Mode} {S:World->Prop} {oi:Oper} {fuel:Nat} {listed:Array Bool} {a:Act} {w:World} (i f:Nat) (x y:Operand) (ts:Array TypeId) (v u1:Value) (ho:ops[i]? = some oi) (hw:Region.wanted oi (yielded ops a.tmps)=true) (hop:oi.op=.call { callee:=.value (.func f),args:=#[x,y],argTypes:=ts }) (hx0:a.eval x=v) (hx1:a.eval y=u1) (eg:∀ args w,(callFunc f args).run P w=.ok (.enter f args) w) (hc:Calls P f #[v,u1] w fun e w'=>∃ u,e=.returned u/\S w'/\wpAnyH P md ops Q S fuel (listed.setIfInBounds i true) (a.put oi.dst u) w'):wpOp P ops Q i (fun a' w'=>S w'/\wpAnyH P md ops Q S fuel (listed.setIfInBounds i true) a' w') a w:=by
 unfold wpOp;rw[ho];refine gT hw (.inl ?_);have he:(execOp a.eval oi).run P w=.ok (.enter f #[v,u1]) w:=by subst hx0 hx1;simp[execOp,hop,resolve,go_sem,invoke,eg]
 unfold Oper.wp;rw[he];refine mC hc ?_;rintro e w' ⟨u,rfl,h⟩;exact h
theorem aaX (n:Int):bits .and .i64 n 255=n % 256:=by
 have agi:(BitVec.ofInt 64 255).toNat=2 ^ 8-1:=by decide
 have key:(BitVec.ofInt 64 n &&& BitVec.ofInt 64 255).toNat=(n % ((2 ^ 64:Nat):Int)).toNat % 2 ^ 8:=by rw[BitVec.toNat_and,BitVec.toNat_ofInt,agi,Nat.and_two_pow_sub_one_eq_mod]
 show IntKind.i64.wrap ((BitVec.ofInt 64 n &&& BitVec.ofInt 64 255).toNat:Nat)=n % 256
 rw[key,se];omega
theorem B9 {w0 w:World} {c:Nat} {a:Option Addr} {len cap:Nat} (hcode:kD w0 a len) (h:cA w0 w c a len cap) (hlen:len<=1048576):Calls prog 114 #[.pointer (some ⟨c,0,none⟩)] w fun e w'=>(∃ x:Int,0<=x/\x<256/\e=.returned (.int .i64 x))/\cA w0 w' c a len cap/\w.grownBy w' (some c):=by
 obtain ⟨k,y,hk,c0,c1,c2⟩:=h.cur.cells;have f1:=h.cur.Gx;have f2:=h.cur.He;have hlt:=h.cur.lt;have ha:=aaX;by_cases hkl:k<len
 ·obtain ⟨b,off,z,rfl,hb,z0,z1,hz⟩:=hcode k hkl;have hne:b≠c:=by have:=h.new;omega
  have hz2:∀ v,(w.setCell ⟨c,2,none⟩ v).cell? ⟨b,off+k,none⟩=some (.int .u8 z):=fun v=>by rw[fJ _ _ _ _ (fun e=>hne (yM e).1.symm),h.ah.cell (p:=⟨b,off+k,none⟩) hb];exact hz
  have e1:(0:Int)<=(k:Int):=by omega
  have e2:(k:Int)<(len:Int):=by omega
  clear hz;go_enter func114,ntmps114;go_wp2;go_quiet (fail);go_wp2;go_quiet (fail);go_wp2;go_quiet (fail);go_wp2;go_ret;exact ⟨⟨_,by omega,by omega,rfl⟩,((h.Vk _).drewN _).ahR _ (k+1) (by omega) (by omega),BQ (I9 (BQ (E8 _ _) _) _) _⟩
 go_enter func114,ntmps114;go_wp2;go_quiet (fail);go_wp2;go_quiet (fail);go_wp2;go_ret;exact ⟨⟨_,by omega,by omega,rfl⟩,((h.Vk _).drewN _).drewN _,I9 (I9 (BQ (E8 _ _) _) _) _⟩
theorem sL {w0 w:World} {c:Nat} {a:Option Addr} {len cap:Nat} (hcode:kD w0 a len) (h:cA w0 w c a len cap) (hlen:len<=1048576) (n:Int) (h0:0<n) (h1:n<=2147483648):Calls prog 53 #[.pointer (some ⟨c,0,none⟩),.int .i64 n] w fun e w'=>(∃ x:Int,0<=x/\x<n/\e=.returned (.int .i64 x))/\cA w0 w' c a len cap/\w.grownBy w' (some c):=by
 have h0':¬ n<=0:=by omega
 by_cases h2:n<=256
 ·go_enter func53,ntmps53;go_wp2_with (go_at_call 114;refine (B9 hcode h hlen).mono ?_;rintro e w1 ⟨⟨x,x0,x1,rfl⟩,s1,g1⟩);go_ret;exact ⟨⟨_,Int.emod_nonneg _ (by omega),Int.emod_lt_of_pos _ h0,rfl⟩,s1,g1⟩
 go_enter func53,ntmps53;go_wp2_with (first
  | (go_at_call 114;refine (B9 hcode s3 hlen).mono ?_;rintro e w4 ⟨⟨x4,x40,x41,rfl⟩,s4,g4⟩)
  | (go_at_call 114;refine (B9 hcode s2 hlen).mono ?_;rintro e w3 ⟨⟨x3,x30,x31,rfl⟩,s3,g3⟩)
  | (go_at_call 114;refine (B9 hcode s1 hlen).mono ?_;rintro e w2 ⟨⟨x2,x20,x21,rfl⟩,s2,g2⟩)
  | (go_at_call 114;refine (B9 hcode h hlen).mono ?_;rintro e w1 ⟨⟨x1,x10,x11,rfl⟩,s1,g1⟩))
 go_ret;exact ⟨⟨_,Int.emod_nonneg _ (by omega),Int.emod_lt_of_pos _ h0,rfl⟩,s4,pU (pU (pU g1 g2) g3) g4⟩
structure xl (w:World) (l n:Nat) (Q:Value->Prop):Prop where
 lt:l<w.heap.size
 cell:∀ j,j<n->∃ v,Q v/\w.cell? ⟨l,j,none⟩=some v
theorem xl.grown {w w':World} {l n c:Nat} {Q:Value->Prop} (h:xl w l n Q) (hg:w.grownBy w' (some c)) (hne:l≠c):xl w' l n Q:=
 ⟨cS h.lt hg.size,fun j hj=>by obtain ⟨v,hv,hc⟩:=h.cell j hj;refine ⟨v,hv,?_⟩;rw[uM (a:=⟨l,j,none⟩) (hg.block l h.lt (fun e=>hne (jT e)))];exact hc⟩
theorem xl.new (w:World) (C:Array Value) (T:TypeId) (Q:Value->Prop) (h:∀ j (hj:j<C.size),Q C[j]):xl (w.alloc (.cells C T)) w.heap.size C.size Q:=⟨by show _<(w.heap.push _).size;simp,fun j hj=>⟨C[j],h j hj,by rw[rV,WO hj]⟩⟩
def qT (v:Value):Prop:=∃ z:Int,(Lit.int .i64 z).wf=true/\v=.int .i64 z
theorem aaY {w0 w:World} {c l n cp:Nat} {a:Option Addr} {len cap:Nat} (hcode:kD w0 a len) (h:cA w0 w c a len cap) (hlen:len<=1048576) (hof:xl w l n qT) (hne:l≠c) (h0:0<n) (h1:n<=100):Calls prog 58 #[.pointer (some ⟨c,0,none⟩),.slice (some ⟨l,0,none⟩) n cp] w fun e w'=>(∃ z:Int,(Lit.int .i64 z).wf=true/\e=.returned (.int .i64 z))/\cA w0 w' c a len cap/\w.grownBy w' (some c):=by go_enter func58,ntmps58;go_wp2_with (go_at_call 53;refine (sL hcode h hlen (n:Int) (by omega) (by omega)).mono ?_;rintro e w1 ⟨⟨x,x0,x1,rfl⟩,s1,g1⟩;obtain ⟨j,rfl⟩:∃ j:Nat,x=(j:Int):=⟨x.toNat,by omega⟩;obtain ⟨v,⟨z,wz,rfl⟩,hc⟩:=(hof.grown g1 hne).cell j (by omega));go_ret;exact ⟨⟨z,wz,rfl⟩,s1,g1⟩
theorem aaZ:(prog.info? 5).map (fun i=>(i.zero,i.size,i.bytes))=some (some (.int .u8 0),1,1):=by kernel_rfl
abbrev Fj (l:List UInt8):List Value:=l.map fun b=>Value.int .u8 (b.toNat:Int)
theorem aa0 (x:Int):∀ u ∈ [Value.int .u8 x],u.oneCell'=true:=by intro u h;simp at h;subst h;rfl
theorem aa1 {w:World} {base:Nat} {e:TypeId} {g n cap:Nat} {l:List UInt8} (h:w.ownsRow base e 1 (.slice (some ⟨g,0,none⟩) n cap) n (Fj l)):tG w g 0 l:=by intro j hj;have:=h.cells (g:=g) rfl j (.int .u8 (l[j].toNat:Int)) (by simp[hj]);rwa [nT] at this
theorem Qp {w:World} {a:Option Addr} {len cap:Nat} (x:Int) (T:TypeId):cA w (w.alloc (.cells #[.slice a len cap,.int .i64 0,.int .i64 x] T)) w.heap.size a len cap:=by
 refine ⟨(aK _ _).alloc (aq _) _,aq _,⟨by show _<(w.heap.push _).size;simp,⟨0,x,aS _,?_,?_,?_⟩,?_,?_⟩⟩;·rw[rV];rfl
 ·rw[rV];rfl
 ·rw[rV];rfl
 ·have:=AP w #[.slice a len cap,.int .i64 0,.int .i64 x] T 0 0 1;rw[this];simp
 have:=AP w #[.slice a len cap,.int .i64 0,.int .i64 x] T 0 0 2;rw[this];simp
theorem aa2 {w:World} {a:Option Addr} {len cap:Nat} (hcode:kD w a len) (hlen:len<=1048576):Calls prog 13 #[.slice a len cap] w fun e w'=>∃ c,e=.returned (.pointer (some ⟨c,0,none⟩))/\cA w w' c a len cap:=by
 go_enter func13,ntmps13;go_wp2;go_loop [3,4] (fun t i=>∃ (k:Nat) (x:Int),k<=len/\i=.int .i64 k/\t=.int .i64 x) (fun _ i=>len-(intOf i).toNat)
 case atStart=>exact ⟨0,_,aS _,rfl,rfl⟩
 case round=>
 obtain ⟨k,x,hk,rfl,rfl⟩:=hrel;by_cases hlt:k<len
 ·have e1:(0:Int)<=(k:Int):=by omega
  have e2:(k:Int)<(len:Int):=by omega
  obtain ⟨b,off,z,rfl,hb,z0,z1,hz⟩:=hcode k hlt;by_cases h4:(k:Int)<4000
  ·go_wp2;go_round;case rel=>exact ⟨k+1,_,by omega,by go_num,rfl⟩
   case measure=>simp[intOf];omega
  have h4':decide ((k:Int)<4000)=false:=by simpa using h4
  go_wp2;go_ret;exact ⟨_,rfl,Qp _ _⟩
 have hf:decide ((k:Int)<(len:Int))=false:=by simp;omega
 go_wp2;go_ret;exact ⟨_,rfl,Qp _ _⟩
section
theorem Jb {w W1 W2:World} {c g:Nat} (h:w.grownBy W1 (some c)) (h':W1.grownBy W2 (some g)) (hg:w.heap.size<=g):w.grownBy W2 (some c):=
 ⟨h'.os.trans h.os,h'.tape.trans h.tape,h'.output.trans h.output,bt h.size h'.size,fun k hk hr=>by rw[h'.block k (cS hk h.size) (fun e=>by have:=jT e;omega)];exact h.block k hk hr⟩
theorem zC {w W:World} {c:Nat} (h:Below w.heap.size w W):w.grownBy W (some c):=⟨h.os,h.tape,h.output,h.size,fun k hk _=>h.block k hk⟩
theorem aa3 {w0 w:World} {c:Nat} {a:Option Addr} {len cap:Nat} (hcode:kD w0 a len) (h:cA w0 w c a len cap) (hlen:len<=1048576) (n:Nat) (h1:n<=1048576):Calls prog 61 #[.pointer (some ⟨c,0,none⟩),.int .i64 (n:Int)] w fun e w'=>(∃ s:ByteArray,s.size=n/\e=.returned (.string s))/\cA w0 w' c a len cap/\w.grownBy w' (some c):=by
 obtain ⟨i0,hi,hz0,hz1,hz2⟩:=iW aaZ;have hcl:=h.cur.lt;have hn0:=h.new;go_enter func61,ntmps61;go_wp2;go_loopw [5,6] (fun v i w'=>∃ (k:Nat) (l:List UInt8) (g cp:Nat),k<=n/\l.length=k/\i=.int .i64 k/\v=.slice (some ⟨g,0,none⟩) k cp/\w.heap.size<=w'.heap.size/\w'.ownsRow w.heap.size 5 1 (.slice (some ⟨g,0,none⟩) k cp) k (Fj l)/\cA w0 w' c a len cap/\w.grownBy w' (some c)) (fun _ i _=>n-(intOf i).toNat);case atStart=>exact ⟨0,[],_,_,aS _,rfl,rfl,rfl,by simp,tu w #[] 0 (aq _) (aS _) rfl,h.below ((aK _ _).alloc (aq _) _),zC ((aK _ _).alloc (aq _) _)⟩
 case round=>
 obtain ⟨k,l,g,cp,hk,hl,rfl,rfl,hB,hown,hst,hgr⟩:=hrel;have hg:w.heap.size<=g:=(hown.lt g rfl).1;by_cases hlt:k<n
 ·have hlt':(k:Int)<(n:Int):=by omega
  go_wp2_with (first
   | (go_at_call 53;refine (sL hcode hst hlen 256 (by omega) (by omega)).mono ?_;rintro e w1 ⟨⟨x,x0,x1,rfl⟩,s1,g1⟩;have hown1:=hown.kept g1 (Or.inr (by simp[Value.ownBlock];omega));have hB1:=bt hB g1.size)
   | (at_builtin;refine rY _ rfl (.tmp 13) (.tmp 17) 22 rfl w.heap.size 5 i0 (.int .u8 0) 1 1 underlying22 hi hz0 hz1 hz2 rfl (by omega) _ _ _ (by rfl) (hown1.alloc _) ⟨w1.heap.size,0,none⟩ 1 1 [.int .u8 x] (by rfl) rfl (rZ (pF w1 _)) (aa0 _) (by omega) (by unfold maxLen;omega) (by omega) (by simp;omega) _ rfl ?_;intro g2 cap2 w2 hown2 hgrow hat hlt2))
  go_roundw;case rel=>
   refine ⟨k+1,l ++ [UInt8.ofNat x.toNat],g2,cap2,by omega,by simp[hl],by go_num,rfl,?_,?_,?_,?_⟩;·exact bt (by simp;omega) hgrow.size
   ·have e:Fj (l ++ [UInt8.ofNat x.toNat])=Fj l ++ [.int .u8 x]:=by
     have:x.toNat<256:=by omega
     simp[Hr this];omega
    rw[e];exact hown2
   ·exact (s1.below ((aK _ _).alloc (aq _) _)).grown (g:=g) hgrow (by omega) (by omega)
   exact Jb (om (pU hgr g1) ((aK _ _).alloc (aq _) _)) hgrow hg
  case measure=>simp[intOf];omega
 obtain rfl:k=n:=by omega
 have hcv:=qE (P:=prog) wr 22 9 5 g 0 cp l underlying22 underlying5 underlying9 (aa1 hown) k hl.symm;go_wp2;go_ret;exact ⟨⟨⟨l.toArray⟩,by show l.toArray.size=_;simp[hl],rfl⟩,hst,hgr⟩
theorem Ca {B g:Nat} {vs:List Value} {w w':World} (h:av B vs w) (hg:w.grownBy w' (some g)) (hne:B≠g):av B vs w':=by
 have hb:w'.heap[B]? = w.heap[B]?:=hg.block B h.lt (fun e=>hne (jT e));refine ⟨fun j hj=>?_,fun j hj=>?_,cS h.lt hg.size⟩
 ·rw[uM (a:=⟨B,j,none⟩) hb];exact h.cell j hj
 rw[yO (a:=⟨B,j,none⟩) hb];exact h.free j hj
theorem Qq {w0 w:World} {c:Nat} {a:Option Addr} {len cap:Nat} (hcode:kD w0 a len) (h:cA w0 w c a len cap) (hlen:len<=1048576) (n:Int) (h0:0<=n) (h1:n<=1048576):Calls prog 61 #[.pointer (some ⟨c,0,none⟩),.int .i64 n] w fun e w'=>(∃ s:ByteArray,(s.size:Int)=n/\e=.returned (.string s))/\cA w0 w' c a len cap/\w.grownBy w' (some c):=by obtain ⟨m,rfl⟩:∃ m:Nat,n=(m:Int):=⟨n.toNat,by omega⟩;exact (aa3 hcode h hlen m (by omega)).mono fun e w' ⟨⟨s,hs,he⟩,h2⟩=>⟨⟨s,by omega,he⟩,h2⟩
theorem Jc (n:Int) (h0 : -9223372036854775808<=n) (h1:n<=9223372036854775807):(Lit.int .i64 n).wf=true:=by simp[Lit.wf,IntKind.min,IntKind.max,IntKind.signed,IntKind.bits];omega
theorem xm (n:Int) (h0 : -9223372036854775808<=n) (h1:n<=9223372036854775807):IntKind.i64.wrap n=n:=by rw[se];omega
theorem qU {w W:World} {c B j:Nat} {v:Value} (h:w.grownBy W (some c)) (hB:w.heap.size<=B):w.grownBy (W.setCell ⟨B,j,none⟩ v) (some c):=Jb h (BQ (E8 _ _) v) hB
theorem tQ {z:Int} (h0 : -9223372036854775808<=z) (h1:z<=9223372036854775807):qT (.int .i64 z):=⟨z,Jc z h0 h1,rfl⟩
theorem aa4 {C:Array Value} {Q:Value->Prop} (h:∀ v ∈ C.toList,Q v):∀ j (hj:j<C.size),Q C[j]:=fun j hj=>h _ (by simp)
variable {a : Option Addr} {len cap : Nat}
theorem xn {w0 W:World} {c:Nat} {C:Array Value} {cp:Nat} (hcode:kD w0 a len) (h:cA w0 W c a len cap) (hlen:len<=1048576) (hC:∀ v ∈ C.toList,qT v) (h0:0<C.size) (h1:C.size<=100):Calls prog 58 #[.pointer (some ⟨c,0,none⟩),.slice (some ⟨W.heap.size,0,none⟩) C.size cp] (W.alloc (.cells C 3)) fun e w'=>(∃ z:Int,(Lit.int .i64 z).wf=true/\e=.returned (.int .i64 z))/\cA w0 w' c a len cap/\(W.alloc (.cells C 3)).grownBy w' (some c):=aaY hcode (h.below (aB _ _)) hlen (xl.new W C 3 qT (aa4 hC)) (by have:=h.cur.lt;omega) h0 h1
end
section
section
variable {P : Program} {ops : Array Oper} {Q : Exit → Act → World → Prop} {md : Region.Mode} {S : World → Prop} {n : Nat}
def ln (n:Nat) (listed:Array Bool):Bool:=(List.range listed.size).all fun j=>decide (j<n) || !listed.getD j true
theorem Jd {i:Nat} {listed:Array Bool} (hi:i<n) (h:ln n listed=true):ln n (listed.setIfInBounds i true)=true:=by
 simp only[ln,AV,mA,kY,dC] at h ⊢;intro j hj;rw[Array.size_setIfInBounds] at hj;by_cases e:i=j
 ·subst e;exact Or.inl hi
 rw[getD_set_ne true e];exact h j hj
def fu (P:Program) (md:Region.Mode) (ops:Array Oper) (Q:Exit->Act->World->Prop) (S:World->Prop) (n:Nat):Nat->Array Bool->Act->World->Prop
 | 0,listed,a,w=>Region.ready md ops listed=[]/\Q .normal a w
 | fuel+1,listed,a,w=>
  (Region.ready md ops listed=[]->Q .normal a w)/\
  ∀ i ∈ Region.ready md ops listed,wpOp P ops Q i (fun a' w'=>(i<n->ln n listed=true->S w')/\fu P md ops Q S n fuel (listed.setIfInBounds i true) a' w') a w
theorem Qr:∀ (fuel:Nat) (listed:Array Bool) (a:Act) (w:World),fu P md ops Q S n fuel listed a w->wpAny P md ops Q fuel listed a w
 | 0,_,_,_,h=>h
 | fuel+1,_,_,_,h=>⟨h.1,fun i hi=>wpOp_mono (fun a' w' h'=>Qr fuel _ a' w' h'.2) (h.2 i hi)⟩
theorem aa5 {i:Nat} {oi:Oper} {v:Value} (hi:ops[i]? = some oi) (hin:i<n) (KU:∀ (j:Nat) (o:Oper),ops[j]? = some o->n<=j->∃ e ∈ o.after,Region.binds md e=true/\e.on=i) (hsel:∀ (j:Nat) (o:Oper) cs b,ops[j]? = some o->o.op ≠ .select cs b) (hQ:∀ c a w,Q (.panic c) (a.put oi.dst v) w->Q (.panic c) a w):∀ (fuel:Nat) (listed:Array Bool) (a:Act) (w:World),(∀ j oj,ops[j]? = some oj->j≠i->listed.getD j true=false->(∀ e ∈ oj.after,Region.binds md e=true->e.on≠i)->oi.apart ops oj=true)->i ∈ Region.ready md ops listed->ln n listed=true->YieldsIf P ops S oi v a->S w->fu P md ops Q S n fuel (listed.setIfInBounds i true) (a.put oi.dst v) w->fu P md ops Q S n (fuel+1) listed a w:=by
 intro fuel;induction fuel with
 | zero=>
  intro listed a w _ hr hE hy hS H;refine ⟨fun h=>(by rw[h] at hr;cases hr),fun j hj=>?_⟩;by_cases hji:j=i;·subst hji;exact hy.wpOp hi hS ⟨fun _ _=>hS,H⟩
  ·have:=DX hj hji;rw[H.1] at this;cases this
 | succ fuel ih=>
  intro listed a w hfree hr hE hy hS H;refine ⟨fun h=>(by rw[h] at hr;cases hr),fun j hj=>?_⟩;by_cases hji:j=i;·subst hji;exact hy.wpOp hi hS ⟨fun _ _=>hS,H⟩
  ·have h1:=H.2 j (DX hj hji);obtain ⟨hjun,oj,hoj,hall⟩:=mem_ready.1 hj;have hnot:∀ e ∈ oj.after,Region.binds md e=true->e.on≠i:=fun e he hb heq=>by
    have h1:=hall e he hb;have h0:=(mem_ready.1 hr).1;rw[heq] at h1;rcases DY i listed.size with h' | h';·simp[h'] at h0 h1;rw[h0] at h1;cases h1
    simp[NC h'] at h1
   have hjn:j<n:=by
    rcases DY j n with h' | h';·exact h'
    obtain ⟨e,he,hb,ho⟩:=KU j oj hoj h';exact absurd ho (hnot e he hb)
   have h2:=wpOp_putIf hoj (hfree j oj hoj hji hjun hnot) (fun cs b=>hsel i oi cs b hi) (fun cs b=>hsel j oj cs b hoj) hQ hy h1;have hfree':∀ k ok,ops[k]? = some ok->k≠i->(listed.setIfInBounds j true).getD k true=false->
     (∀ e ∈ ok.after,Region.binds md e=true->e.on≠i)->oi.apart ops ok=true:=fun k ok hk hki hun hno=>by
    refine hfree k ok hk hki ?_ hno;by_cases hjk:j=k;·subst hjk;exact hjun
    rw[getD_set_ne true hjk] at hun;exact hun
   refine wpOp_mono (fun a' w' h3=>⟨fun x _=>h3.2.1 x (Jd hin hE),ih (listed.setIfInBounds j true) a' w' hfree' (DX hr (Ne.symm hji)) (Jd hjn hE) h3.1 (h3.2.1 hjn (Jd hin hE)) ?_⟩) h2;rw[WX _ _ hji];exact h3.2.2
theorem Qs {i:Nat} {oi:Oper} {v:Value} {fuel:Nat} {listed:Array Bool} {a:Act} {w:World} (hi:ops[i]? = some oi) (hin:i<n) (hl:vg md ops n i=true) (hs:Region.noSelect ops=true) (hf:Region.free md ops listed i=true) (hr:(Region.ready md ops listed).contains i=true) (hQ:∀ c a w,Q (.panic c) (a.put oi.dst v) w->Q (.panic c) a w) (hy:YieldsIf P ops S oi v a) (hS:S w) (hE:ln n listed=true) (h:fu P md ops Q S n fuel (listed.setIfInBounds i true) (a.put oi.dst v) w):fu P md ops Q S n (fuel+1) listed a w:=aa5 hi hin (PB hl) (Region.noSelect_spec hs) hQ fuel listed a w (Region.free_spec hi hf) (by simpa using hr) hE hy hS h
theorem Qt {rs:List Nat} {fuel:Nat} {listed:Array Bool} {a:Act} {w:World} (hr:Region.ready md ops listed=rs) (hne:rs ≠ []) (h:∀ i ∈ rs,wpOp P ops Q i (fun a' w'=>(i<n->ln n listed=true->S w')/\fu P md ops Q S n fuel (listed.setIfInBounds i true) a' w') a w):fu P md ops Q S n (fuel+1) listed a w:=⟨fun h0=>absurd (hr ▸ h0) hne,hr ▸ h⟩
theorem pV {listed:Array Bool} {a:Act} {w:World} (hr:Region.ready md ops listed=[]) (h:Q .normal a w):∀ fuel,fu P md ops Q S n fuel listed a w
 | 0=>⟨hr,h⟩
 | _+1=>⟨fun _=>h,by rw[hr];simp⟩
theorem nF {id:Nat} {a:Act} {w:World} (hm:P.follows .mixedOrders=true) (h:fu P .any ops Q S n ops.size (Array.replicate ops.size false) a w.drew):(Code.region id ops true).wp P Q a w:=wp_region_any hm (Qr _ _ _ _ h)
theorem Je {a:Act} {w:World} {i j:Nat} {listed:Array Bool} {fuel:Nat} (hr:Region.ready md ops listed=[i,j]) (h1:wpOp P ops Q i (fun a' w'=>(i<n->ln n listed=true->S w')/\fu P md ops Q S n fuel (listed.setIfInBounds i true) a' w') a w) (h2:wpOp P ops Q j (fun a' w'=>(j<n->ln n listed=true->S w')/\fu P md ops Q S n fuel (listed.setIfInBounds j true) a' w') a w):fu P md ops Q S n (fuel+1) listed a w:=by
 refine Qt hr (by simp) ?_;intro x hx;rcases iY.1 hx with rfl | hx;·exact h1
 obtain rfl:=lW.1 hx;exact h2
theorem gM {a:Act} {w:World} {i:Nat} {listed:Array Bool} {fuel:Nat} (hr:Region.ready md ops listed=[i]) (h1:wpOp P ops Q i (fun a' w'=>(i<n->ln n listed=true->S w')/\fu P md ops Q S n fuel (listed.setIfInBounds i true) a' w') a w):fu P md ops Q S n (fuel+1) listed a w:=by refine Qt hr (by simp) ?_;intro x hx;obtain rfl:=lW.1 hx;exact h1
theorem kF {a a':Act} {w w':World} {u:Value} {i:Nat} {o:Oper} {listed l':Array Bool} {fuel:Nat} (ho:ops[i]? = some o) (hw:Region.wanted o (yielded ops a.tmps)=true) (he:(execOp a.eval o).run P w=.ok (.value u) w') (hS:i<n->ln n listed=true->S w') (ha:a.put o.dst u=a') (hl:listed.setIfInBounds i true=l') (h:fu P md ops Q S n fuel l' a' w'):wpOp P ops Q i (fun a' w'=>(i<n->ln n listed=true->S w')/\fu P md ops Q S n fuel (listed.setIfInBounds i true) a' w') a w:=by subst ha hl;unfold wpOp;rw[ho];refine gT hw (.inl ?_);unfold Oper.wp;rw[he];exact ⟨hS,h⟩
theorem sM {a a':Act} {w w':World} {i:Nat} {o:Oper} {listed l':Array Bool} {fuel:Nat} (ho:ops[i]? = some o) (hw:Region.wanted o (yielded ops a.tmps)=true) (he:(execOp a.eval o).run P w=.ok .skip w') (hS:i<n->ln n listed=true->S w') (ha:a.put o.dst undef=a') (hl:listed.setIfInBounds i true=l') (h:fu P md ops Q S n fuel l' a' w'):wpOp P ops Q i (fun a' w'=>(i<n->ln n listed=true->S w')/\fu P md ops Q S n fuel (listed.setIfInBounds i true) a' w') a w:=by subst ha hl;unfold wpOp;rw[ho];refine gT hw (.inl ?_);unfold Oper.wp;rw[he];exact ⟨hS,h⟩
theorem pW {a:Act} {w:World} {i f:Nat} {o:Oper} {listed:Array Bool} {fuel:Nat} (hr:Region.ready md ops listed=[i]) (ho:ops[i]? = some o) (hw:Region.wanted o (yielded ops a.tmps)=true) (x:Operand) (ts:Array TypeId) (hop:o.op=.call { callee:=.value (.func f),args:=#[x],argTypes:=ts }) (v0:Value) (h0:a.eval x=v0) (eg:∀ args w,(callFunc f args).run P w=.ok (.enter f args) w) (hc:Calls P f #[v0] w fun e w'=>∃ u,e=.returned u/\S w'/\fu P md ops Q S n fuel (listed.setIfInBounds i true) (a.put o.dst u) w'):fu P md ops Q S n (fuel+1) listed a w:=by
 refine gM hr ?_;unfold wpOp;rw[ho];refine gT hw (.inl ?_);have he:(execOp a.eval o).run P w=.ok (.enter f #[v0]) w:=by subst h0;simp[execOp,hop,resolve,go_sem,invoke,eg]
 unfold Oper.wp;rw[he];refine mC hc ?_;rintro e w' ⟨u,rfl,hS,h⟩;exact ⟨fun _ _=>hS,h⟩
theorem mh {a:Act} {w:World} {i f:Nat} {o:Oper} {listed:Array Bool} {fuel:Nat} (hr:Region.ready md ops listed=[i]) (ho:ops[i]? = some o) (hw:Region.wanted o (yielded ops a.tmps)=true) (x y:Operand) (ts:Array TypeId) (hop:o.op=.call { callee:=.value (.func f),args:=#[x,y],argTypes:=ts }) (v0 v1:Value) (h0:a.eval x=v0) (h1:a.eval y=v1) (eg:∀ args w,(callFunc f args).run P w=.ok (.enter f args) w) (hc:Calls P f #[v0,v1] w fun e w'=>∃ u,e=.returned u/\S w'/\fu P md ops Q S n fuel (listed.setIfInBounds i true) (a.put o.dst u) w'):fu P md ops Q S n (fuel+1) listed a w:=by
 refine gM hr ?_;unfold wpOp;rw[ho];refine gT hw (.inl ?_);have he:(execOp a.eval o).run P w=.ok (.enter f #[v0,v1]) w:=by subst h0 h1;simp[execOp,hop,resolve,go_sem,invoke,eg]
 unfold Oper.wp;rw[he];refine mC hc ?_;rintro e w' ⟨u,rfl,hS,h⟩;exact ⟨fun _ _=>hS,h⟩
theorem Fk {a:Act} {w:World} {i f:Nat} {o:Oper} {listed:Array Bool} {fuel:Nat} (hr:Region.ready md ops listed=[i]) (ho:ops[i]? = some o) (hw:Region.wanted o (yielded ops a.tmps)=true) (x y z:Operand) (ts:Array TypeId) (hop:o.op=.call { callee:=.value (.func f),args:=#[x,y,z],argTypes:=ts }) (v0 v1 v2:Value) (h0:a.eval x=v0) (h1:a.eval y=v1) (h2:a.eval z=v2) (eg:∀ args w,(callFunc f args).run P w=.ok (.enter f args) w) (hc:Calls P f #[v0,v1,v2] w fun e w'=>∃ u,e=.returned u/\S w'/\fu P md ops Q S n fuel (listed.setIfInBounds i true) (a.put o.dst u) w'):fu P md ops Q S n (fuel+1) listed a w:=by
 refine gM hr ?_;unfold wpOp;rw[ho];refine gT hw (.inl ?_);have he:(execOp a.eval o).run P w=.ok (.enter f #[v0,v1,v2]) w:=by subst h0 h1 h2;simp[execOp,hop,resolve,go_sem,invoke,eg]
 unfold Oper.wp;rw[he];refine mC hc ?_;rintro e w' ⟨u,rfl,hS,h⟩;exact ⟨fun _ _=>hS,h⟩
theorem Cc {a:Act} {w:World} {i f:Nat} {o:Oper} {listed:Array Bool} {fuel:Nat} (hr:Region.ready md ops listed=[i]) (ho:ops[i]? = some o) (hw:Region.wanted o (yielded ops a.tmps)=true) (x y z q:Operand) (ts:Array TypeId) (hop:o.op=.call { callee:=.value (.func f),args:=#[x,y,z,q],argTypes:=ts }) (v0 v1 v2 v3:Value) (h0:a.eval x=v0) (h1:a.eval y=v1) (h2:a.eval z=v2) (h3:a.eval q=v3) (eg:∀ args w,(callFunc f args).run P w=.ok (.enter f args) w) (hc:Calls P f #[v0,v1,v2,v3] w fun e w'=>∃ u,e=.returned u/\S w'/\fu P md ops Q S n fuel (listed.setIfInBounds i true) (a.put o.dst u) w'):fu P md ops Q S n (fuel+1) listed a w:=by
 refine gM hr ?_;unfold wpOp;rw[ho];refine gT hw (.inl ?_);have he:(execOp a.eval o).run P w=.ok (.enter f #[v0,v1,v2,v3]) w:=by subst h0 h1 h2 h3;simp[execOp,hop,resolve,go_sem,invoke,eg]
 unfold Oper.wp;rw[he];refine mC hc ?_;rintro e w' ⟨u,rfl,hS,h⟩;exact ⟨fun _ _=>hS,h⟩
end
variable {P : Program} {ops : Array Oper} {Q : Exit → Act → World → Prop} {md : Region.Mode} {S : World → Prop} {oi : Oper} {n fuel : Nat} {listed l' : Array Bool} {a a' : Act} {w : World}
theorem fF (i:Nat) (v:Value) (hS:S w) (h:fu P md ops Q S n fuel l' a' w) (hi:ops[i]? = some oi:=by exact rfl) (hin:i<n:=by decide) (hb:vg md ops n i=true:=by kernel_rfl) (hl:listed.setIfInBounds i true=l':=by (try simp only[ao]);exact rfl) (ha:a.put oi.dst v=a':=by (try simp only[ao,Act.put,Nat.reduceAdd]);exact rfl) (hE:ln n listed=true:=by kernel_rfl) (hs:Region.noSelect ops=true:=by kernel_rfl) (hf:Region.free md ops listed i=true:=by kernel_rfl) (hr:(Region.ready md ops listed).contains i=true:=by kernel_rfl) (hQ:∀ c a w,Q (.panic c) (a.put oi.dst v) w->Q (.panic c) a w:=by exact fun _ _ _ h=>h) (hw:Region.wanted oi (yielded ops a.tmps)=true:=by rfl) (hy:∀ w,S w->(execOp a.eval oi).run P w=.ok (.value v) w:=by exact fun w' hS'=>by rfl):fu P md ops Q S n (fuel+1) listed a w:=by subst hl ha;exact Qs hi hin hb hs hf hr hQ (Or.inl ⟨hw,hy⟩) hS hE h
theorem bR (i:Nat) (v:Value) (hS:S w) (h:fu P md ops Q S n fuel l' a' w) (hi:ops[i]? = some oi:=by exact rfl) (hin:i<n:=by decide) (hb:vg md ops n i=true:=by kernel_rfl) (hl:listed.setIfInBounds i true=l':=by (try simp only[ao]);exact rfl) (ha:a.put oi.dst v=a':=by (try simp only[ao,Act.put,Nat.reduceAdd]);exact rfl) (hE:ln n listed=true:=by kernel_rfl) (hs:Region.noSelect ops=true:=by kernel_rfl) (hf:Region.free md ops listed i=true:=by kernel_rfl) (hr:(Region.ready md ops listed).contains i=true:=by kernel_rfl) (hQ:∀ c a w,Q (.panic c) (a.put oi.dst v) w->Q (.panic c) a w:=by exact fun _ _ _ h=>h) (hw:Region.wanted oi (yielded ops a.tmps)=true:=by rfl) (hy:∀ w,S w->(execOp a.eval oi).run P w=.ok (.value v) w:=by intro w' hS';(try dsimp only at hS');go_split_ands;go_simp):fu P md ops Q S n (fuel+1) listed a w:=by subst hl ha;exact Qs hi hin hb hs hf hr hQ (Or.inl ⟨hw,hy⟩) hS hE h
end
end Go.Proofs.YtidmmopnkjbjoaaGreatDoor
