/- Joined texts. -/
import Derived.Test.YtgpfmgaidbjcpaaGreatDoorJhV
import Derived.Test.YtgpfmgaidbjcpaaGreatDoorJhY
set_option linter.unusedVariables false
set_option linter.unusedSimpArgs false
set_option maxRecDepth 10000
set_option maxHeartbeats 16000000
namespace Go.Proofs.YtgpfmgaidbjcpaaGreatDoor
open ChangeShapes WideShapes ChangeAt RowKit
open Go.Proofs.Tryz
def xO:ByteArray:=bs (rj 9) (aZ 0) (df 2 9 32 [5])
def xP:ByteArray:=bs xO 160 (dS [(1,⟨#[97]⟩),(2,⟨#[98]⟩)])
def xQ:ByteArray:=bs xP (aZ 1) (df 1 1 40 [7,6])
def xS:ByteArray:=bs xQ (aZ 2) (df 2 2 0 [])
def cT:ByteArray:=bs xS 192 ⟨#[115,111,109,101,32,119,111,114,100,115,32,111,102,32,97,32,102,105,108,101,32,116,104,97,116,32,119,97,115,32,104,101,114,101]⟩
theorem agM (w:World) (x y:Int):aK (w.alloc (.cells #[aa x,aa y] 3)) (some ⟨w.heap.size,0,none⟩) [x,y]:=wU (aY (cR [x,y]) w 3)
theorem agN (w:World) (x y:Int) (s t:ByteArray):cW (w.alloc (.cells #[aa x,.string s,aa y,.string t] 47)) (some ⟨w.heap.size,0,none⟩) [(x,s),(y,t)]:=by
 have k:=aY [aa x,.string s,aa y,.string t] w 47;refine Or.inr ⟨w.heap.size,0,rfl,k.lt,fun j hj=>?_⟩;have hj:j<2:=by simpa using hj
 match j,hj with
 | 0,_=>exact ⟨k.c0,k.c1⟩
 | 1,_=>exact ⟨k.c2,k.c3⟩
theorem agO (w:World) (h0:(rj 9).size=768) (h1:xO.size=768) (h2:xP.size=768) (h3:xQ.size=768) (h4:xS.size=768) (h5:cT.size=768):Calls prog 28 #[] w (aV (mF cT cT 0 none 0) w):=by
 have k0:=aY ij w 28;have n0:=aA w iB;obtain ⟨W0,hW0⟩:∃ W0,w.alloc iB=W0:=⟨_,rfl⟩;rw[hW0] at k0 n0;have HF:Hid (∀ W,_):=fun W=>af5 9 W;have HW:Hid (∀ s i t W,s.size=768->t.size<=1000->Calls prog 70 #[.string s,aa i,.string t] W (aV (.string (bs s i t)) W)):=fun s i t W hs ht=>(Ea s i t W (by omega) (by omega)).mono fun e w' ⟨he,n,hn⟩=>⟨he,by rw[hn];exact gy (aQ _ _) n⟩;have HD:Hid (∀ W,Calls prog 74 #[.string cT] W (aV (.tuple #[.agg #[.string cT,.string cT],.bool true]) W)):=fun W=>by have:=abr cT W (by omega);rwa [show BQ cT=.tuple #[.agg #[.string cT,.string cT],.bool true] by simp[BQ,h5]] at this
 have DM:Hid (∀ (W:World) H,W.heap.size=H->Calls prog 72 #[aO 2 9 32 (some ⟨H,0,none⟩) 1 1] (W.alloc (.cells #[aa 5] 3)) (aV (.string (df 2 9 32 [5])) (W.alloc (.cells #[aa 5] 3)))):=fun W H hH=>by subst hH;exact BD 2 9 32 _ 1 [5] _ (by simp) (by simp) (vv W 5)
 have WE:Hid (∀ (W:World) H,W.heap.size=H->Calls prog 72 #[aO 1 1 40 (some ⟨H,0,none⟩) 2 2] (W.alloc (.cells #[aa 7,aa 6] 3)) (aV (.string (df 1 1 40 [7,6])) (W.alloc (.cells #[aa 7,aa 6] 3)))):=fun W H hH=>by subst hH;exact BD 1 1 40 _ 2 [7,6] _ (by simp) (by simp) (agM W 7 6)
 have Wp:Hid (∀ W,_):=fun W=>BD 2 2 0 none 0 [] W (by simp) (by simp) (Or.inl rfl);have Yt:Hid (∀ (W:World) H,W.heap.size=H->Calls prog 73 #[aH H 2 2] (W.alloc (.cells #[aa 1,.string ⟨#[97]⟩,aa 2,.string ⟨#[98]⟩] 47)) (aV (.string (dS [(1,⟨#[97]⟩),(2,⟨#[98]⟩)])) (W.alloc (.cells #[aa 1,.string ⟨#[97]⟩,aa 2,.string ⟨#[98]⟩] 47)))):=fun W H hH=>by
  subst hH;exact PH _ 2 [(1,⟨#[97]⟩),(2,⟨#[98]⟩)] _ (by simp) (by simp) (fun j hj=>by
   have hj:j<2:=by simpa using hj
   match j,hj with
   | 0,_=>decide
   | 1,_=>decide) (agN W 1 2 _ _)
 have hp1:(df 2 9 32 [5]).size<=1000:=by decide +kernel
 have hp2:(dS [(1,⟨#[97]⟩),(2,⟨#[98]⟩)]).size<=1000:=by decide +kernel
 have hp3:(df 1 1 40 [7,6]).size<=1000:=by decide +kernel
 have pA:(df 2 2 0 []).size<=1000:=by decide +kernel
 have HW1:Hid (∀ W,Calls prog 70 #[.string (rj 9),aa (aZ 0),.string (df 2 9 32 [5])] W (aV (.string xO) W)):=fun W=>HW.out _ _ _ W h0 hp1;have HW2:Hid (∀ W,Calls prog 70 #[.string xO,aa 160,.string (dS [(1,⟨#[97]⟩),(2,⟨#[98]⟩)])] W (aV (.string xP) W)):=fun W=>HW.out _ _ _ W h1 hp2;have HW3:Hid (∀ W,Calls prog 70 #[.string xP,aa (aZ 1),.string (df 1 1 40 [7,6])] W (aV (.string xQ) W)):=fun W=>HW.out _ _ _ W h2 hp3;have Ho:Hid (∀ W,Calls prog 70 #[.string xQ,aa (aZ 2),.string (df 2 2 0 [])] W (aV (.string xS) W)):=fun W=>HW.out _ _ _ W h3 pA;have NF:Hid (∀ W,Calls prog 70 #[.string xS,aa 192,.string ⟨#[115,111,109,101,32,119,111,114,100,115,32,111,102,32,97,32,102,105,108,101,32,116,104,97,116,32,119,97,115,32,104,101,114,101]⟩] W (aV (.string cT) W)):=fun W=>HW.out _ _ _ W h4 (by show 34<=1000;omega);obtain ⟨f9,e9⟩:∃ f9,rj 9=f9:=⟨_,rfl⟩;obtain ⟨i1,e1⟩:∃ i1,df 2 9 32 [5]=i1:=⟨_,rfl⟩;obtain ⟨i2,e2⟩:∃ i2,dS [(1,⟨#[97]⟩),(2,⟨#[98]⟩)]=i2:=⟨_,rfl⟩;obtain ⟨i3,e3⟩:∃ i3,df 1 1 40 [7,6]=i3:=⟨_,rfl⟩;obtain ⟨i4,e4⟩:∃ i4,df 2 2 0 []=i4:=⟨_,rfl⟩;rw[e9] at HF HW1;rw[e1] at DM HW1;rw[e2] at Yt HW2;rw[e3] at WE HW3;rw[e4] at Wp Ho;obtain ⟨m1,g1⟩:∃ m,xO=m:=⟨_,rfl⟩;obtain ⟨m2,g2⟩:∃ m,xP=m:=⟨_,rfl⟩;obtain ⟨m3,g3⟩:∃ m,xQ=m:=⟨_,rfl⟩;obtain ⟨m4,g4⟩:∃ m,xS=m:=⟨_,rfl⟩;obtain ⟨m5,g5⟩:∃ m,cT=m:=⟨_,rfl⟩;rw[g1] at HW1 HW2;rw[g2] at HW2 HW3;rw[g3] at HW3 Ho;rw[g4] at Ho NF;rw[g5] at NF HD ⊢;clear e9 e1 e2 e3 e4 g1 g2 g3 g4 g5 h0 h1 h2 h3 h4 h5 hp1 hp2 hp3 pA HW;have l:=aQ W0.heap.size W0;go_enter func28,ntmps28;go_wp2_with (first
  | (go_at_call 69;refine (HF.out _).mono ?_;rintro e w1 ⟨rfl,b1⟩;replace l:=l.trans (b1.mono l.size))
  | (go_at_call 71;refine (Et _ _).mono ?_;rintro e wr ⟨rfl,hwr⟩;subst wr)
  | (go_at_call 72;have t:=q3;refine (Wp.out _).mono ?_;rintro e w7 ⟨rfl,b7⟩;replace l:=l.trans (b7.mono l.size))
  | (go_at_call 72;have t:=q2;refine (WE.out _ _ rfl).mono ?_;rintro e w5 ⟨rfl,b5⟩;replace l:=(l.alloc l.size (.cells #[aa 7,aa 6] 3)).trans (b5.mono (l.alloc l.size (.cells #[aa 7,aa 6] 3)).size))
  | (go_at_call 72;refine (DM.out _ _ rfl).mono ?_;rintro e w2 ⟨rfl,b2⟩;replace l:=(l.alloc l.size (.cells #[aa 5] 3)).trans (b2.mono (l.alloc l.size (.cells #[aa 5] 3)).size))
  | (go_at_call 73;refine (Yt.out _ _ rfl).mono ?_;rintro e w4 ⟨rfl,b4⟩;replace l:=(l.alloc l.size (.cells #[aa 1,.string ⟨#[97]⟩,aa 2,.string ⟨#[98]⟩] 47)).trans (b4.mono (l.alloc l.size (.cells #[aa 1,.string ⟨#[97]⟩,aa 2,.string ⟨#[98]⟩] 47)).size))
  | (go_at_call 70;have t:=q4;refine (NF.out _).mono ?_;rintro e wa ⟨rfl,ba⟩;replace l:=l.trans (ba.mono l.size))
  | (go_at_call 70;have t:=q3;refine (Ho.out _).mono ?_;rintro e w8 ⟨rfl,b8⟩;replace l:=l.trans (b8.mono l.size);have q4:True:=trivial)
  | (go_at_call 70;have t:=q2;refine (HW3.out _).mono ?_;rintro e w6 ⟨rfl,b6⟩;replace l:=l.trans (b6.mono l.size);have q3:True:=trivial)
  | (go_at_call 70;have t:=q1;refine (HW2.out _).mono ?_;rintro e w5' ⟨rfl,MJ⟩;replace l:=l.trans (MJ.mono l.size);have q2:True:=trivial)
  | (go_at_call 70;refine (HW1.out _).mono ?_;rintro e w3 ⟨rfl,b3⟩;replace l:=l.trans (b3.mono l.size);have q1:True:=trivial)
  | (go_at_call 74;refine (HD.out _).mono ?_;rintro e wb ⟨rfl,bb⟩;replace l:=l.trans (bb.mono l.size);have kk:=(k0.below (l.alloc l.size (.cells #[.string m5,.string m5] 25)));have ll:=l.alloc l.size (.cells #[.string m5,.string m5] 25);have y0:=kk.c0;have y1:=kk.c1;have y2:=kk.c2;have y3:=kk.c3;have f0:=kk.f0;have f1:=kk.f1;have f2:=kk.f2;have f3:=kk.f3))
 have q:=kk.dQ (.string m5) (.string m5) (.slice none 0 0) (aa 0);have v0:=q.c0;have v1:=q.c1;have v2:=q.c2;have v3:=q.c3;have l2:=n0.trans (ll.mono n0.size);exact bF (v:=mF m5 m5 0 none 0) (by simp[results,results28,go_sem,v0,v1,v2,v3]) rfl ⟨rfl,(((l2.setCell (p:=⟨w.heap.size,0,none⟩) (av _) _).setCell (p:=⟨w.heap.size,1,none⟩) (av _) _).setCell (p:=⟨w.heap.size,2,none⟩) (av _) _).setCell (p:=⟨w.heap.size,3,none⟩) (av _) _⟩
abbrev mI (s:ByteArray) (k:Nat):Option UInt8:=s.data.toList[k]?
theorem Aj (s:ByteArray) (i:Int) (t:ByteArray) (k:Nat):mI (bs s i t) k=if dq s.size i t.size=true/\i<=(k:Int)/\(k:Int)<i+(t.size:Int) then mI t (k-i.toNat) else mI s k:=by
 unfold bs mI;by_cases hl:dq s.size i t.size=true
 ·rw[aN hl];obtain ⟨h0,h1,h2⟩:=su hl;simp only[pI,uS,wH,Ig,Ih,so];have l1:(s.data.toList.take i.toNat).length=i.toNat:=by rw[jk,<- dX];omega
  by_cases ha:(k:Int)<i;·rw[aM (by omega),nD (by omega),yZ,aN (by omega)]
  rw[nF (by omega),l1];by_cases hb:(k:Int)<i+(t.size:Int);·rw[aN ⟨hl,by omega,hb⟩,nD (by rw[<- dX];omega)]
  rw[aM (by omega),nF (by rw[<- dX];omega),<- dX,yZ];by_cases hk:k<s.size
  ·rw[aN (by omega),tJ];congr 1;omega
  rw[aM (by omega),lL (by rw[<- dX];omega)]
 rw[aM hl,aM (fun h=>hl h.1)]
def cF (m:ByteArray):List (Int × ByteArray)->ByteArray
 | []=>m
 | p :: r=>cF (bs m p.1 p.2) r
theorem Ak (m:ByteArray):∀ (l r:List (Int × ByteArray)),cF m (l++r)=cF (cF m l) r:=by
 intro l;induction l generalizing m with
 | nil=>intro r;rfl
 | cons p l ih=>intro r;rw[qJ,cF,cF,ih]
theorem qm:∀ (l:List (Int × ByteArray)) (m:ByteArray),(cF m l).size=m.size
 | [],m=>rfl
 | p :: r,m=>by rw[cF,qm r,oP]
theorem Ua (n k:Nat):∀ (l:List (Int × ByteArray)),(∃ v,∀ m:ByteArray,m.size=n->mI (cF m l) k=v)\/(∀ m:ByteArray,m.size=n->mI (cF m l) k=mI m k)
 | []=>Or.inr fun m _=>rfl
 | p :: r=>by
  rcases Ua n k r with ⟨v,hv⟩ | h;·exact Or.inl ⟨v,fun m hm=>hv _ (by rw[oP,hm])⟩
  ·by_cases hc:dq n p.1 p.2.size=true/\p.1<=(k:Int)/\(k:Int)<p.1+(p.2.size:Int)
   ·left;refine ⟨mI p.2 (k-p.1.toNat),fun m hm=>?_⟩;rw[cF,h _ (by rw[oP,hm]),Aj,aN (by rw[hm];exact hc)]
   right;intro m hm;rw[cF,h _ (by rw[oP,hm]),Aj,aM (by rw[hm];exact hc)]
theorem KT (k:Nat):∀ (l:List (Int × ByteArray)) (m:ByteArray),(∀ p ∈ l,¬ (p.1<=(k:Int)/\(k:Int)<p.1+(p.2.size:Int)))->mI (cF m l) k=mI m k
 | [],m,_=>rfl
 | p :: r,m,h=>by have h1:=h p List.mem_cons_self;rw[cF,KT k r _ fun q hq=>h q (yW _ hq),Aj,aM (fun x=>h1 x.2)]
def CU (d:ai) (n:Nat):List (Int × ByteArray):=(List.range n).map fun k=>(d.pg.getD k 0*32,aX d.aU ((k:Int)*32) 32)
def CV (d:ai) (n:Nat):List (Int × ByteArray):=(List.range n).map fun k=>(aZ (d.fr.getD k 0),bG 16)
theorem Ub (d:ai) (m:ByteArray):∀ n,fT d m n=cF m (CU d n)
 | 0=>rfl
 | n+1=>by rw[fT,Ub d m n,CU,CU,yR,Ii,Ak];rfl
theorem Uc (d:ai) (m:ByteArray):∀ n,fF d m n=cF m (CV d n)
 | 0=>rfl
 | n+1=>by rw[fF,Uc d m n,CV,CV,yR,Ii,Ak];rfl
def ma (d:ai):List (Int × ByteArray):=(aZ d.ino,d.rc) :: (CU d d.pg.length++CV d d.fr.length)
theorem Ud (mem:ByteArray) (d:ai):zS mem d=cF mem (ma d):=by unfold zS ma;rw[cF,Ak,Uc,Ub]
theorem Ue:(bG 16).size=16:=by rw[bG,aN (by decide),sw];rfl
theorem agP {d:ai} {p:Int × ByteArray} (h:p ∈ CV d d.fr.length):∃ z ∈ d.fr,p.1=aZ z/\p.2.size=16:=by obtain ⟨k,hk,rfl⟩:=sq.1 h;have hk':=kY.1 hk;exact ⟨d.fr.getD k 0,qS hk',rfl,Ue⟩
section
variable {d : ai}
theorem Uf (h:bZ d=true):d.rc.size=16:=(zm (jt h).1).1
theorem agQ (h:bZ d=true):bD d=[(aZ d.ino,16)]++d.pg.map (fun p=>(p*32,32))++d.po.map (fun p=>(p*32,32))++d.fr.map (fun f=>(aZ f,16)):=by unfold bD;rw[aN h]
theorem agR {z:Int} (h0:0<=z) (h7:z<=7):aZ z=32+z*16:=by unfold aZ;rw[aN (nK.2 ⟨h0,h7⟩)]
end
theorem KU {lo hi g:Nat} (h1:lo<=g) (h2:g<hi):∀ (vs:List Value) (o:Nat) (w W:World),cM lo hi w W->cM lo hi w (W.setCells g o vs)
 | [],_,_,_,h=>h
 | v :: r,o,w,W,h=>KU h1 h2 r (o+1) w _ (h.set (p:=⟨g,o,none⟩) h1 h2 v)
theorem agS (w:World) (ty:TypeId) (b o c:Nat) (hc:∀ j,j<8->(w.cell? ⟨b,o+j,none⟩).isSome=true) (hf:∀ j,j<8->w.frozen? ⟨b,o+j,none⟩=false):(Builtin.clear_ #[26] ty #[.slice (some ⟨b,o,none⟩) 1 c]).run prog w=.ok (.tuple #[]) (w.setCells b o jb.toList):=by
 have hv:∀ w,(zeroValue 31).run prog w=.ok (.agg jb) w:=fun w=>by kernel_rfl
 have hzc:(Builtin.zeroCells (Value.agg jb).cells 1).toList=jb.toList:=by kernel_rfl
 have hst:=YM (P:=prog) b o jb.toList 0 w (by simpa using hc) (by simpa using hf) (by intro v hv';simp at hv';rcases hv' with rfl | rfl | rfl | rfl | rfl | rfl | rfl | rfl <;> rfl)
 simp only[sr] at hst;simp only[Builtin.clear_];simp[DP underlying26,hv,hzc,hst]
theorem agT (g n p:Nat) (L:List Value) (w:World) (hL:L.length=n*8) (hb:az g L w) (hp:p<n):az g (L.take (p*8)++L.drop ((p+1)*8)) ((w.setCells g (p*8) (L.drop ((p+1)*8))).setCells g ((n-1)*8) jb.toList):=by
 have hl1:(L.drop ((p+1)*8)).length=(n-1)*8-p*8:=by rw[kE,hL];omega
 have hl0:(L.take (p*8)).length=p*8:=by rw[jk,hL];omega
 refine ⟨fun j hj=>?_,fun j hj=>?_,?_⟩
 ·rw[de,hl0,hl1] at hj;rw[Ib g _ _ _ ⟨g,j,none⟩ (fun _ _=>Or.inl (by show j<(n-1)*8;omega))];by_cases hjp:j<p*8
  ·rw[Ib g _ _ _ ⟨g,j,none⟩ (fun _ _=>Or.inl hjp),hb.cell j (by omega)];congr 1;rw[Ic (by omega),DQ]
  have hin:=World.cell?_setCells_in g (L.drop ((p+1)*8)) (p*8) w (fun t ht=>by rw[hb.cell (p*8+t) (by omega)];rfl) (j-p*8) (by omega);rw[show p*8+(j-p*8)=j by omega] at hin;rw[hin];congr 1;rw[NX (by omega)];congr 1;omega
 ·rw[Oo,Oo];rw[de,hl0,hl1] at hj;exact hb.free j (by omega)
 have:=hb.lt;rw[wP,wP];exact this
theorem agU {L:List Value} {n:Nat} {D:Nat->ai} {ss:Nat->aI} (hL:L.length=n*8) (h:∀ j,j<n->oM L (j*8) (D j) (ss j)):∀ u ∈ L,u.oneCell'=true:=by
 intro u hu;obtain ⟨i,hi,rfl⟩:=Ox hu;have hj:i / 8<n:=by omega
 obtain ⟨f0,f1,f2,f3,f4,f5,f6,f7⟩:=h (i / 8) hj;have hg:L[i]? = some L[i]:=gM hi;rcases (show i=i / 8*8\/i=i / 8*8+1\/i=i / 8*8+2\/i=i / 8*8+3\/i=i / 8*8+4\/i=i / 8*8+5\/i=i / 8*8+6\/i=i / 8*8+7 by omega) with e | e | e | e | e | e | e | e;·rw[<- e,hg] at f0;rw[gw f0];rfl
 ·rw[<- e,hg] at f1;rw[gw f1];rfl
 ·rw[<- e,hg] at f2;rw[gw f2];rfl
 ·rw[<- e,hg] at f3;rw[gw f3];rfl
 ·rw[<- e,hg] at f4;rw[gw f4];rfl
 ·rw[<- e,hg] at f5;rw[gw f5];rfl
 ·rw[<- e,hg] at f6;rw[gw f6];rfl
 rw[<- e,hg] at f7;rw[gw f7];rfl
theorem agV (g n c p:Nat) (L:List Value) (w:World) (hL:L.length=n*8) (h1:∀ u ∈ L,u.oneCell'=true) (hb:az g L w) (hp:p<n) (hc:n<=c) (hm:c<=9223372036854775807):Calls prog 217 #[aH g n c,aa p,aa (p+1)] w fun e w'=>e=.returned (aH g (n-1) c)/\az g (L.take (p*8)++L.drop ((p+1)*8)) w'/\cM g (g+1) w w':=by
 obtain ⟨i0,hi0,hz0,hz1,hz2⟩:=iv Cl;have hres:=agT g n p L w.drew hL hb.drew hp;have hbt:cM g (g+1) w ((w.drew.setCells g (p*8) (L.drop ((p+1)*8))).setCells g ((n-1)*8) jb.toList):=KU (av _) (cm _) _ _ _ _ (KU (av _) (cm _) _ _ _ _ (cM.Az ((aQ _ _).drew)));obtain ⟨news,hnews⟩:∃ news,news=L.drop ((p+1)*8):=⟨_,rfl⟩;have hlen:news.length=(n-(p+1))*8:=by rw[hnews,kE,hL];omega
 obtain ⟨A,hA,hsrc⟩:∃ A:Addr,(if c=p+1 then some (⟨g,0,none⟩:Addr) else some ⟨g,(p+1)*8,none⟩)=some A/\Hid (∀ t u,news[t]? = some u->w.drew.cell? (A.add t)=some u):=by
  by_cases h:c=p+1
  ·refine ⟨⟨g,0,none⟩,by simp[h],fun t u hu=>?_⟩;have h0:news.length=0:=by rw[hlen];omega
   rw[Im.1 h0] at hu;simp at hu
  refine ⟨⟨g,(p+1)*8,none⟩,by simp[h],fun t u hu=>?_⟩;rw[hnews,tJ] at hu;rw[qL];exact tT hb.drew hu
 have s1:Hid (news.length=(n-(p+1))*8):=hlen;have s2:Hid (∀ u ∈ news,u.oneCell'=true):=by intro u hu;rw[hnews] at hu;exact h1 u (List.mem_of_mem_drop hu)
 have s3:Hid (∀ t,t<news.length->(w.drew.cell? ⟨g,0+p*8+t,none⟩).isSome=true/\w.drew.frozen? ⟨g,0+p*8+t,none⟩=false):=by intro t ht;rw[hlen] at ht;rw[dW];exact ⟨by rw[hb.drew.cell (p*8+t) (by omega)];rfl,hb.drew.free (p*8+t) (by omega)⟩
 obtain ⟨W1,hW1⟩:∃ W1,W1=w.drew.setCells g (0+p*8) news:=⟨_,rfl⟩;have hq:p+(n-(p+1))=n-1:=by omega
 have hcl0:∀ ty c',(Builtin.clear_ #[26] ty #[.slice (some ⟨g,(n-1)*8,none⟩) 1 c']).run prog W1=.ok (.tuple #[]) (W1.setCells g ((n-1)*8) jb.toList):=fun ty c'=>agS W1 ty g ((n-1)*8) c'
  (fun j hj=>by rw[hW1];exact Oy g _ _ _ _ (by rw[hb.drew.cell ((n-1)*8+j) (by omega)];rfl))
  (fun j hj=>by rw[hW1,Oo];exact hb.drew.free ((n-1)*8+j) (by omega))
 have hcl:∀ ty,(Builtin.clear_ #[26] ty #[.slice (some ⟨g,(p+(n-(p+1)))*8,none⟩) (n-(p+(n-(p+1)))) (c-(p+(n-(p+1))))]).run prog W1=.ok (.tuple #[]) (W1.setCells g ((n-1)*8) jb.toList):=fun ty=>by have:=hcl0 ty (c-(n-1));rw[hq,show n-(n-1)=1 by omega];exact this
 have HQ:Hid (p+(n-(p+1))=n-1):=hq;have HX:Hid (az g (L.take (p*8)++L.drop ((p+1)*8)) (W1.setCells g ((n-1)*8) jb.toList)/\cM g (g+1) w (W1.setCells g ((n-1)*8) jb.toList)):=by rw[hW1,hnews,dW];exact ⟨hres,hbt⟩
 have hW:Hid (W1=w.drew.setCells g (0+p*8) news):=hW1;have x1:(0:Int)<=(p:Int):=by omega
 have x2:(p:Int)<=(n:Int):=by omega
 have x3:(p:Int)+1<=(n:Int):=by omega
 have x4:(p:Int)<=(c:Int):=by omega
 have x5:(0:Int)<=(p:Int)+1:=by omega
 clear hq hcl0 hW1 hb hnews hlen hres hbt hz0 hz2;go_enter func217,ntmps217;go_wp2_with fail;go_region_law (refine step_append_room rfl (.tmp 22) (.tmp 25) 26 rfl 31 i0 8 underlying26 hi0 hz1 g 0 p c (by simp[Act.eval,Act.put]) A (n-(p+1)) (c-(p+1)) news (by simp[Act.eval,Act.put,hA]) s1.out hsrc.out s2.out (by omega) s3.out ?_;rw[<- hW.out])
 go_wp2;go_ret;exact ⟨by rw[HQ.out];rfl,HX.out⟩
theorem agW {g n p:Nat} {b:Nat->Nat} {D:Nat->ai} {ss:Nat->aI} {L:List Value} {W W':World} (h:jT g b n D ss L W) (hp:p<n) (hb:cM g (g+1) W W') (hk:az g (L.take (p*8)++L.drop ((p+1)*8)) W'):jT g (fun j=>if j<=p then b j else b (j+1)) (n-1) (fun j=>if j<p then D j else D (j+1)) (fun j=>if j<p then ss j else ss (j+1)) (L.take (p*8)++L.drop ((p+1)*8)) W':=by
 have hL:=h.len;have hl0:(L.take (p*8)).length=p*8:=by rw[jk,hL];omega
 have hg:=h.gb;refine ⟨?_,hk,fun j hj=>?_,fun j hj=>?_,?_,?_⟩
 ·rw[de,hl0,kE,hL];omega
 ·by_cases hjp:j<p
  ·have e:∀ x,x<8->(L.take (p*8)++L.drop ((p+1)*8))[j*8+x]? = L[j*8+x]?:=fun x hx=>by
    rw[nD (by omega),yV (by omega)]
   obtain ⟨f0,f1,f2,f3,f4,f5,f6,f7⟩:=h.at_ j (by omega);have e0:=e 0 (by omega);rw[sr] at e0;simp only[aN hjp];exact ⟨e0.trans f0,(e 1 (by omega)).trans f1,(e 2 (by omega)).trans f2,(e 3 (by omega)).trans f3,(e 4 (by omega)).trans f4,(e 5 (by omega)).trans f5,(e 6 (by omega)).trans f6,(e 7 (by omega)).trans f7⟩
  have e:∀ x,x<8->(L.take (p*8)++L.drop ((p+1)*8))[j*8+x]? = L[(j+1)*8+x]?:=fun x hx=>by rw[nF (by omega),hl0,tJ];congr 1;omega
  obtain ⟨f0,f1,f2,f3,f4,f5,f6,f7⟩:=h.at_ (j+1) (by omega);have e0:=e 0 (by omega);rw[sr,sr] at e0;simp only[aM hjp];exact ⟨e0.trans f0,(e 1 (by omega)).trans f1,(e 2 (by omega)).trans f2,(e 3 (by omega)).trans f3,(e 4 (by omega)).trans f4,(e 5 (by omega)).trans f5,(e 6 (by omega)).trans f6,(e 7 (by omega)).trans f7⟩
 ·by_cases hjp:j<p
  ·obtain ⟨m1,m2,q⟩:=h.sub j (by omega);have h0:=h.le (i:=0) (j:=j) (bh _) (by omega);refine ⟨m1,m2,?_⟩;simp only[aN hjp,aN (show j<=p by omega),aN (show j+1<=p by omega)];exact q.mL hb (Or.inr (by omega))
  obtain ⟨m1,m2,q⟩:=h.sub (j+1) (by omega);have h0:=h.le (i:=0) (j:=j+1) (bh _) (by omega);have q':=q.mL hb (Or.inr (by omega));refine ⟨m1,m2,?_⟩;simp only[aM hjp,aM (show ¬ j+1<=p by omega)];by_cases hjq:j<=p
  ·obtain rfl:j=p:=by omega
   have h1:=h.step1 j (by omega);simp only[av,if_true];exact ⟨q'.p1.mono h1 (av _),q'.p2,q'.p3,by have:=q'.le;omega⟩
  simp only[aM hjq];exact q'
 ·simpa using hg
 have h1:=h.hi;have h2:=hb.size;have h3:=h.step1 (n-1) (by omega);rw[show n-1+1=n by omega] at h3;show (if n-1<=p then b (n-1) else b (n-1+1))<=_
 split;·omega
 rw[show n-1+1=n by omega];omega
theorem agX {g n p:Nat} {b:Nat->Nat} {D:Nat->ai} {ss:Nat->aI} {L:List Value} {W:World} (h:jT g b n D ss L W) (hp:p<n):(if n-1<=p then b (n-1) else b (n-1+1))<=b n:=by
 have h3:=h.step1 (n-1) (by omega);rw[show n-1+1=n by omega] at h3 ⊢;split;·exact h3
 exact av _
end Go.Proofs.YtgpfmgaidbjcpaaGreatDoor
