/- Joined texts. -/
import Derived.Test.YtidmmopnkjbjoaaGreatDoorJpQ
import Derived.Test.YtidmmopnkjbjoaaGreatDoorJpP
set_option linter.unusedVariables false
set_option linter.unusedSimpArgs false
set_option maxRecDepth 10000
set_option maxHeartbeats 16000000
namespace Go.Proofs.YtidmmopnkjbjoaaGreatDoor
open ChangeShapes WideShapes ChangeAt RowKit
open Go.Proofs.Tryz
section
def nH (mem:ByteArray) (d:ak) (x:Int):Bool:=bN d.fr x && (bp (ar mem x) && (!decide (aX (ar mem x)=0) && (!(decide (aX (ar mem x)=2) && !decide (bX (ar mem x)=0)) && (decide (cq (ar mem x)=d.cl) && ku (aN (ar mem x)) d.po))))
variable {w W W' : World}
end
section
def zM (d:ak) (x:Int):Bool:=bN (cP (dm d)) x
def Cn (es:List aV) (k:Nat):Int:=(bS es k).1
def Co (mem:ByteArray) (d:ak) (es:List aV) (i:Nat):Bool:=zM d (Cn es i) || nH mem d (Cn es i)
def jK (mem:ByteArray) (d:ak) (Z:List Int) (es:List aV):Nat->List Int
 | 0=>Z
 | k+1=>if zM d (Cn es k) then jK mem d Z es k else jK mem d Z es k++aN (ar mem (Cn es k))
def zN (mem:ByteArray) (d:ak) (Z:List Int) (es:List aV):Bool:=bC (Co mem d es) es.length && dW (jK mem d Z es es.length)
theorem FL (u:ByteArray):(aN u).length<=100:=by
 unfold aN;split
 ·rw[wK];have:=wL u;omega
 exact aS _
theorem Ro (mem:ByteArray) (d:ak) (Z:List Int) (es:List aV):∀ k,(jK mem d Z es k).length<=Z.length+100*k
 | 0=>by simp[jK]
 | k+1=>by
  have h:=Ro mem d Z es k;rw[jK];split;·omega
  ·rw[bY];have:=FL (ar mem (Cn es k));omega
variable {w W W' : World} {ts ns : List Value}
end
def JE (mem:ByteArray) (d:ak):Bool:=decide (aX (ar mem d.ino)=aX d.rc) && decide (cq (ar mem d.ino)=cq d.rc)
def fG (mem:ByteArray) (d:ak):Bool:=bT d && (decide (mem.size=768) && (fv mem d.ino && (JE mem d && (ku (aN (ar mem d.ino)) (d.pg++d.po) && zN mem d (aN (ar mem d.ino)) (dw mem d.ino)))))
theorem FM (d:ak):(dm d).length<=13:=by
 unfold dm;split
 ·unfold dI;split
  ·rw[kZ];unfold dQ;omega
  exact aS _
 exact aS _
theorem FN (mem:ByteArray) (i:Int):(dw mem i).length<=13:=by
 unfold dw;split
 ·unfold dI;split
  ·rw[kZ];unfold dQ;omega
  exact aS _
 exact aS _
theorem Rp (d:ak) (s:aA) (w:World) (hrs:d.rc.size<=281474976710656) (hss:d.aH.size<=281474976710656) (hI:bp d.rc=true):Calls prog 207 #[bH d s] w fun e w'=>∃ a' c',e=.returned (.slice a' (cP (dm d)).length c')/\aQ w.heap.size w' a' (cP (dm d))/\aj w w':=by
 have k0:=lf d s w 49;have l0:=aB w (.cells (dZ d s) 49);obtain ⟨⟨gs0,gs1⟩,-,-,-,-⟩:=mH hI;have hsm:d.aH.size<=maxLen:=by unfold maxLen;omega
 have hG:Hid (∀ W,Calls prog 135 #[.string d.rc] W fun e w'=>∃ a c,e=.returned (.tuple #[bO (aX d.rc) (cq d.rc) (bX d.rc) a (aN d.rc).length c,.bool (bp d.rc)])/\aQ W.heap.size w' a (aN d.rc)/\(aN d.rc).length<=c/\aj W w'):=fun W=>uX _ W hrs;have hpt:Hid (∀ W,Calls prog 78 #[.string d.aH,ad 0,ad (bX d.rc)] W (dp (.string (aO d.aH 0 (bX d.rc))) W)):=fun W=>np _ _ _ _ hsm (by decide) (Jp _ (by omega) (by omega));have hgd:Hid (∀ W,Calls prog 136 #[.string (aO d.aH 0 (bX d.rc))] W fun e w'=>∃ a c,e=.returned (.tuple #[.slice a (dI (aO d.aH 0 (bX d.rc))).length c,.bool (cO (aO d.aH 0 (bX d.rc)))])/\mE w' a (dI (aO d.aH 0 (bX d.rc)))/\aj W w'):=fun W=>(EI _ W (bt (nn _ _ _) hss)).mono fun e w' ⟨a,c,he,ho,_,hb⟩=>⟨a,c,he,ho.row,hb⟩;rw[hI] at hG;have hEl:=FM d;by_cases h2:aX d.rc=2
 ·have hE:dm d=dI (aO d.aH 0 (bX d.rc)):=by rw[dm,aF h2]
  rw[hE] at hEl ⊢;obtain ⟨P,hP⟩:∃ P,aO d.aH 0 (bX d.rc)=P:=⟨_,rfl⟩;rw[hP] at hpt hgd hEl ⊢;obtain ⟨E,hE2⟩:∃ E,dI P=E:=⟨_,rfl⟩;rw[hE2] at hgd hEl ⊢;obtain ⟨b,hb0⟩:∃ b,cO P=b:=⟨_,rfl⟩;rw[hb0] at hgd;obtain ⟨Z,hZ⟩:∃ Z,aN d.rc=Z:=⟨_,rfl⟩;obtain ⟨K,hK⟩:∃ K,aX d.rc=K:=⟨_,rfl⟩;obtain ⟨O,hO⟩:∃ O,cq d.rc=O:=⟨_,rfl⟩;obtain ⟨S,hS⟩:∃ S,bX d.rc=S:=⟨_,rfl⟩;rw[hZ,hK,hO,hS] at hG;rw[hS] at hpt;rw[hK] at h2;have g2:(K != 2)=false:=by simpa using h2
  clear hP hE2 hb0 hZ hK hO hS hE h2 hI gs0 gs1;go_enter func207,ntmps207;go_wp2_with (first
   | (go_at_call 135;refine (hG.out _).mono ?_;rintro e w1 ⟨a,c,rfl,ho,hc,b1⟩;have n1:=aB w1 (.cells (bj K O S a Z.length c) 117);have k1:=(k0.below b1).below n1;have l1:=(l0.trans (b1.mono l0.size)).trans (n1.mono (bt l0.size b1.size));have c5:=k1.c5)
   | (go_at_call 78;refine (hpt.out _).mono ?_;rintro e wq ⟨rfl,eq⟩;subst wq)
   | (go_at_call 136;refine (hgd.out _).mono ?_;rintro e w2 ⟨a2,c2,rfl,r2,b2⟩;have l2:=l1.trans (b2.mono l1.size))
   | (go_at_call 241;refine (QT a2 c2 E _ (by omega) r2).mono ?_;rintro e w3 ⟨a3,c3,rfl,o3,hc3,b3⟩))
  go_ret;exact ⟨a3,c3,rfl,o3.mono l2.size,l2.trans (b3.mono l2.size)⟩
 have hE:dm d=[]:=by rw[dm,aG h2]
 rw[hE];obtain ⟨Z,hZ⟩:∃ Z,aN d.rc=Z:=⟨_,rfl⟩;obtain ⟨K,hK⟩:∃ K,aX d.rc=K:=⟨_,rfl⟩;obtain ⟨O,hO⟩:∃ O,cq d.rc=O:=⟨_,rfl⟩;obtain ⟨S,hS⟩:∃ S,bX d.rc=S:=⟨_,rfl⟩;rw[hZ,hK,hO,hS] at hG;rw[hK] at h2;have g2:(K != 2)=true:=by simpa using h2
 clear hZ hK hO hS hE h2 hI gs0 gs1 hpt hgd hEl;go_enter func207,ntmps207;go_wp2_with (go_at_call 135;refine (hG.out _).mono ?_;rintro e w1 ⟨a,c,rfl,ho,hc,b1⟩;have n1:=aB w1 (.cells (bj K O S a Z.length c) 117);have l1:=(l0.trans (b1.mono l0.size)).trans (n1.mono (bt l0.size b1.size)));go_ret;exact ⟨_,_,rfl,Or.inl rfl,l1.alloc l1.size _⟩
def oB (mem:ByteArray) (i:Int):Bool:=!decide (aX (ar mem i)=2) || cO (eY mem i)
theorem acu {mem:ByteArray} {i:Int} (hm:mem.size=768) (hI:bp (ar mem i)=true) (hk:aX (ar mem i)≠0):dY mem i=true:=by obtain ⟨e1,-,-,-⟩:=yW hI;rw[dY,bF hm,hI,fe,fe,bq (by rw[<- e1];exact hk)];rfl
theorem JF (mem:ByteArray) (d:ak) (s:aA) (w:World) (hm:mem.size=768) (hI:bp (ar mem d.ino)=true) (hk:aX (ar mem d.ino)≠0):Calls prog 206 #[.string mem,bH d s] w fun e w'=>∃ a' c',e=.returned (.tuple #[.slice a' (cP (dw mem d.ino)).length c',.bool (oB mem d.ino)])/\aQ w.heap.size w' a' (cP (dw mem d.ino))/\aj w w':=by
 have k0:=lf d s w 49;have l0:=aB w (.cells (dZ d s) 49);obtain ⟨e1,e2,e3,e4,e5⟩:=wO (acu hm hI hk);have e5':qI mem d.ino=eY mem d.ino:=e5;have hG:Hid (∀ W,Calls prog 81 #[.string mem,ad d.ino] W fun e w'=>∃ a c,e=.returned (.tuple #[bO (aX (ar mem d.ino)) (qH mem d.ino) (jV mem d.ino) a (mG mem d.ino).length c,.string (eY mem d.ino),.bool (dY mem d.ino)])/\aj W w'):=fun W=>(vw mem d.ino W (by omega)).mono fun e w' ⟨a,c,he,ho,hc,hb⟩=>⟨a,c,by rw[he,e1,e5'],hb⟩;have hgd:Hid (∀ W,Calls prog 136 #[.string (eY mem d.ino)] W fun e w'=>∃ a c,e=.returned (.tuple #[.slice a (dI (eY mem d.ino)).length c,.bool (cO (eY mem d.ino))])/\mE w' a (dI (eY mem d.ino))/\aj W w'):=fun W=>(EI _ W (Ju mem d.ino hm)).mono fun e w' ⟨a,c,he,ho,_,hb⟩=>⟨a,c,he,ho.row,hb⟩;have hEl:=FN mem d.ino;obtain ⟨Z,hZ⟩:∃ Z,mG mem d.ino=Z:=⟨_,rfl⟩;obtain ⟨O,hO⟩:∃ O,qH mem d.ino=O:=⟨_,rfl⟩;obtain ⟨S,hS⟩:∃ S,jV mem d.ino=S:=⟨_,rfl⟩;obtain ⟨bl,hbl⟩:∃ b,dY mem d.ino=b:=⟨_,rfl⟩;rw[hZ,hO,hS,hbl] at hG;clear e1 e2 e3 e4 e5 e5' hZ hO hS hbl;by_cases h2:aX (ar mem d.ino)=2
 ·have hE:dw mem d.ino=dI (eY mem d.ino):=by rw[dw,aF h2]
  have hN:oB mem d.ino=cO (eY mem d.ino):=by rw[oB,bF h2];rfl
  rw[hE] at hEl;rw[hE,hN];obtain ⟨P,hP⟩:∃ P,eY mem d.ino=P:=⟨_,rfl⟩;rw[hP] at hG hgd hEl ⊢;obtain ⟨E,hE2⟩:∃ E,dI P=E:=⟨_,rfl⟩;rw[hE2] at hgd hEl ⊢;obtain ⟨b,hb0⟩:∃ b,cO P=b:=⟨_,rfl⟩;rw[hb0] at hgd ⊢;obtain ⟨K,hK⟩:∃ K,aX (ar mem d.ino)=K:=⟨_,rfl⟩;rw[hK] at hG h2;have g2:(K != 2)=false:=by simpa using h2
  clear hP hE2 hb0 hK hE hN h2 hI hk;go_enter func206,ntmps206;go_wp2_with (first
   | (go_at_call 81;refine (hG.out _).mono ?_;rintro e w1 ⟨a,c,rfl,b1⟩;have n1:=aB w1 (.cells (bj K O S a Z.length c) 117);have l1:=(l0.trans (b1.mono l0.size)).trans (n1.mono (bt l0.size b1.size)))
   | (go_at_call 136;refine (hgd.out _).mono ?_;rintro e w2 ⟨a2,c2,rfl,r2,b2⟩;have l2:=l1.trans (b2.mono l1.size))
   | (go_at_call 241;refine (QT a2 c2 E _ (by omega) r2).mono ?_;rintro e w3 ⟨a3,c3,rfl,o3,hc3,b3⟩))
  go_ret2;exact ⟨a3,c3,rfl,o3.mono l2.size,l2.trans (b3.mono l2.size)⟩
 have hE:dw mem d.ino=[]:=by rw[dw,aG h2]
 have hN:oB mem d.ino=true:=by rw[oB,bq h2];rfl
 rw[hE,hN];obtain ⟨P,hP⟩:∃ P,eY mem d.ino=P:=⟨_,rfl⟩;rw[hP] at hG;obtain ⟨K,hK⟩:∃ K,aX (ar mem d.ino)=K:=⟨_,rfl⟩;rw[hK] at hG h2;have g2:(K != 2)=true:=by simpa using h2
 clear hP hK hE hN h2 hI hk hgd hEl;go_enter func206,ntmps206;go_wp2_with (go_at_call 81;refine (hG.out _).mono ?_;rintro e w1 ⟨a,c,rfl,b1⟩;have n1:=aB w1 (.cells (bj K O S a Z.length c) 117);have l1:=(l0.trans (b1.mono l0.size)).trans (n1.mono (bt l0.size b1.size)));go_ret2;exact ⟨_,_,rfl,Or.inl rfl,l1.alloc l1.size _⟩
section
variable {base n cap : Nat} {a : Option Addr} {w W : World} {zs : List Int}
theorem zO (ty:TypeId) (hbuf:bo base w a n cap zs) (ax:Option Addr) (cx:Nat) (xs:List Int) (hR:aI w ax xs) (hlen:n+xs.length<=4194304) (hb:base<=w.heap.size):∃ a' cap' w',(Builtin.append_ #[29,29] ty #[.slice a n cap,.slice ax xs.length cx]).run prog w=.ok (.slice a' (n+xs.length) cap') w'/\bo base w' a' (n+xs.length) cap' (zs++xs)/\w.grownBy w' (Value.slice a n cap).ownBlock/\(∀ g,(Value.slice a' (n+xs.length) cap').ownBlock=some g->(Value.slice a n cap).ownBlock=some g\/g=w.heap.size):=by
 obtain ⟨i0,hi,hz0,hz1,hz2⟩:=iW tL;by_cases h0:xs=[]
 ·subst h0;refine ⟨a,cap,w,yZ w 29 _ 3 i0 underlying29 hi a n cap hbuf.fits ax cx,by rw[tA];exact hbuf,⟨rfl,rfl,rfl,aq _,fun _ _ _=>rfl⟩,fun g hg=>Or.inl ?_⟩;cases a with
  | none=>cases hg
  | some p=>exact hg
 rcases hR with hR | ⟨b,off,rfl,hb2,hc⟩;·exact absurd hR h0
 have hm:0<xs.length:=Nu.2 h0;obtain ⟨g,cp,w',hrun,r1,r2,r3,r4⟩:=run_append_lies (P:=prog) w 29 ty base 3 i0 (ad 0) 1 8 underlying29 hi hz0 hz1 hz2 rfl (by omega) _ n _ hbuf.2 ⟨b,off,none⟩ xs.length cx (bU xs) (by simp) (by
  intro j u hj;have hj':j<xs.length:=by have:=(pI.1 hj).1;simpa using this
  rw[nT,hc j hj',eS _ _ hj',<- hj];simp[hj']) (IE xs) hm (by unfold maxLen;omega) (by omega) hb _ rfl
 refine ⟨some ⟨g,0,none⟩,cp,w',hrun,⟨by rw[hbuf.1];simp,?_⟩,r2,fun g2 h2=>?_⟩
 ·rw[show bU (zs++xs)=bU zs++bU xs by simp];exact r1
 cases h2;exact r3
theorem eK (hbuf:bo base w a n cap zs) (hb:base<=w.heap.size) (hg:w.grownBy W (Value.slice a n cap).ownBlock):Below base w W:=lY (aK _ _) hg (tM hbuf) hb
theorem acv {b:Nat} {r:Option Nat} (h:aQ b w a zs) (hg:w.grownBy W r) (hne:∀ g,a=some ⟨g,0,none⟩->r≠some g):aQ b W a zs:=by
 rcases h with h | ⟨g,e,hbg,hk⟩;·exact Or.inl h
 refine Or.inr ⟨g,e,hbg,?_⟩;have hb:W.heap[g]? = w.heap[g]?:=hg.block g hk.lt (fun q=>hne g e q.symm);exact ⟨fun j hj=>(uM (a:=⟨g,j,none⟩) hb).trans (hk.cell j hj),fun j hj=>(yO (a:=⟨g,j,none⟩) hb).trans (hk.free j hj),cS hk.lt hg.size⟩
theorem kM {B:Nat} {vs:List Value} {r:Option Nat} (hk:av B vs w) (hg:w.grownBy W r) (hne:r≠some B):av B vs W:=by have hb:W.heap[B]? = w.heap[B]?:=hg.block B hk.lt (fun q=>hne q.symm);exact ⟨fun j hj=>(uM (a:=⟨B,j,none⟩) hb).trans (hk.cell j hj),fun j hj=>(yO (a:=⟨B,j,none⟩) hb).trans (hk.free j hj),cS hk.lt hg.size⟩
theorem Rq {ops:Array Oper} {rest:List Oper} {o:Oper} {A:Act} {Q:Exit->Act->World->Prop} (hgd:o.guard=none) (sl x:Operand) (ho:o.op=.call { callee:=.builtin .append,args:=#[sl,x],argTypes:=#[29,29] }) (hbuf:bo base w a n cap zs) (ax:Option Addr) (cx:Nat) (xs:List Int) (hs:A.eval sl=.slice a n cap) (hx:A.eval x=.slice ax xs.length cx) (hR:aI w ax xs) (hlen:n+xs.length<=4194304) (hb:base<=w.heap.size) (h:∀ a' cap' w',bo base w' a' (n+xs.length) cap' (zs++xs)->w.grownBy w' (Value.slice a n cap).ownBlock->(∀ g,(Value.slice a' (n+xs.length) cap').ownBlock=some g->(Value.slice a n cap).ownBlock=some g\/g=w.heap.size)->wpList prog ops Q rest (A.put o.dst (.slice a' (n+xs.length) cap')) w'):wpList prog ops Q (o :: rest) A w:=by obtain ⟨a',cap',w',hrun,r1,r2,r3⟩:=zO o.type hbuf ax cx xs hR hlen hb;exact Hw _ hgd sl x 29 29 ho _ _ hs hx _ _ hrun (h a' cap' w' r1 r2 r3)
theorem xB {ops:Array Oper} {Q:Exit->Act->World->Prop} {S:World->Prop} {A:Act} {i:Nat} {o:Oper} {listed:Array Bool} {fuel:Nat} {md:Region.Mode} (hr:Region.ready md ops listed=[i]) (hoi:ops[i]? = some o) (hw:Region.wanted o (yielded ops A.tmps)=true) (sl x:Operand) (ho:o.op=.call { callee:=.builtin .append,args:=#[sl,x],argTypes:=#[29,29] }) (hbuf:bo base w a n cap zs) (ax:Option Addr) (cx:Nat) (xs:List Int) (hs:A.eval sl=.slice a n cap) (hx:A.eval x=.slice ax xs.length cx) (hR:aI w ax xs) (hlen:n+xs.length<=4194304) (hb:base<=w.heap.size) (h:∀ a' cap' w',bo base w' a' (n+xs.length) cap' (zs++xs)->Below base w w'->S w'/\wpAnyH prog md ops Q S fuel (listed.setIfInBounds i true) (A.put o.dst (.slice a' (n+xs.length) cap')) w'):wpAnyH prog md ops Q S (fuel+1) listed A w:=by obtain ⟨a',cap',w',hrun,r1,r2,r3⟩:=zO o.type hbuf ax cx xs hR hlen hb;obtain ⟨h1,h2⟩:=h a' cap' w' r1 (eK hbuf hb r2);exact tJ hr hoi hw (by simp[execOp,ho,resolve,invoke,builtin,hs,hx,hrun,Result.andThen]) h1 h2
end
section
def ke (zs al:List Int):List Int:=zs.filter (bN al)
def fH (mem:ByteArray) (d:ak):List Int:=if fG mem d=true then ke d.fr (cP (dw mem d.ino)) else []
theorem acw {zs al:List Int} {k:Nat} (hk:k<zs.length) (h:bN al (zs.getD k 0)=true):ke (zs.take (k+1)) al=ke (zs.take k) al ++ [zs.getD k 0]:=by unfold ke;rw[kr hk,uL,eS _ _ hk];rw[eS _ _ hk] at h;simp[h]
theorem acx {zs al:List Int} {k:Nat} (hk:k<zs.length) (h:bN al (zs.getD k 0)=false):ke (zs.take (k+1)) al=ke (zs.take k) al:=by unfold ke;rw[kr hk,uL];rw[eS _ _ hk] at h;simp[h]
theorem acy (zs al:List Int) (k:Nat):(ke (zs.take k) al).length<=zs.length:=bt (DZ _ _) (by rw[fO];omega)
variable {w W W' : World} {a a' be : Option Addr} {es : List aV}
theorem qW (w:World) (z:Int):aI (w.alloc (.cells #[ad z] 3)) (some ⟨w.heap.size,0,none⟩) [z]:=wR (bu (bU [z]) w 3)
end
theorem fx {base n cp:Nat} {p:Option Addr} {W:World} {zs:List Int} {ops:Array Oper} {o:Oper} {A:Act} {K:Act->World->Prop} {Q:Exit->Act->World->Prop} {E:Prop} (hgd:o.guard=none) (sl x:Operand) (ho:o.op=.call { callee:=.builtin .append,args:=#[sl,x],argTypes:=#[29,29] }) (hbuf:bo base W p n cp zs) (ax:Option Addr) (cx:Nat) (xs:List Int) (hs:A.eval sl=.slice p n cp) (hx:A.eval x=.slice ax xs.length cx) (hR:aI W ax xs) (hlen:n+xs.length<=4194304) (hb:base<=W.heap.size) (h:∀ a' cap' w',bo base w' a' (n+xs.length) cap' (zs++xs)->W.grownBy w' (Value.slice p n cp).ownBlock->K (A.put o.dst (.slice a' (n+xs.length) cap')) w'):if Region.wanted o (yielded ops A.tmps)=true then Oper.wp prog o A W K Q else E:=by
 have hw:Region.wanted o (yielded ops A.tmps)=true:=by simp[Region.wanted,hgd]
 rw[aF hw];obtain ⟨a',cap',w',hrun,r1,r2,r3⟩:=zO o.type hbuf ax cx xs hR hlen hb;exact Lib.wp_append_run _ sl x 29 29 ho _ _ hs hx _ _ hrun (h a' cap' w' r1 r2)
theorem sQ {W W':World} {ax:Option Addr} {xs:List Int} {r:Option Nat} (h:aI W ax xs) (hg:W.grownBy W' r) (hne:∀ p,ax=some p->r≠some p.block):aI W' ax xs:=by
 rcases h with h | ⟨b,off,rfl,hlt,hc⟩;·exact Or.inl h
 have hb:W'.heap[b]? = W.heap[b]?:=hg.block b hlt (fun q=>hne _ rfl q.symm);exact Or.inr ⟨b,off,rfl,cS hlt hg.size,fun j hj=>(uM (a:=⟨b,off+j,none⟩) hb).trans (hc j hj)⟩
theorem acz (g off c:Nat) (zs:List Int) (x:Int) (w:World) (hn:zs.length<=1048576) (hc:zs.length<=c) (hR:aI w (some ⟨g,off,none⟩) zs) (hx:∀ j,j<zs.length->zs.getD j 0<x):Calls prog 84 #[.slice (some ⟨g,off,none⟩) zs.length c,ad x] w fun e w'=>∃ a' c',e=.returned (.slice a' (zs ++ [x]).length c')/\bo w.heap.size w' a' (zs ++ [x]).length c' (zs ++ [x])/\aj w w':=by
 go_enter func84,ntmps84;go_wp2;go_loop [5] (fun i=>∃ k:Nat,k<=zs.length/\i=ad k) (fun i=>zs.length-(intOf i).toNat)
 case atStart=>exact ⟨0,aS _,rfl⟩
 case round=>
 obtain ⟨k,hk,rfl⟩:=hrel;by_cases hlt:k<zs.length
 ·obtain ⟨b,xY,hab,_,hcl⟩:=hR.get hlt;cases hab;have x1:=hcl k hlt;have x2:=hx k hlt;obtain ⟨z,ez⟩:∃ z,zs.getD k 0=z:=⟨_,rfl⟩;rw[ez] at x1 x2;have e1:(0:Int)<=(k:Int):=by omega
  have e2:(k:Int)<(zs.length:Int):=by omega
  clear ez hcl hx hR;go_wp2;go_round;case rel=>exact ⟨k+1,by omega,by go_num⟩
  case measure=>simp[intOf];omega
 obtain rfl:k=zs.length:=by omega
 have e9:decide ((zs.length:Int)<(zs.length:Int))=false:=by simp
 have e1:(0:Int)<=(zs.length:Int):=by omega
 have e2:(zs.length:Int)<=(c:Int):=by omega
 obtain ⟨E,hE⟩:∃ E,Obj.cells #[] 3=E:=⟨_,rfl⟩;obtain ⟨X,hX⟩:∃ X,Obj.cells #[ad x] 3=X:=⟨_,rfl⟩;have L0:aj w w.drew:=(aK _ _).drew;have L1:=L0.alloc L0.size (.cells #[] 3);have L2:=L1.alloc L1.size (.cells #[ad x] 3);have M1:=L0.alloc L0.size (.cells #[ad x] 3);have L3:=M1.alloc M1.size (.cells #[] 3);have B1:=fq w.drew L0.size;have B2:=B1.alloc (.cells #[ad x] 3);have B3:=fq (w.drew.alloc (.cells #[ad x] 3)) M1.size;have X2:=qW (w.drew.alloc (.cells #[] 3)) x;have X3:=(qW w.drew x).alloc (.cells #[] 3);have hq:zs.length+1<=4194304:=by omega
 clear hE hX E X;by_cases hcn:c=zs.length
 ·subst c;clear hx hlt hk hc;go_wp2;go_region_law (first
   | (refine fx rfl (.tmp 27) (.tmp 30) rfl f8 (some ⟨g,off,none⟩) (0) [] (by simp[Act.eval,Act.put]) (by simp[Act.eval,Act.put]) (Or.inl rfl) (by simp only[dA,fB];omega) l8.size ?_;intro a9 c9 w9 f9 g9;have l9:=l8.trans (eK f8 l8.size g9))
   | (refine fx rfl (.tmp 24) (.tmp 26) rfl f7 _ _ [x] (by simp[Act.eval,Act.put]) (by simp[Act.eval,Act.put];rfl) x7 (by simp only[dA,fB];omega) l7.size ?_;intro a8 c8 w8 f8 g8;have l8:=l7.trans (eK f7 l7.size g8))
   | (refine fx rfl (.tmp 24) (.tmp 26) rfl (f7.alloc (.cells #[ad x] 3)) (some ⟨w7.heap.size,0,none⟩) 1 [x] (by simp[Act.eval,Act.put]) (by simp[Act.eval,Act.put]) (qW w7 x) (by simp only[dA,fB];omega) (l7.alloc l7.size _).size ?_;intro a8 c8 w8 f8 g8;have l8:=(l7.alloc l7.size (.cells #[ad x] 3)).trans (eK (f7.alloc (.cells #[ad x] 3)) (l7.alloc l7.size (.cells #[ad x] 3)).size g8))
   | (refine fx rfl (.tmp 20) (.tmp 23) rfl B1 (some ⟨g,off,none⟩) zs.length zs (by simp[Act.eval,Act.put]) (by simp[Act.eval,Act.put]) (hR.below L1) (by omega) L1.size ?_;intro a7 c7 w7 f7 g7;have l7:=L1.trans (eK B1 L1.size g7))
   | (refine fx rfl (.tmp 20) (.tmp 23) rfl B2 (some ⟨g,off,none⟩) zs.length zs (by simp[Act.eval,Act.put]) (by simp[Act.eval,Act.put]) (hR.below L2) (by omega) L2.size ?_;intro a7 c7 w7 f7 g7;have l7:=L2.trans (eK B2 L2.size g7);have x7:=sQ X2 g7 (by rintro p ⟨⟩ h;simp[Value.ownBlock] at h))
   | (refine fx rfl (.tmp 20) (.tmp 23) rfl B3 (some ⟨g,off,none⟩) zs.length zs (by simp[Act.eval,Act.put]) (by simp[Act.eval,Act.put]) (hR.below L3) (by omega) L3.size ?_;intro a7 c7 w7 f7 g7;have l7:=L3.trans (eK B3 L3.size g7);have x7:=sQ X3 g7 (by rintro p ⟨⟩ h;simp[Value.ownBlock] at h)))
  all_goals
   go_wp2;go_ret;exact ⟨a9,c9,by rw[bY];rfl,by simpa using f9,l9⟩
 clear hx hlt hk;go_wp2;go_region_law (first
  | (refine fx rfl (.tmp 27) (.tmp 30) rfl f8 (some ⟨g,off+zs.length,none⟩) (c-zs.length) [] (by simp[Act.eval,Act.put]) (by simp[Act.eval,Act.put]) (Or.inl rfl) (by simp only[dA,fB];omega) l8.size ?_;intro a9 c9 w9 f9 g9;have l9:=l8.trans (eK f8 l8.size g9))
  | (refine fx rfl (.tmp 24) (.tmp 26) rfl f7 _ _ [x] (by simp[Act.eval,Act.put]) (by simp[Act.eval,Act.put];rfl) x7 (by simp only[dA,fB];omega) l7.size ?_;intro a8 c8 w8 f8 g8;have l8:=l7.trans (eK f7 l7.size g8))
  | (refine fx rfl (.tmp 24) (.tmp 26) rfl (f7.alloc (.cells #[ad x] 3)) (some ⟨w7.heap.size,0,none⟩) 1 [x] (by simp[Act.eval,Act.put]) (by simp[Act.eval,Act.put]) (qW w7 x) (by simp only[dA,fB];omega) (l7.alloc l7.size _).size ?_;intro a8 c8 w8 f8 g8;have l8:=(l7.alloc l7.size (.cells #[ad x] 3)).trans (eK (f7.alloc (.cells #[ad x] 3)) (l7.alloc l7.size (.cells #[ad x] 3)).size g8))
  | (refine fx rfl (.tmp 20) (.tmp 23) rfl B1 (some ⟨g,off,none⟩) c zs (by simp[Act.eval,Act.put]) (by simp[Act.eval,Act.put]) (hR.below L1) (by omega) L1.size ?_;intro a7 c7 w7 f7 g7;have l7:=L1.trans (eK B1 L1.size g7))
  | (refine fx rfl (.tmp 20) (.tmp 23) rfl B2 (some ⟨g,off,none⟩) c zs (by simp[Act.eval,Act.put]) (by simp[Act.eval,Act.put]) (hR.below L2) (by omega) L2.size ?_;intro a7 c7 w7 f7 g7;have l7:=L2.trans (eK B2 L2.size g7);have x7:=sQ X2 g7 (by rintro p ⟨⟩ h;simp[Value.ownBlock] at h))
  | (refine fx rfl (.tmp 20) (.tmp 23) rfl B3 (some ⟨g,off,none⟩) c zs (by simp[Act.eval,Act.put]) (by simp[Act.eval,Act.put]) (hR.below L3) (by omega) L3.size ?_;intro a7 c7 w7 f7 g7;have l7:=L3.trans (eK B3 L3.size g7);have x7:=sQ X3 g7 (by rintro p ⟨⟩ h;simp[Value.ownBlock] at h)))
 all_goals
  go_wp2;go_ret;exact ⟨a9,c9,by rw[bY];rfl,by simpa using f9,l9⟩
theorem Cp {base base' n c:Nat} {a:Option Addr} {w:World} {zs:List Int} (h:bo base w a n c zs) (hb:base'<=base):bo base' w a n c zs:=by
 refine ⟨h.1,h.2.1,?_⟩;rcases h.2.2 with h0 | ⟨g,cap,cur,hv,hg,r⟩;·exact Or.inl h0
 exact Or.inr ⟨g,cap,cur,hv,bt hb hg,r⟩
theorem acA {zs al:List Int} (h:dJ zs=true) {k:Nat} (hk:k<zs.length):∀ j,j<(ke (zs.take k) al).length->(ke (zs.take k) al).getD j 0<zs.getD k 0:=by
 intro j hj;have hm:=(sg.1 (kz hj)).1;obtain ⟨i,hi,e⟩:=aiS.1 hm;show (List.filter (bN al) (List.take k zs)).getD j 0<_
 rw[<- e,eS _ _ hk];exact sc.1 (Er.1 h) i k (by omega) hk (by omega)
theorem acB (a1 a2:Option Addr) (c1 c2:Nat) (zs al:List Int) (w:World) (h1:zs.length<=1048576) (h2:al.length<=281474976710656) (hasc:dJ zs=true) (R1:aI w a1 zs) (R2:aI w a2 al):Calls prog 87 #[.slice a1 zs.length c1,.slice a2 al.length c2,.bool true] w fun e w'=>∃ a c,e=.returned (.slice a (ke zs al).length c)/\(ke zs al).length<=c/\aQ w.heap.size w' a (ke zs al)/\aj w w':=by
 have b0:=fq w (aq _);have l0:=aB w (.cells #[] 3);go_enter func87,ntmps87;go_wp2;go_loopw [7,8] (fun v i w'=>∃ (k n c g:Nat),k<=zs.length/\i=ad k/\v=bg g n c/\bo w.heap.size w' (some ⟨g,0,none⟩) n c (ke (zs.take k) al)/\aj w w') (fun _ i _=>zs.length-(intOf i).toNat);case atStart=>exact ⟨0,0,0,_,aS _,rfl,rfl,b0,l0⟩
 case round=>
 obtain ⟨k,n,c',g,hk,rfl,rfl,hbuf,hbel⟩:=hrel;clear b0 l0;by_cases hlt:k<zs.length
 ·obtain ⟨b,off,hab,_,hc⟩:=(R1.below hbel).get hlt;have x1:=hc k hlt;have rB:=fun h=>acw (zs:=zs) (al:=al) hlt h;have hno:=fun h=>acx (zs:=zs) (al:=al) hlt h;have hln:=acy zs al k;have hlt2:=acA (al:=al) hasc hlt;obtain ⟨z,ez⟩:∃ z,zs.getD k 0=z:=⟨_,rfl⟩;rw[ez] at x1 rB hno hlt2;have hH:Hid (Calls prog 70 #[.slice a2 al.length c2,ad z] wr (dp (.bool (bN al z)) wr)):=qL a2 c2 al z wr h2 (R2.below hbel);obtain ⟨O,hO⟩:∃ O,ke (zs.take k) al=O:=⟨_,rfl⟩;rw[hO] at hbuf rB hno hln hlt2;obtain rfl:n=O.length:=hbuf.1;have hA:Hid (Calls prog 84 #[bg g O.length c',ad z] wr fun e w'=>∃ a' c',e=.returned (.slice a' (O ++ [z]).length c')/\bo wr.heap.size w' a' (O ++ [z]).length c' (O ++ [z])/\aj wr w'):=acz g 0 c' O z wr (by omega) hbuf.fits hbuf.own.row hlt2;rw[hab];have e1:(0:Int)<=(k:Int):=by omega
  have e2:(k:Int)<(zs.length:Int):=by omega
  cases h:bN al z with
  | true=>
   have HS:Hid (O ++ [z]=ke (zs.take (k+1)) al):=(rB h).symm;have HB:Hid _:=hbel;rw[h] at hH;clear ez hc rB hno h hlt2 R1 R2 hO hbuf hasc;go_wp2_with (first
    | (go_at_call 70;refine (hH.out).mono ?_;rintro e w' ⟨rfl,rfl⟩)
    | (go_at_call 84;refine (hA.out).mono ?_;rintro e w3 ⟨a3,c3,rfl,f3,b3⟩))
   obtain ⟨g3,rfl⟩:∃ g3,a3=some ⟨g3,0,none⟩:=by
    rcases f3.own with h0 | ⟨g3,e3,_⟩;·cases O <;> cases h0
    exact ⟨g3,e3⟩
   go_roundw;case rel=>exact ⟨k+1,_,c3,g3,by omega,by go_num,rfl,by rw[<- HS.out];rw[bY] at f3;exact Cp f3 hbel.size,hbel.trans (b3.mono hbel.size)⟩
   case measure=>simp[intOf];omega
  | false=>
   have HS:Hid (ke (zs.take (k+1)) al=O):=hno h;rw[h] at hH;clear ez hc rB hno h hlt2 R1 R2 hO hasc;go_wp2_with (go_at_call 70;refine (hH.out).mono ?_;rintro e w' ⟨rfl,rfl⟩);go_roundw;case rel=>exact ⟨k+1,_,c',g,by omega,by go_num,rfl,by rw[HS.out];exact hbuf,hbel⟩
   case measure=>simp[intOf];omega
 obtain rfl:k=zs.length:=by omega
 have HF:Hid (bo w.heap.size wr (some ⟨g,0,none⟩) n c' (ke zs al)):=by
  show bo _ _ _ _ _ _
  rw[ks] at hbuf;exact hbuf
 have e9:decide ((zs.length:Int)<(zs.length:Int))=false:=by simp
 clear hbuf R1 R2;go_wp2;go_ret;exact ⟨_,c',by rw[<- HF.out.1];rfl,by rw[<- HF.out.1];exact HF.out.fits,HF.out.own,hbel⟩
section
variable {w W W' : World} {B : Nat} {a : Option Addr}
def lu (mem:ByteArray) (i:Int):ByteArray:=if aX (ar mem i)=2 then ⟨#[]⟩ else eY mem i
def zP (mem:ByteArray) (i:Int) (w:World) (e:Ending) (w':World):Prop:=
 ∃ (k o t:Int) (a:Option Addr) (n c:Nat) (x:ByteArray) (ae:Option Addr) (ne ce:Nat),e=.returned (.tuple #[vD k o t a n c x ae ne ce,.bool (fv mem i)])/\aj w w'/\
  (fv mem i=true->k=aX (ar mem i)/\o=cq (ar mem i)/\n=(aN (ar mem i)).length/\n<=c/\aQ w.heap.size w' a (aN (ar mem i))/\ne=(dw mem i).length/\ne<=ce/\dK w.heap.size w' ae (dw mem i)/\x=lu mem i)
theorem acC {mem:ByteArray} {i:Int} {w w':World} {k o t:Int} {a:Option Addr} {n c:Nat} {x:ByteArray} {ae:Option Addr} {ne ce:Nat} (h:fv mem i=false) (hb:aj w w'):zP mem i w (.returned (.tuple #[vD k o t a n c x ae ne ce,.bool false])) w':=⟨k,o,t,a,n,c,x,ae,ne,ce,by rw[h],hb,fun h'=>by rw[h] at h';cases h'⟩
theorem acD {mem:ByteArray} {i:Int} {w w':World} {t:Int} {a:Option Addr} {c:Nat} {x:ByteArray} {ae:Option Addr} {ce:Nat} (h:fv mem i=true) (hb:aj w w') (hc:(aN (ar mem i)).length<=c) (ho:aQ w.heap.size w' a (aN (ar mem i))) (hce:(dw mem i).length<=ce) (hoe:dK w.heap.size w' ae (dw mem i)) (hx:x=lu mem i):zP mem i w (.returned (.tuple #[vD (aX (ar mem i)) (cq (ar mem i)) t a (aN (ar mem i)).length c x ae (dw mem i).length ce,.bool true])) w':=⟨_,_,t,a,_,c,x,ae,_,ce,by rw[h],hb,fun _=>⟨rfl,rfl,rfl,hc,ho,rfl,hce,hoe,hx⟩⟩
theorem acE (mem:ByteArray) (i:Int):((aX (ar mem i) != 2)=true->lu mem i=eY mem i)/\((aX (ar mem i) != 2)=false->lu mem i=⟨#[]⟩):=by unfold lu;refine ⟨fun h=>aG (by simpa using h),fun h=>aF (by simpa using h)⟩
theorem acF (mem:ByteArray) (i:Int) (w:World) (hm:mem.size=768):Calls prog 99 #[.string mem,ad i] w (zP mem i w):=by
 have hms:mem.size<=281474976710656:=by omega
 have hrs:=yX mem i hms;have hpt:Hid (∀ W,Calls prog 90 #[.string mem,ad (bA i),ad 16] W (aT (.string (ar mem i)) W)):=fun W=>sn _ _ _ _ hms;have hG:Hid (∀ W,Calls prog 141 #[.string (ar mem i)] W (iZ (ar mem i) W)):=fun W=>OR _ W hrs;have hA:Hid (∀ W e w',iZ (ar mem i) W e w'->∃ a c,e=.returned (.tuple #[bO (aX (ar mem i)) (cq (ar mem i)) (bX (ar mem i)) a (aN (ar mem i)).length c,.bool (bp (ar mem i))])/\aQ W.heap.size w' a (aN (ar mem i))/\(aN (ar mem i)).length<=c/\aj W w'):=fun W e w' h=>h;have yc:=fun h=>mH (s:=ar mem i) h;have HN:Hid (∀ k o t a n c x ae ne ce w',fv mem i=false->aj w w'->zP mem i w (.returned (.tuple #[vD k o t a n c x ae ne ce,.bool false])) w'):=fun k o t a n c x ae ne ce w' h hb=>acC h hb;have HY:Hid (∀ t a c x ae ce w',fv mem i=true->aj w w'->(aN (ar mem i)).length<=c->aQ w.heap.size w' a (aN (ar mem i))->(dw mem i).length<=ce->dK w.heap.size w' ae (dw mem i)->x=lu mem i->zP mem i w (.returned (.tuple #[vD (aX (ar mem i)) (cq (ar mem i)) t a (aN (ar mem i)).length c x ae (dw mem i).length ce,.bool true])) w'):=fun t a c x ae ce w' h hb hc ho hce hoe hx=>acD h hb hc ho hce hoe hx;have hcase:=QW mem i;obtain ⟨DD,Gz⟩:=acE mem i;have hdat:eY mem i=(dj mem (aN (ar mem i)) (aN (ar mem i)).length).extract 0 (bX (ar mem i)).toNat:=rfl;obtain ⟨R,hR⟩:∃ R,zP mem i w=R:=⟨_,rfl⟩;rw[hR] at HN HY ⊢;obtain ⟨Q,hQ⟩:∃ Q,ar mem i=Q:=⟨_,rfl⟩;rw[hQ] at hpt hG hA yc HY hcase hdat DD Gz;obtain ⟨D,hD⟩:∃ D,eY mem i=D:=⟨_,rfl⟩;rw[hD] at hcase hdat DD;obtain ⟨K,hK⟩:∃ K,aX Q=K:=⟨_,rfl⟩;obtain ⟨O,hO⟩:∃ O,cq Q=O:=⟨_,rfl⟩;obtain ⟨S,hS⟩:∃ S,bX Q=S:=⟨_,rfl⟩;obtain ⟨Z,hZ⟩:∃ Z,aN Q=Z:=⟨_,rfl⟩;rw[hK] at hcase DD Gz;rw[hK,hO,hZ] at HY;rw[hK,hO,hS,hZ] at hA;rw[hS,hZ] at hdat;rw[hK,hS,hZ] at yc;have hgd:Hid (∀ W,Calls prog 143 #[.string D] W (nZ D W)):=fun W=>Pu _ _ (by rw[<- hD];exact Ju mem i hm)
 have HD:Hid (∀ W e w',nZ D W e w'->∃ a c,e=.returned (.tuple #[.slice a (dI D).length c,.bool (cO D)])/\dK W.heap.size w' a (dI D)/\(dI D).length<=c/\aj W w'):=fun W e w' h=>h;clear hR hQ hK hO hS hZ hrs hD;have HA:Hid ((K != 2)=true->lu mem i=D):=DD;have HBB:Hid ((K != 2)=false->lu mem i=⟨#[]⟩):=Gz;clear DD Gz;rcases hcase with ⟨gI,hp⟩ | ⟨gI,g2,hp,hE⟩ | ⟨gI,g2,hp,hE⟩
 ·rw[gI] at hA;clear gI yc hgd;go_enter func99,ntmps99;go_wp2_with (first
   | (go_at_call 91;refine (su _ _).mono ?_;rintro e wq ⟨rfl,rfl⟩)
   | (go_at_call 90;refine (hpt.out _).mono ?_;rintro e w1 ⟨rfl,b1⟩)
   | (go_at_call 141;refine (hG.out _).mono ?_;intro e w2 hans;obtain ⟨a,c,rfl,ho,hc,b2⟩:=hA.out _ _ _ hans;clear hans;have p2:=Jt (k:=K) (o:=O) (t:=S) (a:=a) (n:=Z.length) (c:=c) (b1.trans (b2.mono b1.size));have y0:=p2.nb.c0;have y1:=p2.nb.c1;have y2:=p2.nb.c2;have y3:=p2.nb.c3;obtain ⟨i0,i1,i2,i3,i4,i5⟩:=vC p2.res;obtain ⟨j0,j1,j2,j3,j4,j5⟩:=Jq p2.res))
  have q:=Jr p2.res (ad 0) (ad 0) (ad 0) (.slice none 0 0) (.string ⟨#[]⟩) (.slice none 0 0);obtain ⟨u0,u1,u2,u3,u4,u5⟩:=vC q;exact bL (v:=.tuple #[vD 0 0 0 none 0 0 ⟨#[]⟩ none 0 0,.bool false]) (by simp[results,results99,go_sem,u0,u1,u2,u3,u4,u5]) rfl (HN.out _ _ _ _ _ _ _ _ _ _ _ hp (Js p2.ah (aq _) (ad 0) (ad 0) (ad 0) (.slice none 0 0) (.string ⟨#[]⟩) (.slice none 0 0)))
 ·obtain ⟨⟨s0,s1⟩,zl,s2,hpk,-⟩:=yc gI;rw[gI] at hA;rw[hE] at HY;clear gI yc hgd hE;have hds:Hid (∀ W c a,aI W a Z->Calls prog 142 #[.string mem,bO K O S a Z.length c] W (aT (.string D) W)):=fun W c a h=>by rw[hdat];exact Ql mem K O S a c Z W hm hpk zl s0 s2 h
  clear hdat;go_enter func99,ntmps99;go_wp2_with (first
   | (go_at_call 91;refine (su _ _).mono ?_;rintro e wq ⟨rfl,rfl⟩)
   | (go_at_call 90;refine (hpt.out _).mono ?_;rintro e w1 ⟨rfl,b1⟩)
   | (go_at_call 141;refine (hG.out _).mono ?_;intro e w2 hans;obtain ⟨a,c,rfl,ho,hc,b2⟩:=hA.out _ _ _ hans;clear hans;have p2:=Jt (k:=K) (o:=O) (t:=S) (a:=a) (n:=Z.length) (c:=c) (b1.trans (b2.mono b1.size));have y0:=p2.nb.c0;have y1:=p2.nb.c1;have y2:=p2.nb.c2;have y3:=p2.nb.c3;have r2:=ho.row.alloc (.cells (bj K O S a Z.length c) 117)))
  have bd:aj (w2.alloc (.cells (bj K O S a Z.length c) 117)) (w2.alloc (.cells (bj K O S a Z.length c) 117)).drew:=(aK _ _).drew;have p3:=p2.below bd;have r3:=r2.below bd;have o3:=(ho.alloc (.cells (bj K O S a Z.length c) 117)).below bd;have hbz:=b1.size;clear bd;go_region_with ((go_at_call 142;refine (hds.out _ _ _ r3).mono ?_;rintro e w4 ⟨rfl,b4⟩;have p4:=p3.below b4;have o4:=o3.below b4;have z0:=p4.nb.c0;have z1:=p4.nb.c1;have z2:=p4.nb.c2;have z3:=p4.nb.c3;obtain ⟨i0,i1,i2,i3,i4,i5⟩:=vC p4.res;obtain ⟨j0,j1,j2,j3,j4,j5⟩:=Jq p4.res))
  all_goals
   have q:=Jr p4.res (ad K) (ad O) (ad S) (.slice a Z.length c) (.string D) (.slice none 0 0);obtain ⟨u0,u1,u2,u3,u4,u5⟩:=vC q;go_wp2;refine bL (v:=.tuple #[vD K O S a Z.length c D none 0 0,.bool true]) (by simp[results,results99,go_sem,u0,u1,u2,u3,u4,u5]) rfl (HY.out _ _ _ _ _ _ _ hp (Js p4.ah (aq _) _ _ _ _ _ _) hc ?_ (aq _) (Or.inl rfl) (HA.out g2).symm);exact (QU o4 (by simp at hbz;omega) _ _ _ _ _ _).mono (by simp at hbz;omega)
 obtain ⟨⟨s0,s1⟩,zl,s2,hpk,-⟩:=yc gI;rw[gI] at hA;rw[hE] at HY;have HP:Hid (fv mem i=cO D):=hp;clear gI yc hE hp;have hds:Hid (∀ W c a,aI W a Z->Calls prog 142 #[.string mem,bO K O S a Z.length c] W (aT (.string D) W)):=fun W c a h=>by rw[hdat];exact Ql mem K O S a c Z W hm hpk zl s0 s2 h
 clear hdat;go_enter func99,ntmps99;go_wp2_with (first
  | (go_at_call 91;refine (su _ _).mono ?_;rintro e wq ⟨rfl,rfl⟩)
  | (go_at_call 90;refine (hpt.out _).mono ?_;rintro e w1 ⟨rfl,b1⟩)
  | (go_at_call 141;refine (hG.out _).mono ?_;intro e w2 hans;obtain ⟨a,c,rfl,ho,hc,b2⟩:=hA.out _ _ _ hans;clear hans;have p2:=Jt (k:=K) (o:=O) (t:=S) (a:=a) (n:=Z.length) (c:=c) (b1.trans (b2.mono b1.size));have y0:=p2.nb.c0;have y1:=p2.nb.c1;have y2:=p2.nb.c2;have y3:=p2.nb.c3;have r2:=ho.row.alloc (.cells (bj K O S a Z.length c) 117);have o2:=ho.alloc (.cells (bj K O S a Z.length c) 117))
  | (go_at_call 142;refine (hds.out _ _ _ r2).mono ?_;rintro e w3 ⟨rfl,b3⟩;have p3:=p2.below b3;have o3:=o2.below b3)
  | (go_at_call 143;refine (hgd.out _).mono ?_;intro e w4 hans;obtain ⟨ae,ce,rfl,hoe,hce,b4⟩:=HD.out _ _ _ hans;clear hans;have p4:=p3.below b4;have o4:=o3.below b4;have z0:=p4.nb.c0;have z1:=p4.nb.c1;have z2:=p4.nb.c2;have z3:=p4.nb.c3;obtain ⟨i0,i1,i2,i3,i4,i5⟩:=vC p4.res;obtain ⟨j0,j1,j2,j3,j4,j5⟩:=Jq p4.res))
 have q:=Jr p4.res (ad K) (ad O) (ad S) (.slice a Z.length c) (.string ⟨#[]⟩) (.slice ae (dI D).length ce);obtain ⟨u0,u1,u2,u3,u4,u5⟩:=vC q;have hbl:=Js p4.ah (aq _) (ad K) (ad O) (ad S) (.slice a Z.length c) (.string ⟨#[]⟩) (.slice ae (dI D).length ce);have hbz:=b1.size;have hp3:=p3.res.lt;refine bL (v:=.tuple #[vD K O S a Z.length c ⟨#[]⟩ ae (dI D).length ce,.bool (cO D)]) (by simp[results,results99,go_sem,u0,u1,u2,u3,u4,u5]) rfl ?_;cases hI:cO D with
 | false=>exact HN.out _ _ _ _ _ _ _ _ _ _ _ (HP.out.trans hI) hbl
 | true=>
  refine HY.out _ _ _ _ _ _ _ (HP.out.trans hI) hbl hc ?_ hce ?_ (HBB.out g2).symm;·exact (QU o4 (by simp at hbz;omega) _ _ _ _ _ _).mono (by simp at hbz;omega)
  ·exact (ab0 hoe hp3 _ _ _ _ _ _).mono (iH hp3)
end
section
open Go.Sort (Holds putRow grow)
variable {B : Nat} {N : Nat → cW} {F : Nat → Nat} {P : Nat → ByteArray} {w W W' : World} {Z : Nat → List Int}
theorem acG (g c:Nat) (zs:List Int) (w:World) (hl:zs.length<=1048576) (h:av g (bU zs) w):Calls prog 94 #[bg g zs.length c] w fun e w'=>∃ g' c',e=.returned (bg g' zs.length c')/\zs.length<=c'/\w.heap.size<=g'/\av g' (bU zs) w'/\aj w w':=by
 have key:∀ v' w',w'.ownsRow w.heap.size 3 1 v' zs.length (bU zs)->v' ≠ .slice none 0 0->∃ g' c',v'=bg g' zs.length c'/\zs.length<=c'/\w.heap.size<=g'/\av g' (bU zs) w':=by
  intro v' w' ho hne;rcases ho.2 with ⟨h1,_⟩ | ⟨g',cap',cur,rfl,hb,hg,hnc,hcm,hcs,ht⟩;·exact absurd h1 hne
  refine ⟨g',cap',rfl,hnc,hb,?_⟩;have hi:bo w.heap.size w' (some ⟨g',0,none⟩) zs.length cap' zs:=⟨rfl,ho⟩;rcases hi.own with h0 | ⟨g2,e,_,hk⟩
  ·rw[h0];exact ⟨fun j hj=>by simp at hj,fun j hj=>by simp at hj,(mY.1 hg).1⟩
  cases e;exact hk
 refine (Tryz.slices_Clone_int g 0 zs.length c zs w (aq _) (by omega) (fun j hj=>?_)).mono fun e w' ⟨v',he,ho,hne,hb⟩=>?_
 ·have:=h.cell j (by simpa using hj);rw[cR,this];simp[hj]
 rw[ks] at ho;obtain ⟨g',c',rfl,h1,h2,h3⟩:=key v' w' (by simpa using ho) hne;exact ⟨g',c',he,h1,h2,h3,hb⟩
theorem acH (w:World) (hT:dN B N F P w) (hZ:Ft N Z w):Calls prog 100 #[aD B 0] w (aT (.bool (decide (dh Z 8).Nodup)) w):=by
 have hlen:=xu hZ.yK 8;have hp:=QO w hT hZ;obtain ⟨zs,hzs⟩:∃ zs,dh Z 8=zs:=⟨_,rfl⟩;rw[hzs] at hp hlen ⊢;have hsl:=zI zs;have hcl:Hid (∀ g c W,av g (bU (fT zs)) W->Calls prog 94 #[bg g zs.length c] W fun e w'=>∃ g' c',e=.returned (bg g' zs.length c')/\zs.length<=c'/\W.heap.size<=g'/\av g' (bU (fT zs)) w'/\aj W w'):=fun g c W h=>by have:=acG g c (fT zs) W (by omega) h;rw[hsl] at this;exact this
 have hcm:Hid (∀ g c W,zs.length<=c->av g (bU (fT zs)) W->Calls prog 144 #[bg g zs.length c] W fun e w'=>e=.returned (bg g (Lib.compact (fT zs)).length c)/\∀ b,b<=g->b<=W.heap.size->Below b W w'):=fun g c W hc h=>by
  have:=Tryz.slices_Compact_int g 0 c (fT zs) W (Fs h) (by omega) (by omega);rw[hsl] at this;refine this.mono fun e w' ⟨he,q,hw⟩=>⟨he,fun b hb hs=>?_⟩;subst hw;refine ⟨rfl,rfl,rfl,?_,fun k hk=>?_⟩
  ·rw[Bc];exact aq _
  show (W.heap.modify g _)[k]? = W.heap[k]?
  rw[NG,aG (by omega)]
 have hfin:(((Lib.compact (fT zs)).length:Int) == (zs.length:Int))=decide zs.Nodup:=by
  have:=abD zs;by_cases h:zs.Nodup
  ·rw[bF h];have:=this.2 h;simp;omega
  rw[bq h];have:¬ (Lib.compact (fT zs)).length=zs.length:=fun e=>h (this.1 e);simp;omega
 obtain ⟨L,hL⟩:∃ L,(Lib.compact (fT zs)).length=L:=⟨_,rfl⟩;rw[hL] at hcm hfin;obtain ⟨r,hr⟩:∃ r,decide zs.Nodup=r:=⟨_,rfl⟩;rw[hr] at hfin ⊢;clear hT hZ hL hr hzs;go_enter func100,ntmps100;go_wp2_with (first
  | (go_at_call 88;refine hp.mono ?_;rintro e w1 ⟨g1,c1,rfl,hc1,hg1,k1,b1⟩)
  | (go_at_call 94;refine (hcl.out _ _ _ k1).mono ?_;rintro e w2 ⟨g2,c2,rfl,hc2,hg2,k2,b2⟩)
  | (go_at_call 144;refine (hcm.out _ _ _ hc2 k2).mono ?_;rintro e w3 ⟨rfl,b3⟩))
 go_ret;exact ⟨rfl,(b1.trans (b2.mono b1.size)).trans (b3 _ (bt b1.size hg2) (bt b1.size b2.size))⟩
end
section
variable {B : Nat} {N : Nat → cW} {F : Nat → Nat} {P : Nat → ByteArray} {w W W' : World} {Z : Nat → List Int} {mem : ByteArray}
def sR:cW:=⟨0,0,0,none,0,0,⟨#[]⟩,none,0,0⟩
def nI:List Value:=kI (fun _=>sR) 8++List.replicate 8 (.int .i64 0)++List.replicate 8 (.string ⟨#[]⟩)
theorem Ru {α:Type} (v:α) (n i:Nat) (h:i<n):(List.replicate n v)[i]? = some v:=by rw[aiT,aF h]
theorem acI:(prog.info? 136).map (fun i=>(i.zero,i.size))=some (some (.agg nI.toArray),64):=by kernel_rfl
theorem acJ:nI.length=64:=by simp[nI,qV]
theorem acK (w:World):dN w.heap.size (fun _=>sR) (fun _=>0) (fun _=>⟨#[]⟩) (w.alloc (.cells nI.toArray 136)):=by
 have hb:=bu nI w 136;have hl:=acJ;refine ⟨fun i hi j hj=>?_,fun i hi=>?_,fun i hi=>?_,fun j hj=>hb.free j (by omega),hb.lt⟩
 ·have hj':j<6:=hj;rw[hb.cell (i*6+j) (by omega)];have h1:(kI (fun _=>sR) 8).length=48:=qV _ 8;have:=QK (fun _=>sR) i j hi hj';have e:nI[i*6+j]? = sR.ee[j]?:=by
   unfold nI;rw[jQ,pK (by omega)];exact this
  rw[gD (by omega),gD hj] at e;exact e
 ·rw[hb.cell (48+i) (by omega)];have h1:(kI (fun _=>sR) 8).length=48:=qV _ 8;have e:nI[48+i]? = some (ad 0):=by
   unfold nI;rw[jQ,ng (by omega),h1,pK (by rw[Xj];omega),show 48+i-48=i by omega];exact Ru _ 8 i hi
  rw[gD (by omega)] at e;exact e
 rw[hb.cell (56+i) (by omega)];have h1:(kI (fun _=>sR) 8).length=48:=qV _ 8;have e:nI[56+i]? = some (.string ⟨#[]⟩):=by unfold nI;rw[ng (by rw[bY,h1,Xj];omega),bY,h1,Xj,show 56+i-(48+8)=i by omega];exact Ru _ 8 i hi
 rw[gD (by omega)] at e;exact e
abbrev zQ (W:World) (B i:Nat) (d:cW):World:=((((((W.setCell ⟨B,i*6,none⟩ (.int .i64 d.k)).setCell ⟨B,i*6+1,none⟩ (.int .i64 d.o)).setCell ⟨B,i*6+2,none⟩ (.int .i64 d.s)).setCell ⟨B,i*6+3,none⟩ (.slice d.a d.n d.c)).setCell ⟨B,i*6+4,none⟩ (.string d.x)).setCell ⟨B,i*6+5,none⟩ (.slice d.ae d.ne d.ce))
def vG (N:Nat->cW) (i:Nat) (d:cW):Nat->cW:=fun y=>if y=i then d else N y
theorem acL (h:∀ j,j<64->∃ v,af W B j v) {i:Nat} (hi:i<8) (d:cW) (j:Nat) (hj:j<64):(zQ W B i d).cell? ⟨B,j,none⟩=if i*6<=j/\j<i*6+6 then d.ee[j-i*6]? else W.cell? ⟨B,j,none⟩:=by
 have hs:∀ (W:World) (k:Nat) (v:Value) (m:Nat),(∃ u,af W B m u)->(W.setCell ⟨B,k,none⟩ v).cell? ⟨B,m,none⟩=if k=m then some v else W.cell? ⟨B,m,none⟩:=by
  intro W k v m ⟨u,hu⟩;by_cases e:k=m
  ·subst e;rw[aF rfl,rW _ _ _ hu]
  rw[aG e,wW e]
 have hx:∀ (W:World) (k:Nat) (v:Value) (m:Nat),(∃ u,af W B m u)->∃ u,(W.setCell ⟨B,k,none⟩ v).cell? ⟨B,m,none⟩=some u:=by
  intro W k v m hu;rw[hs W k v m hu];split;·exact ⟨_,rfl⟩
  exact hu
 have h0:=h j hj;have h1:=hx W (i*6) (ad d.k) j h0;have h2:=hx _ (i*6+1) (ad d.o) j h1;have h3:=hx _ (i*6+2) (ad d.s) j h2;have h4:=hx _ (i*6+3) (.slice d.a d.n d.c) j h3;have h5:=hx _ (i*6+4) (.string d.x) j h4;unfold zQ;rw[hs _ _ _ _ h5,hs _ _ _ _ h4,hs _ _ _ _ h3,hs _ _ _ _ h2,hs _ _ _ _ h1,hs _ _ _ _ h0];by_cases hc:i*6<=j/\j<i*6+6
 ·rw[aF hc];obtain ⟨m,rfl⟩:∃ m,j=i*6+m:=⟨j-i*6,by omega⟩;have hm:m<6:=by omega
  rw[show i*6+m-i*6=m by omega];rcases m with _ | _ | _ | _ | _ | _ | m;·simp[cW.ee]
  ·simp[cW.ee]
  ·simp[cW.ee]
  ·simp[cW.ee]
  ·simp[cW.ee]
  ·simp[cW.ee]
  omega
 rw[aG hc,aG (by omega),aG (by omega),aG (by omega),aG (by omega),aG (by omega),aG (by omega)]
theorem dN.any (h:dN B N F P W) (j:Nat) (hj:j<64):∃ v,af W B j v:=by
 by_cases h1:j<48
 ·have e:j=j / 6*6+j % 6:=by omega
  rw[e];exact ⟨_,h.node (j / 6) (by omega) (j % 6) (by rw[cW.MM];omega)⟩
 by_cases h2:j<56
 ·have:=h.fnd (j-48) (by omega);rw[show 48+(j-48)=j by omega] at this;exact ⟨_,this⟩
 have:=h.rz (j-56) (by omega);rw[show 56+(j-56)=j by omega] at this;exact ⟨_,this⟩
theorem dN.G7 (h:dN B N F P W) {i:Nat} (hi:i<8) (d:cW):dN B (vG N i d) F P (zQ W B i d):=by
 have hc:=acL h.any hi d;refine ⟨fun k hk j hj=>?_,fun k hk=>?_,fun k hk=>?_,fun j hj=>?_,?_⟩
 ·have hj':j<6:=hj;rw[hc (k*6+j) (by omega)];by_cases e:k=i
  ·subst e;rw[aF (by omega),show k*6+j-k*6=j by omega];simp only[vG,aF rfl] at hj ⊢;exact gD hj
  rw[aG (by omega)];simp only[vG,aG e] at hj ⊢;exact h.node k hk j hj
 ·rw[hc (48+k) (by omega),aG (by omega)];exact h.fnd k hk
 ·rw[hc (56+k) (by omega),aG (by omega)];exact h.rz k hk
 ·rw[iI,iI,iI,iI,iI,iI];exact h.free j hj
 have:=h.lt;simpa [World.setCell] using this
end
section
variable {B : Nat} {N : Nat → cW} {F : Nat → Nat} {P : Nat → ByteArray} {w W W' : World} {mem : ByteArray}
def bZ (mem:ByteArray) (i:Nat):Int:=aX (ar mem (i:Int))
def dL (mem:ByteArray) (i:Nat):List Int:=aN (ar mem (i:Int))
def bK (mem:ByteArray) (i:Nat):List aV:=dw mem (i:Int)
def qX:ByteArray:=⟨#[84,78,82,49]⟩++bB 28
theorem acM:bJ (bB 32) 0 ⟨#[84,78,82,49]⟩=qX:=by decide +kernel
def vH (mem:ByteArray):Bool:=(aO mem 0 32).toList == qX.toList
def kf (mem:ByteArray):Bool:=bC (fun i=>fv mem (i:Int)) 8
def cv (mem:ByteArray):Bool:=decide (mem.size=768) && (vH mem && (kf mem && ((bZ mem 0 == 2) && (decide (dh (dL mem) 8).Nodup && gU (bK mem) (bZ mem)))))
theorem acN (mem:ByteArray) (i:Nat) (h:8<=i):ar mem (i:Int)=⟨#[]⟩:=by
 unfold ar bA aO;have h1:aW (i:Int) 0 7=false:=by simp[aW];omega
 have h2:cZ mem.size (-1) 16=false:=by simp[cZ]
 have h3:(if aW (i:Int) 0 7=true then 32+(i:Int)*16 else -1) = -1:=by rw[h1];rfl
 rw[h3,h2];rfl
theorem acO:bp ⟨#[]⟩=false:=by decide +kernel
theorem acP (mem:ByteArray) (i:Nat) (h:8<=i):bZ mem i=0:=by unfold bZ;rw[acN mem i h];exact (wM acO).1
theorem FO (mem:ByteArray) (i:Int) (h:dw mem i ≠ []):aX (ar mem i)=2/\cO (eY mem i)=true/\dw mem i=dX (eY mem i) ((eY mem i).size / 16):=by
 unfold dw at h ⊢;by_cases h2:aX (ar mem i)=2
 ·rw[aF h2] at h ⊢;unfold dI at h ⊢;cases hD:cO (eY mem i) with
  | false=>rw[hD] at h;exact absurd rfl h
  | true=>
   refine ⟨h2,rfl,?_⟩;rw[aF rfl,(uQ hD).2.2.1]
 rw[aG h2] at h;exact absurd rfl h
theorem JG (mem:ByteArray) (i:Int) (e:aV) (h:e ∈ dw mem i):(0<e.1/\e.1<8)/\e.2.size<=14:=by obtain ⟨_,hD,hE⟩:=FO mem i (WR h);have qX:=(uQ hD).2.2.2.2;rw[hE] at h;simp only[gL,cj,dC] at qX;obtain ⟨k,hk,he⟩:=uK.1 h;have h1:=(Bs (Ek qX.2 hk)).1;rw[qG _ _ hk,he] at h1;obtain ⟨h2,h3⟩:=Bh h1;refine ⟨by omega,?_⟩;simp only[gQ,cj] at h2;have:=pL h2.2.1;omega
theorem Rv (mem:ByteArray) (i:Int):(dw mem i).length<=12:=by
 by_cases h:dw mem i=[]
 ·rw[h];decide
 obtain ⟨_,hD,hE⟩:=FO mem i h;have:=(uQ hD).1;rw[hE,kZ];omega
theorem sS (mem:ByteArray):sG (bK mem) (bZ mem):=⟨fun d h=>(FO mem d h).1,fun d e h=>(JG mem d e h).1⟩
theorem xC (mem:ByteArray) (i:Nat):(dL mem i).length<=12:=by
 unfold dL;cases h:bp (ar mem (i:Int)) with
 | true=>exact bt (mH h).2.1 (by decide)
 | false=>rw[(wM h).2.2.2];decide
structure lB (mem:ByteArray) (B:Nat) (i:Nat) (d:cW) (W:World):Prop where
 k:d.k=bZ mem i
 o:d.o=cq (ar mem (i:Int))
 n:d.n=(dL mem i).length
 c:d.n<=d.c
 row:aQ (B+1) W d.a (dL mem i)
 ne:d.ne=(bK mem i).length
 ce:d.ne<=d.ce
 Al:dK (B+1) W d.ae (bK mem i)
 x:d.x=lu mem (i:Int)
theorem lB.below {i:Nat} {d:cW} (h:lB mem B i d W) (hb:aj W W'):lB mem B i d W':=⟨h.k,h.o,h.n,h.c,h.row.below hb,h.ne,h.ce,h.Al.below hb,h.x⟩
theorem lB.set {i:Nat} {d:cW} (h:lB mem B i d W) (j:Nat) (v:Value):lB mem B i d (W.setCell ⟨B,j,none⟩ v):=⟨h.k,h.o,h.n,h.c,h.row.set (gn B) j v,h.ne,h.ce,gg h.Al (gn B) j v,h.x⟩
theorem lB.G7 {i:Nat} {d:cW} (h:lB mem B i d W) (j:Nat) (u:cW):lB mem B i d (zQ W B j u):=(((((h.set _ _).set _ _).set _ _).set _ _).set _ _).set _ _
theorem acQ {a:Option Addr} {zs:List Int} (h:aQ (B+1) w a zs) (hg:w.grownBy W (some B)):aQ (B+1) W a zs:=h.imp id fun ⟨g,e,hb,hk⟩=>⟨g,e,hb,IX hk hg (by omega)⟩
theorem acR {a:Option Addr} {es:List aV} (h:dK (B+1) w a es) (hg:w.grownBy W (some B)):dK (B+1) W a es:=by refine h.imp id fun ⟨g,e,hb,hk⟩=>⟨g,e,hb,?_⟩;have hc:∀ x,W.cell? ⟨g,x,none⟩=w.cell? ⟨g,x,none⟩:=fun x=>uM (a:=⟨g,x,none⟩) (hg.block g hk.lt (by simp;omega));have hf:∀ x,W.frozen? ⟨g,x,none⟩=w.frozen? ⟨g,x,none⟩:=fun x=>yO (a:=⟨g,x,none⟩) (hg.block g hk.lt (by simp;omega));exact ⟨fun j hj=>by rw[hc,hc];exact hk.done j hj,fun j hj=>by rw[hc];exact hk.there j hj,fun j hj=>by rw[hf];exact hk.free j hj,cS hk.lt hg.size⟩
theorem lB.gr {i:Nat} {d:cW} (h:lB mem B i d w) (hg:w.grownBy W (some B)):lB mem B i d W:=⟨h.k,h.o,h.n,h.c,acQ h.row hg,h.ne,h.ce,acR h.Al hg,h.x⟩
structure jL (mem:ByteArray) (w:World) (k:Nat) (N:Nat->cW) (W:World):Prop where
 tb:dN w.heap.size N (fun _=>0) (fun _=>⟨#[]⟩) W
 nd:∀ i,i<k->lB mem w.heap.size i (N i) W
 GU:∀ i,k<=i->N i=sR
 ah:aj w W
theorem jL.below {k:Nat} (h:jL mem w k N W) (hb:aj W W'):jL mem w k N W':=⟨h.tb.below hb h.tb.lt,fun i hi=>(h.nd i hi).below hb,h.GU,h.ah.trans (hb.mono h.ah.size)⟩
theorem jL.drew {k:Nat} (h:jL mem w k N W):jL mem w k N W.drew:=⟨h.tb.drew,fun i hi=>(h.nd i hi).below ((aK _ _).drew),h.GU,h.ah.drew⟩
theorem acS (mem:ByteArray) (w:World):jL mem w 0 (fun _=>sR) (w.alloc (.cells nI.toArray 136)):=⟨acK w,fun i hi=>by omega,fun i _=>rfl,aB w _⟩
theorem jL.step {k:Nat} {d:cW} (h:jL mem w k N W) (hk:k<8) (hd:lB mem w.heap.size k d W):jL mem w (k+1) (vG N k d) (zQ W w.heap.size k d):=by
 refine ⟨h.tb.G7 hk d,fun i hi=>?_,fun i hi=>?_,?_⟩
 ·by_cases e:i=k
  ·subst e;simp only[vG,aF rfl];exact hd.G7 i d
  simp only[vG,aG e];exact (h.nd i (by omega)).G7 k d
 ·simp only[vG,aG (show ¬ i=k by omega)];exact h.GU i (by omega)
 exact (((((h.ah.setCell (p:=⟨w.heap.size,k*6,none⟩) (aq _) _).setCell (p:=⟨w.heap.size,k*6+1,none⟩) (aq _) _).setCell (p:=⟨w.heap.size,k*6+2,none⟩) (aq _) _).setCell (p:=⟨w.heap.size,k*6+3,none⟩) (aq _) _).setCell (p:=⟨w.heap.size,k*6+4,none⟩) (aq _) _).setCell (p:=⟨w.heap.size,k*6+5,none⟩) (aq _) _
theorem jL.kinds (h:jL mem w 8 N W):(fun i=>(N i).k)=bZ mem:=by
 funext i
 by_cases hi:i<8;·exact (h.nd i hi).k
 rw[h.GU i (by omega),acP mem i (by omega)];rfl
theorem jL.ns (h:jL mem w 8 N W):BN w.heap.size N (bK mem) W:=⟨fun i hi=>(h.nd i hi).ne,fun i hi=>(h.nd i hi).Al,by rw[h.kinds];exact sS mem,fun i=>Rv mem i,fun i e he=>(JG mem i e he).2⟩
theorem jL.ps (h:jL mem w 8 N W):Ft N (dL mem) W:=⟨fun i hi=>(h.nd i hi).n,fun i hi=>(h.nd i hi).row.row,xC mem⟩
structure nJ (mem:ByteArray) (B:Nat) (N:Nat->cW) (F:Nat->Nat) (P:Nat->ByteArray) (W:World):Prop where
 tb:dN B N F P W
 nd:∀ i,i<8->lB mem B i (N i) W
 inv:fM (bK mem) (bZ mem) [] F P
theorem nJ.below (h:nJ mem B N F P W) (hb:aj W W'):nJ mem B N F P W':=⟨h.tb.below hb h.tb.lt,fun i hi=>(h.nd i hi).below hb,h.inv⟩
theorem nJ.ps (h:nJ mem B N F P W):Ft N (dL mem) W:=⟨fun i hi=>(h.nd i hi).n,fun i hi=>(h.nd i hi).row.row,xC mem⟩
def zR (mem:ByteArray) (w:World) (e:Ending) (w':World):Prop:=∃ p,e=.returned (.tuple #[.pointer p,.bool (cv mem)])/\aj w w'/\(cv mem=true->∃ B N F P,p=some ⟨B,0,none⟩/\w.heap.size<=B/\nJ mem B N F P w')
theorem acT {mem:ByteArray} {w w':World} {p:Option Addr} (h:cv mem=false) (hb:aj w w'):zR mem w (.returned (.tuple #[.pointer p,.bool false])) w':=⟨p,by rw[h],hb,fun h'=>by rw[h] at h';cases h'⟩
theorem acU {mem:ByteArray} {w w':World} (h:cv mem=true) (hb:aj w w') (hB:w.heap.size<=B) (hg:nJ mem B N F P w'):zR mem w (.returned (.tuple #[aD B 0,.bool true])) w':=⟨_,by rw[h],hb,fun _=>⟨B,N,F,P,rfl,hB,hg⟩⟩
end
end Go.Proofs.YtidmmopnkjbjoaaGreatDoor
