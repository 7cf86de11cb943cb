/- Joined texts. -/
import Derived.Test.YtgpfmgaidbjcpaaGreatDoorJhH
import Derived.Test.YtgpfmgaidbjcpaaGreatDoorJhO
import Derived.Test.YtgpfmgaidbjcpaaGreatDoorJhP
set_option linter.unusedVariables false
set_option linter.unusedSimpArgs false
set_option maxRecDepth 10000
set_option maxHeartbeats 16000000
namespace Go.Proofs.YtgpfmgaidbjcpaaGreatDoor
open ChangeShapes WideShapes ChangeAt RowKit
open Go.Proofs.Tryz
section
variable {base n cap : Nat} {a : Option Addr} {w W : World} {zs : List Int}
theorem JU (ty:TypeId) (hbuf:bH base w a n cap zs) (ax:Option Addr) (cx:Nat) (xs:List Int) (hR:aK w ax xs) (hlen:n+xs.length<=4194304) (hb:base<=w.heap.size):∃ a' cap' w',(Builtin.append_ #[29,29] ty #[.slice a n cap,.slice ax xs.length cx]).run prog w=.ok (.slice a' (n+xs.length) cap') w'/\bH base w' a' (n+xs.length) cap' (zs++xs)/\w.grownBy w' (Value.slice a n cap).ownBlock/\(∀ g,(Value.slice a' (n+xs.length) cap').ownBlock=some g->(Value.slice a n cap).ownBlock=some g\/g=w.heap.size):=by
 obtain ⟨i0,hi,hz0,hz1,hz2⟩:=iv vc;by_cases h0:xs=[]
 ·subst h0;refine ⟨a,cap,w,vh w 29 _ 3 i0 underlying29 hi a n cap hbuf.fits ax cx,by rw[qH];exact hbuf,⟨rfl,rfl,rfl,av _,fun _ _ _=>rfl⟩,fun g hg=>Or.inl ?_⟩;cases a with
  | none=>cases hg
  | some p=>exact hg
 rcases hR with hR | ⟨b,off,rfl,hb2,hc⟩;·exact absurd hR h0
 have hm:0<xs.length:=Bg.2 h0;obtain ⟨g,cp,w',hrun,r1,r2,r3,r4⟩:=Zg (P:=prog) w 29 ty base 3 i0 (aa 0) 1 8 underlying29 hi hz0 hz1 hz2 rfl (by omega) _ n _ hbuf.2 ⟨b,off,none⟩ xs.length cx (cR xs) (by simp) (by
  intro j u hj;have hj':j<xs.length:=by have:=(qI.1 hj).1;simpa using this
  rw[qL,hc j hj',fq _ _ hj',<- hj];simp[hj']) (Jg xs) hm (by unfold maxLen;omega) (by omega) hb _ rfl
 refine ⟨some ⟨g,0,none⟩,cp,w',hrun,⟨by rw[hbuf.1];simp,?_⟩,r2,fun g2 h2=>?_⟩
 ·rw[show cR (zs++xs)=cR zs++cR xs by simp];exact r1
 cases h2;exact r3
theorem jS (hbuf:bH base w a n cap zs) (hb:base<=w.heap.size) (hg:w.grownBy W (Value.slice a n cap).ownBlock):Below base w W:=mw (aQ _ _) hg (zr hbuf) hb
theorem RE {ops:Array Oper} {rest:List Oper} {o:Oper} {A:Act} {Q:Exit->Act->World->Prop} (hgd:o.guard=none) (sl x:Operand) (ho:o.op=.call { callee:=.builtin .append,args:=#[sl,x],argTypes:=#[29,29] }) (hbuf:bH base w a n cap zs) (ax:Option Addr) (cx:Nat) (xs:List Int) (hs:A.eval sl=.slice a n cap) (hx:A.eval x=.slice ax xs.length cx) (hR:aK w ax xs) (hlen:n+xs.length<=4194304) (hb:base<=w.heap.size) (h:∀ a' cap' w',bH base w' a' (n+xs.length) cap' (zs++xs)->w.grownBy w' (Value.slice a n cap).ownBlock->(∀ g,(Value.slice a' (n+xs.length) cap').ownBlock=some g->(Value.slice a n cap).ownBlock=some g\/g=w.heap.size)->wpList prog ops Q rest (A.put o.dst (.slice a' (n+xs.length) cap')) w'):wpList prog ops Q (o :: rest) A w:=by obtain ⟨a',cap',w',hrun,r1,r2,r3⟩:=JU o.type hbuf ax cx xs hR hlen hb;exact Bf _ hgd sl x 29 29 ho _ _ hs hx _ _ hrun (h a' cap' w' r1 r2 r3)
end
section
def mA (zs al:List Int):List Int:=zs.filter (bC al)
def gD (mem:ByteArray) (d:ai):List Int:=if fQ mem d=true then mA d.fr (dt (cP mem d.ino)) else []
theorem adT {zs al:List Int} {k:Nat} (hk:k<zs.length) (h:bC al (zs.getD k 0)=true):mA (zs.take (k+1)) al=mA (zs.take k) al ++ [zs.getD k 0]:=by unfold mA;rw[mq hk,wJ,fq _ _ hk];rw[fq _ _ hk] at h;simp[h]
theorem adU {zs al:List Int} {k:Nat} (hk:k<zs.length) (h:bC al (zs.getD k 0)=false):mA (zs.take (k+1)) al=mA (zs.take k) al:=by unfold mA;rw[mq hk,wJ];rw[fq _ _ hk] at h;simp[h]
theorem adV (zs al:List Int) (k:Nat):(mA (zs.take k) al).length<=zs.length:=br (Ot _ _) (by rw[jk];omega)
def mB (W:World) (be:Option Addr) (es:List aB) (a:Option Addr):Prop:=cW W be es/\(es=[]\/∀ p q,a=some p->be=some q->p.block≠q.block)
variable {w W W' : World} {a a' be : Option Addr} {es : List aB}
theorem mB.below (h:mB W be es a) (hb:ah W W'):mB W' be es a:=⟨h.1.below hb,h.2⟩
theorem mB.grown {n c n' c':Nat} (h:mB W be es a) (hg:W.grownBy W' (Value.slice a n c).ownBlock) (hn:∀ g,(Value.slice a' n' c').ownBlock=some g->(Value.slice a n c).ownBlock=some g\/g=W.heap.size):mB W' be es a':=by
 rcases h.1 with h0 | ⟨b,off,rfl,hlt,hc⟩;·exact ⟨Or.inl h0,Or.inl h0⟩
 rcases h.2 with h0 | hne;·exact ⟨Or.inl h0,Or.inl h0⟩
 have hb:W'.heap[b]? = W.heap[b]?:=hg.block b hlt (fun q=>by
  cases a with
  | none=>cases q
  | some p=>exact hne p _ rfl rfl (by simpa [Value.ownBlock] using q.symm))
 refine ⟨Or.inr ⟨b,off,rfl,cv hlt hg.size,fun j hj=>⟨(mv (a:=⟨b,off+j*2,none⟩) hb).trans (hc j hj).1,(mv (a:=⟨b,off+j*2+1,none⟩) hb).trans (hc j hj).2⟩⟩,Or.inr fun p q hp hq=>?_⟩;cases hq;subst hp;rcases hn p.block rfl with h1 | h1
 ·cases a with
  | none=>cases h1
  | some p0=>
   have:p0.block=p.block:=by simpa [Value.ownBlock] using h1
   rw[<- this];exact hne p0 _ rfl rfl
 show p.block≠b
 omega
theorem JV {B:Nat} (hR:cW W be es) (hB:W.heap[B]? = some (.cells #[] 3)):mB W be es (some ⟨B,0,none⟩):=by
 rcases hR with h0 | ⟨b,off,rfl,hlt,hc⟩;·exact ⟨Or.inl h0,Or.inl h0⟩
 by_cases h0:es=[];·exact ⟨Or.inl h0,Or.inl h0⟩
 refine ⟨Or.inr ⟨b,off,rfl,hlt,hc⟩,Or.inr fun p q hp hq=>?_⟩;cases hp;cases hq;show B≠b
 rintro rfl;have:=(hc 0 (Bg.2 h0)).1;simp[World.cell?,hB] at this
theorem vv (w:World) (z:Int):aK (w.alloc (.cells #[aa z] 3)) (some ⟨w.heap.size,0,none⟩) [z]:=wU (aY (cR [z]) w 3)
theorem adW (mem:ByteArray) (d:ai) (s:aI) (w:World) (hms:mem.size<=281474976710656) (hF:iV d s) (hpo:d.po.length<=1048576) (hfr:d.fr.length<=1048576) (hR:cJ w d s):Calls prog 246 #[.string mem,bL d s] w fun e w'=>∃ a c,e=.returned (.slice a (gD mem d).length c)/\(gD mem d).length<=c/\aR w.heap.size w' a (gD mem d)/\ah w w':=by
 have l0:=aA w (.cells (dU d s) 31);have l1:=l0.alloc l0.size (.cells #[] 3);have b0:=lP (base:=w.heap.size) (w.alloc (.cells (dU d s) 31)) l0.size;have k0:=nA (w.alloc (.cells (dU d s) 31)) (.cells #[] 3);have HK:Hid (∀ W,ah w W->Calls prog 263 #[.string mem,bL d s] W fun e w'=>∃ (k o t:Int) (a:Option Addr) (n c:Nat) (ae:Option Addr) (ne ce:Nat) (d':ai) (s':aI) (be:Option Addr) (n2 c2:Nat),e=.returned (.tuple #[cz k o t a n c ae ne ce d' s',.slice be n2 c2,.bool (fQ mem d)])/\ah W w'/\(fQ mem d=true->d'=d/\s'=s/\n2=(cP mem d.ino).length/\cW w' be (cP mem d.ino))):=fun W hb=>(Jt mem d s W hms hF hpo hfr (hR.below hb)).mono fun e w' ⟨k,o,t,a,n,c,ae,ne,ce,d',s',be,n2,c2,he,hb,hy⟩=>⟨k,o,t,a,n,c,ae,ne,ce,d',s',be,n2,c2,he,hb,fun h=>⟨(hy h).1,(hy h).2.1,(hy h).2.2.2.2.1,(hy h).2.2.2.2.2⟩⟩;have hr3:Hid (∀ W,ah w W->aK W s.a3 d.fr):=fun W hb=>(hR.below hb).r3;clear hF;have hel:=Js mem d.ino;cases hv:fQ mem d with
 | false=>
  have hco:gD mem d=[]:=by rw[gD,hv];rfl
  rw[hco];rw[hv] at HK;clear hv hco hel hR;go_enter func246,ntmps246;go_wp2_with (go_at_call 263;refine (HK.out _ l1).mono ?_;rintro e w1 ⟨k,o,t,a,n,c,ae,ne,ce,d',s',be,n2,c2,rfl,b1,-⟩);go_ret;exact ⟨_,_,rfl,av _,Or.inl rfl,(l1.trans (b1.mono l1.size)).alloc (br l1.size b1.size) _⟩
 | true=>
  have hco:gD mem d=mA d.fr (dt (cP mem d.ino)):=by rw[gD,aN hv]
  rw[hco];rw[hv] at HK;obtain ⟨es,hes⟩:∃ es,cP mem d.ino=es:=⟨_,rfl⟩;rw[hes] at HK hel ⊢;clear hv hco hR hes;go_enter func246,ntmps246;go_wp2_with (go_at_call 263;refine (HK.out _ l1).mono ?_;rintro e w1 ⟨k,o,t,a,n,c,ae,ne,ce,d',s',be,n2,c2,rfl,b1,hy⟩;obtain ⟨ed,es',rfl,rE⟩:=hy rfl;subst d';subst s';clear hy;have bW:=aA w1 (fg k o t a n c ae ne ce d s));have ap:mB (w1.alloc (fg k o t a n c ae ne ce d s)) be es (some ⟨w.heap.size+1,0,none⟩):=mB.below (JV (B:=w.heap.size+1) rE ((b1.block _ (by simp)).trans (by simpa using k0))) bW;have bf:bH w.heap.size (w1.alloc (fg k o t a n c ae ne ce d s)) (some ⟨w.heap.size+1,0,none⟩) 0 0 []:=by have:=(b0.below b1).below bW;simpa using this
  have l2:=(l1.trans (b1.mono l1.size)).alloc (br l1.size b1.size) (fg k o t a n c ae ne ce d s);clear b0 k0 l0 l1 HK;go_loopw [5,26] (fun v i w'=>∃ (k n c:Nat) (a:Option Addr),k<=d.fr.length/\i=aa k/\v=.slice a n c/\bH w.heap.size w' a n c (mA (d.fr.take k) (dt es))/\mB w' be es a/\ah w w') (fun _ i _=>d.fr.length-(intOf i).toNat);case atStart=>exact ⟨0,0,0,_,bh _,rfl,rfl,bf,ap,l2⟩
  case round=>
   obtain ⟨k5,n5,c5,a5,hk,rfl,rfl,hbuf,hap,hbel⟩:=hrel;clear bf ap l2 rE;by_cases hlt:k5<d.fr.length
   ·obtain ⟨b,off,hab,_,hc⟩:=(hr3.out _ hbel).get hlt;have x1:=hc k5 hlt;have ml:=fun h=>adT (zs:=d.fr) (al:=dt es) hlt h;have hno:=fun h=>adU (zs:=d.fr) (al:=dt es) hlt h;have hnl:n5<=d.fr.length:=by rw[hbuf.1];exact adV _ _ _
    obtain ⟨z,ez⟩:∃ z,d.fr.getD k5 0=z:=⟨_,rfl⟩;rw[ez] at x1 ml hno;rw[hab];have e1:(0:Int)<=(k5:Int):=by omega
    have e2:(k5:Int)<(d.fr.length:Int):=by omega
    have hI:Hid (∀ W,cW W be es->_):=fun W h=>ET be c2 es z W (by omega) h;cases h:bC (dt es) z with
    | true=>
     have HS:Hid (mA (d.fr.take k5) (dt es) ++ [z]=mA (d.fr.take (k5+1)) (dt es)):=(ml h).symm;rw[h] at hI;clear ez hc ml hno h;go_wp2_with (first
      | (go_at_call 225;refine (hI.out _ hap.1).mono ?_;rintro e w6 ⟨rfl,b6⟩;have p6:=(hap.below b6).below (aA w6 (.cells #[aa z] 3));have f6:=(hbuf.below b6).alloc (.cells #[aa z] 3);have l6:=(hbel.trans (b6.mono hbel.size)).alloc (br hbel.size b6.size) (.cells #[aa z] 3))
      | (at_builtin;refine RE rfl (.tmp 33) (.tmp 35) rfl f6 _ _ [z] (by rfl) (by rfl) (vv w6 z) (by simp only[fv,gv];omega) l6.size ?_;intro a7 c7 w7 f7 g7 o7))
     have p7:=p6.grown g7 o7;have l7:=l6.trans (jS f6 l6.size g7);go_roundw;case rel=>exact ⟨k5+1,n5+1,c7,a7,by omega,by go_num,rfl,by rw[<- HS.out];exact f7,p7,l7⟩
     case measure=>simp[intOf];omega
    | false=>
     have HS:Hid (mA (d.fr.take (k5+1)) (dt es)=mA (d.fr.take k5) (dt es)):=hno h;rw[h] at hI;clear ez hc ml hno h;go_wp2_with (go_at_call 225;refine (hI.out _ hap.1).mono ?_;rintro e w6 ⟨rfl,b6⟩);go_roundw;case rel=>exact ⟨k5+1,n5,c5,a5,by omega,by go_num,rfl,by rw[HS.out];exact hbuf.below b6,hap.below b6,hbel.trans (b6.mono hbel.size)⟩
     case measure=>simp[intOf];omega
   obtain rfl:k5=d.fr.length:=by omega
   have HF:Hid (bH w.heap.size wr a5 n5 c5 (mA d.fr (dt es))):=by
    show bH _ _ _ _ _ _
    rw[nC] at hbuf;exact hbuf
   have e9:decide ((d.fr.length:Int)<(d.fr.length:Int))=false:=by simp
   clear hbuf hap;go_wp2;go_ret;exact ⟨a5,c5,by rw[<- HF.out.1];rfl,by rw[<- HF.out.1];exact HF.out.fits,HF.out.own,hbel⟩
end
theorem lz {base n cp:Nat} {p:Option Addr} {W:World} {zs:List Int} {ops:Array Oper} {o:Oper} {A:Act} {K:Act->World->Prop} {Q:Exit->Act->World->Prop} {E:Prop} (hgd:o.guard=none) (sl x:Operand) (ho:o.op=.call { callee:=.builtin .append,args:=#[sl,x],argTypes:=#[29,29] }) (hbuf:bH base W p n cp zs) (ax:Option Addr) (cx:Nat) (xs:List Int) (hs:A.eval sl=.slice p n cp) (hx:A.eval x=.slice ax xs.length cx) (hR:aK W ax xs) (hlen:n+xs.length<=4194304) (hb:base<=W.heap.size) (h:∀ a' cap' w',bH base w' a' (n+xs.length) cap' (zs++xs)->W.grownBy w' (Value.slice p n cp).ownBlock->K (A.put o.dst (.slice a' (n+xs.length) cap')) w'):if Region.wanted o (yielded ops A.tmps)=true then Oper.wp prog o A W K Q else E:=by
 have hw:Region.wanted o (yielded ops A.tmps)=true:=by simp[Region.wanted,hgd]
 rw[aN hw];obtain ⟨a',cap',w',hrun,r1,r2,r3⟩:=JU o.type hbuf ax cx xs hR hlen hb;exact Lib.wp_append_run _ sl x 29 29 ho _ _ hs hx _ _ hrun (h a' cap' w' r1 r2)
theorem zZ {W W':World} {ax:Option Addr} {xs:List Int} {r:Option Nat} (h:aK W ax xs) (hg:W.grownBy W' r) (hne:∀ p,ax=some p->r≠some p.block):aK W' ax xs:=by
 rcases h with h | ⟨b,off,rfl,hlt,hc⟩;·exact Or.inl h
 have hb:W'.heap[b]? = W.heap[b]?:=hg.block b hlt (fun q=>hne _ rfl q.symm);exact Or.inr ⟨b,off,rfl,cv hlt hg.size,fun j hj=>(mv (a:=⟨b,off+j,none⟩) hb).trans (hc j hj)⟩
theorem adX {base base' n c:Nat} {a:Option Addr} {w:World} {zs:List Int} (h:bH base w a n c zs) (hb:base'<=base):bH base' w a n c zs:=by
 refine ⟨h.1,h.2.1,?_⟩;rcases h.2.2 with h0 | ⟨g,cap,cur,hv,hg,r⟩;·exact Or.inl h0
 exact Or.inr ⟨g,cap,cur,hv,br hb hg,r⟩
def jx (zs:List Int) (x:Int):List Int:=zs.takeWhile (fun z=>decide (z<x))++x :: zs.dropWhile (fun z=>decide (z<x))
theorem adY {zs:List Int} {x:Int} {k:Nat} (hk:k<=zs.length) (h1:∀ j,j<k->zs.getD j 0<x) (h2:k<zs.length->¬ zs.getD k 0<x):jx zs x=zs.take k++x :: zs.drop k:=by
 induction zs generalizing k with
 | nil=>cases k <;> rfl
 | cons z zs ih=>
  cases k with
  | zero=>
   have h:=h2 (by simp);have h':¬ z<x:=by simpa using h
   simp[jx,Ou,Ov,h']
  | succ k=>
   have h:=h1 0 (by omega);have h':z<x:=by simpa using h
   have hi:=ih (k:=k) (by simpa using hk) (fun j hj=>by simpa using h1 (j+1) (by omega)) (fun hl=>by simpa using h2 (by simpa using hl));unfold jx at hi ⊢;simp only[Ou,Ov,bK h',if_true,qJ,List.take_succ_cons,List.drop_succ_cons];rw[hi]
theorem RF (zs:List Int) (x:Int):(jx zs x).Perm (x :: zs):=by unfold jx;refine (Y4).trans ?_;rw[List.takeWhile_append_dropWhile]
theorem adZ {zs:List Int} (x:Int) (h:zs.Pairwise (·<=·)):(jx zs x).Pairwise (·<=·):=by
 induction zs with
 | nil=>simp[jx]
 | cons z zs ih=>
  have hz:=Iu.1 h;by_cases hx:z<x
  ·have:jx (z :: zs) x=z :: jx zs x:=by simp[jx,Ou,Ov,hx]
   rw[this,Iu];refine ⟨fun y hy=>?_,ih hz.2⟩;rcases jC.1 ((RF zs x).mem_iff.1 hy) with rfl | hm;·omega
   exact hz.1 y hm
  ·have:jx (z :: zs) x=x :: z :: zs:=by simp[jx,Ou,Ov,hx]
   rw[this,Iu];refine ⟨fun y hy=>?_,h⟩;rcases jC.1 hy with rfl | hm;·omega
   have:=hz.1 y hm;omega
theorem ad0 {a:Option Addr} {c n m:Nat} (h:n=m):Ending.returned (.slice a n c)=.returned (.slice a m c):=by rw[h]
theorem ad1 {W:World} {g off k:Nat} {zs:List Int} (h:aK W (some ⟨g,off,none⟩) zs) (hk:k<=zs.length):aK W (some ⟨g,off+k,none⟩) (zs.drop k):=by
 rcases h with h | ⟨b,o,e,hlt,hc⟩
 ·subst h;exact Or.inl (by simp)
 cases e;refine Or.inr ⟨g,off+k,rfl,hlt,fun j hj=>?_⟩;rw[kE] at hj;have:=hc (k+j) (by omega);rw[show off+k+j=off+(k+j) by omega,this,fq _ _ (by omega),fq _ _ (by rw[kE];omega),List.getElem_drop]
theorem ad2 {W:World} {g off k:Nat} {zs:List Int} (h:aK W (some ⟨g,off,none⟩) zs) (hk:k<=zs.length):aK W (some ⟨g,off,none⟩) (zs.take k):=by
 rcases h with h | ⟨b,o,e,hlt,hc⟩
 ·subst h;exact Or.inl (by simp)
 cases e;refine Or.inr ⟨g,off,rfl,hlt,fun j hj=>?_⟩;rw[jk] at hj;rw[hc j (by omega),fq _ _ (by omega),fq _ _ (by rw[jk];omega),DQ]
theorem ad3 (g off c:Nat) (zs:List Int) (x:Int) (w:World) (hn:zs.length<=1048576) (hc:zs.length<=c) (hR:aK w (some ⟨g,off,none⟩) zs):Calls prog 130 #[.slice (some ⟨g,off,none⟩) zs.length c,aa x] w fun e w'=>∃ a' c',e=.returned (.slice a' (zs.length+1) c')/\bH w.heap.size w' a' (zs.length+1) c' (jx zs x)/\ah w w':=by
 go_enter func130,ntmps130;go_wp2;go_loop [5] (fun i=>∃ k:Nat,k<=zs.length/\(∀ j,j<k->zs.getD j 0<x)/\i=aa k) (fun i=>zs.length-(intOf i).toNat)
 case atStart=>exact ⟨0,bh _,fun j hj=>absurd hj (by omega),rfl⟩
 case round=>
 obtain ⟨k,hk,hless,rfl⟩:=hrel;have hgo:(k<zs.length/\zs.getD k 0<x)\/((k<zs.length->¬ zs.getD k 0<x)):=by
  by_cases h1:k<zs.length
  ·by_cases h2:zs.getD k 0<x;·exact Or.inl ⟨h1,h2⟩
   exact Or.inr fun _=>h2
  exact Or.inr fun h=>absurd h h1
 rcases hgo with ⟨hlt,x2⟩ | hend
 ·obtain ⟨b,of2,hab,_,hcl⟩:=hR.get hlt;cases hab;have x1:=hcl k hlt;have HL:Hid (∀ j,j<k+1->zs.getD j 0<x):=fun j hj=>by
   by_cases h:j=k;·subst h;exact x2
   exact hless j (by omega)
  obtain ⟨z,ez⟩:∃ z,zs.getD k 0=z:=⟨_,rfl⟩;rw[ez] at x1 x2;have e1:(0:Int)<=(k:Int):=by omega
  have e2:(k:Int)<(zs.length:Int):=by omega
  clear ez hcl hR hless;go_wp2;go_round;case rel=>exact ⟨k+1,by omega,HL.out,by go_num⟩
  case measure=>simp[intOf];omega
 have HI:Hid (jx zs x=zs.take k++x :: zs.drop k):=adY hk hless hend;have e1:(0:Int)<=(k:Int):=by omega
 have e2:(k:Int)<=(c:Int):=by omega
 have e3:(k:Int)<=(zs.length:Int):=by omega
 have L0:ah w w.drew:=(aQ _ _).drew;have L1:=L0.alloc L0.size (.cells #[] 3);have L2:=L1.alloc L1.size (.cells #[aa x] 3);have M1:=L0.alloc L0.size (.cells #[aa x] 3);have L3:=M1.alloc M1.size (.cells #[] 3);have B1:=lP w.drew L0.size;have B2:=B1.alloc (.cells #[aa x] 3);have B3:=lP (w.drew.alloc (.cells #[aa x] 3)) M1.size;have X2:=vv (w.drew.alloc (.cells #[] 3)) x;have X3:=(vv w.drew x).alloc (.cells #[] 3);have hTr:=ad2 (k:=k) hR hk;have MN:=ad1 (k:=k) hR hk;have jM:(zs.take k).length=k:=by rw[jk];omega
 have hDl:(zs.drop k).length=zs.length-k:=kE;have hsum:k+(zs.length-k)=zs.length:=by omega
 have alz:(k=zs.length)\/(k<zs.length/\∃ z,ad w g (off+k) (aa z)/\decide (z<x)=false):=by
  by_cases h:k<zs.length
  ·right;obtain ⟨b,of2,hab,_,hcl⟩:=hR.get h;cases hab;exact ⟨h,_,hcl k h,by simpa using hend h⟩
  left;omega
 obtain ⟨T,hT⟩:∃ T,zs.take k=T:=⟨_,rfl⟩;obtain ⟨D,hD⟩:∃ D,zs.drop k=D:=⟨_,rfl⟩;rw[hT] at HI hTr jM;rw[hD] at HI MN hDl;clear hT hD hless hend hR;rcases alz with hkn | ⟨hkn,z,hz,hzx⟩
 ·subst hkn;obtain rfl:D=[]:=sn (by omega);have e9:decide ((zs.length:Int)<(zs.length:Int))=false:=by simp
  clear MN hDl hsum;by_cases hcn:c=zs.length
  ·subst c;clear hk hc;go_wp2;go_region_law (first
    | (refine lz rfl (.tmp 27) (.tmp 30) rfl f8 (some ⟨g,off,none⟩) (0) [] (by simp[Act.eval,Act.put,jM]) (by simp[Act.eval,Act.put,jM]) (Or.inl rfl) (by simp only[fv,gv];omega) l8.size ?_;intro a9 c9 w9 f9 g9;have l9:=l8.trans (jS f8 l8.size g9))
    | (refine lz rfl (.tmp 24) (.tmp 26) rfl f7 _ _ [x] (by simp[Act.eval,Act.put,jM]) (by simp[Act.eval,Act.put];rfl) x7 (by simp only[fv,gv];omega) l7.size ?_;intro a8 c8 w8 f8 g8;have l8:=l7.trans (jS f7 l7.size g8))
    | (refine lz rfl (.tmp 24) (.tmp 26) rfl (f7.alloc (.cells #[aa x] 3)) (some ⟨w7.heap.size,0,none⟩) 1 [x] (by simp[Act.eval,Act.put,jM]) (by simp[Act.eval,Act.put]) (vv w7 x) (by simp only[fv,gv];omega) (l7.alloc l7.size _).size ?_;intro a8 c8 w8 f8 g8;have l8:=(l7.alloc l7.size (.cells #[aa x] 3)).trans (jS (f7.alloc (.cells #[aa x] 3)) (l7.alloc l7.size (.cells #[aa x] 3)).size g8))
    | (refine lz rfl (.tmp 20) (.tmp 23) rfl B1 (some ⟨g,off,none⟩) zs.length T (by simp[Act.eval,Act.put]) (by simp[Act.eval,Act.put,jM]) (hTr.below L1) (by omega) L1.size ?_;intro a7 c7 w7 f7 g7;have l7:=L1.trans (jS B1 L1.size g7))
    | (refine lz rfl (.tmp 20) (.tmp 23) rfl B2 (some ⟨g,off,none⟩) zs.length T (by simp[Act.eval,Act.put]) (by simp[Act.eval,Act.put,jM]) (hTr.below L2) (by omega) L2.size ?_;intro a7 c7 w7 f7 g7;have l7:=L2.trans (jS B2 L2.size g7);have x7:=zZ X2 g7 (by rintro p ⟨⟩ h;simp[Value.ownBlock] at h))
    | (refine lz rfl (.tmp 20) (.tmp 23) rfl B3 (some ⟨g,off,none⟩) zs.length T (by simp[Act.eval,Act.put]) (by simp[Act.eval,Act.put,jM]) (hTr.below L3) (by omega) L3.size ?_;intro a7 c7 w7 f7 g7;have l7:=L3.trans (jS B3 L3.size g7);have x7:=zZ X3 g7 (by rintro p ⟨⟩ h;simp[Value.ownBlock] at h)))
   all_goals
    have f9:bH w.heap.size w9 a9 (zs.length+1) c9 (jx zs x):=by rw[HI.out];have hf:=f9;simp only[qE,so,qJ,qH] at hf;rw[show 0+T.length + [x].length+([]:List Int).length=zs.length+1 by simp only[fv,gv];omega] at hf;exact hf
    go_wp2;go_ret;exact ⟨a9,c9,by rfl,f9,l9⟩
  clear hk;go_wp2;go_region_law (first
   | (refine lz rfl (.tmp 27) (.tmp 30) rfl f8 (some ⟨g,off+zs.length,none⟩) (c-zs.length) [] (by simp[Act.eval,Act.put,jM]) (by simp[Act.eval,Act.put,jM]) (Or.inl rfl) (by simp only[fv,gv];omega) l8.size ?_;intro a9 c9 w9 f9 g9;have l9:=l8.trans (jS f8 l8.size g9))
   | (refine lz rfl (.tmp 24) (.tmp 26) rfl f7 _ _ [x] (by simp[Act.eval,Act.put,jM]) (by simp[Act.eval,Act.put];rfl) x7 (by simp only[fv,gv];omega) l7.size ?_;intro a8 c8 w8 f8 g8;have l8:=l7.trans (jS f7 l7.size g8))
   | (refine lz rfl (.tmp 24) (.tmp 26) rfl (f7.alloc (.cells #[aa x] 3)) (some ⟨w7.heap.size,0,none⟩) 1 [x] (by simp[Act.eval,Act.put,jM]) (by simp[Act.eval,Act.put]) (vv w7 x) (by simp only[fv,gv];omega) (l7.alloc l7.size _).size ?_;intro a8 c8 w8 f8 g8;have l8:=(l7.alloc l7.size (.cells #[aa x] 3)).trans (jS (f7.alloc (.cells #[aa x] 3)) (l7.alloc l7.size (.cells #[aa x] 3)).size g8))
   | (refine lz rfl (.tmp 20) (.tmp 23) rfl B1 (some ⟨g,off,none⟩) c T (by simp[Act.eval,Act.put]) (by simp[Act.eval,Act.put,jM]) (hTr.below L1) (by omega) L1.size ?_;intro a7 c7 w7 f7 g7;have l7:=L1.trans (jS B1 L1.size g7))
   | (refine lz rfl (.tmp 20) (.tmp 23) rfl B2 (some ⟨g,off,none⟩) c T (by simp[Act.eval,Act.put]) (by simp[Act.eval,Act.put,jM]) (hTr.below L2) (by omega) L2.size ?_;intro a7 c7 w7 f7 g7;have l7:=L2.trans (jS B2 L2.size g7);have x7:=zZ X2 g7 (by rintro p ⟨⟩ h;simp[Value.ownBlock] at h))
   | (refine lz rfl (.tmp 20) (.tmp 23) rfl B3 (some ⟨g,off,none⟩) c T (by simp[Act.eval,Act.put]) (by simp[Act.eval,Act.put,jM]) (hTr.below L3) (by omega) L3.size ?_;intro a7 c7 w7 f7 g7;have l7:=L3.trans (jS B3 L3.size g7);have x7:=zZ X3 g7 (by rintro p ⟨⟩ h;simp[Value.ownBlock] at h)))
  all_goals
   have f9:bH w.heap.size w9 a9 (zs.length+1) c9 (jx zs x):=by rw[HI.out];have hf:=f9;simp only[qE,so,qJ,qH] at hf;rw[show 0+T.length + [x].length+([]:List Int).length=zs.length+1 by simp only[fv,gv];omega] at hf;exact hf
   go_wp2;go_ret;exact ⟨a9,c9,by rfl,f9,l9⟩
 have e4:(k:Int)<(zs.length:Int):=by omega
 have hck:¬ c=k:=by omega
 go_wp2;go_region_law (first
  | (refine lz rfl (.tmp 27) (.tmp 30) rfl f8 (some ⟨g,off+k,none⟩) (c-k) D (by simp[Act.eval,Act.put,jM,hDl]) (by simp[Act.eval,Act.put,jM,hDl]) (MN.below l8) (by simp only[fv,gv];omega) l8.size ?_;intro a9 c9 w9 f9 g9;have l9:=l8.trans (jS f8 l8.size g9))
  | (refine lz rfl (.tmp 24) (.tmp 26) rfl f7 _ _ [x] (by simp[Act.eval,Act.put,jM,hDl]) (by simp[Act.eval,Act.put];rfl) x7 (by simp only[fv,gv];omega) l7.size ?_;intro a8 c8 w8 f8 g8;have l8:=l7.trans (jS f7 l7.size g8))
  | (refine lz rfl (.tmp 24) (.tmp 26) rfl (f7.alloc (.cells #[aa x] 3)) (some ⟨w7.heap.size,0,none⟩) 1 [x] (by simp[Act.eval,Act.put,jM,hDl]) (by simp[Act.eval,Act.put]) (vv w7 x) (by simp only[fv,gv];omega) (l7.alloc l7.size _).size ?_;intro a8 c8 w8 f8 g8;have l8:=(l7.alloc l7.size (.cells #[aa x] 3)).trans (jS (f7.alloc (.cells #[aa x] 3)) (l7.alloc l7.size (.cells #[aa x] 3)).size g8))
  | (refine lz rfl (.tmp 20) (.tmp 23) rfl B1 (some ⟨g,off,none⟩) c T (by simp[Act.eval,Act.put]) (by simp[Act.eval,Act.put,jM,hDl]) (hTr.below L1) (by omega) L1.size ?_;intro a7 c7 w7 f7 g7;have l7:=L1.trans (jS B1 L1.size g7))
  | (refine lz rfl (.tmp 20) (.tmp 23) rfl B2 (some ⟨g,off,none⟩) c T (by simp[Act.eval,Act.put]) (by simp[Act.eval,Act.put,jM,hDl]) (hTr.below L2) (by omega) L2.size ?_;intro a7 c7 w7 f7 g7;have l7:=L2.trans (jS B2 L2.size g7);have x7:=zZ X2 g7 (by rintro p ⟨⟩ h;simp[Value.ownBlock] at h))
  | (refine lz rfl (.tmp 20) (.tmp 23) rfl B3 (some ⟨g,off,none⟩) c T (by simp[Act.eval,Act.put]) (by simp[Act.eval,Act.put,jM,hDl]) (hTr.below L3) (by omega) L3.size ?_;intro a7 c7 w7 f7 g7;have l7:=L3.trans (jS B3 L3.size g7);have x7:=zZ X3 g7 (by rintro p ⟨⟩ h;simp[Value.ownBlock] at h)))
 all_goals
  have f9:bH w.heap.size w9 a9 (zs.length+1) c9 (jx zs x):=by rw[HI.out];have hf:=f9;simp only[qE,so,qJ,qH] at hf;rw[show 0+T.length + [x].length+D.length=zs.length+1 by simp only[fv,gv];omega] at hf;exact hf
  go_wp2;go_ret;exact ⟨a9,c9,by refine ad0 ?_;omega,f9,l9⟩
def dA (f:ai->List Int) (ds:List ai):Nat->List Int
 | 0=>[]
 | k+1=>dA f ds k++f (aJ ds k)
theorem Cw (f:ai->List Int) (ds:List ai) (m:Nat) (h:∀ d,(f d).length<=1+qT d):∀ k,(dA f ds k).length<=k+ja ds k
 | 0=>av _
 | k+1=>by have h1:=Cw f ds m h k;have h2:=h (aJ ds k);have h3:ja ds (k+1)=ja ds k+qT (aJ ds k):=rfl;rw[dA,de];omega
theorem RG {base n cap:Nat} {a:Option Addr} {w:World} {zs:List Int} {ops:Array Oper} {rest:List Oper} {o:Oper} {A:Act} {Q:Exit->Act->World->Prop} (hgd:o.guard=none) (sl x:Operand) (ho:o.op=.call { callee:=.builtin .append,args:=#[sl,x],argTypes:=#[29,29] }) (hbuf:bH base w a n cap zs) (z:Int) (hs:A.eval sl=.slice a n cap) {H:Nat} (hH:w.heap.size=H) (hx:A.eval x=aH H 1 1) (hlen:n+1<=1048576) (hb:base<=w.heap.size) (h:∀ g' cap' w',bH base w' (some ⟨g',0,none⟩) (n+1) cap' (zs ++ [z])->Below base w w'->wpList prog ops Q rest (A.put o.dst (aH g' (n+1) cap')) w'):wpList prog ops Q (o :: rest) A (w.alloc (.cells #[aa z] 3)):=by subst hH;exact BA hgd sl x ho hbuf z hs hx hlen hb h
def FT (Z:List Int) (w:World) (e:Ending) (w':World):Prop:=∃ a c,e=.returned (.slice a Z.length c)/\aR w.heap.size w' a Z/\Z.length<=c/\ah w w'
theorem RH (a:Option Addr) (c:Nat) (ds:List ai) (ss:Nat->aI) (w:World) (hn:ds.length<=1048576) (ht:ds.length+ja ds ds.length<=1048576) (hR:cN w a ds ss):Calls prog 46 #[.slice a ds.length c] w (FT (dA (fun d:ai=>[d.ino]) ds ds.length) w):=by
 have n1:=aA w (.cells #[] 3);have B1:=lP (base:=w.heap.size) w (av _);have HL:Hid (∀ W,ah w W->cN W a ds ss):=fun W hb=>hR.below hb;clear hR;go_enter func46,ntmps46;go_wp2;go_loopw [3,9] (fun p i w'=>∃ (j:Nat) (a':Option Addr) (cap':Nat),j<=ds.length/\i=aa j/\p=.slice a' (dA (fun d:ai=>[d.ino]) ds j).length cap'/\bH w.heap.size w' a' (dA (fun d:ai=>[d.ino]) ds j).length cap' (dA (fun d:ai=>[d.ino]) ds j)/\ah w w') (fun _ i _=>ds.length-(intOf i).toNat);case atStart=>exact ⟨0,_,_,bh _,rfl,rfl,B1,n1⟩
 case round=>
 obtain ⟨j,a3,c3,hj,rfl,rfl,hbf,hbel⟩:=hrel;clear B1 n1;by_cases hlt:j<ds.length
 ·have ls:=(HL.out _ hbel).sub j hlt;obtain ⟨b,off,hab,im,hc⟩:=(HL.out _ hbel).row.get hlt;subst hab;obtain ⟨y0,y1,y2,y3,y4,y5,y6,y7⟩:=hc j hlt;have hgl:=Cw (fun d:ai=>[d.ino]) ds 0 (fun d=>by unfold qT;first | (simp only[fv,gv];omega) | omega) (j+1);have htl:=Fv (ds:=ds) (k:=j+1) (n:=ds.length) (by omega);have hgs:dA (fun d:ai=>[d.ino]) ds (j+1)=dA (fun d:ai=>[d.ino]) ds j++(fun d:ai=>[d.ino]) (aJ ds j):=rfl;obtain ⟨d,ed⟩:∃ d,aJ ds j=d:=⟨_,rfl⟩;obtain ⟨s,es⟩:∃ s,ss j=s:=⟨_,rfl⟩;rw[ed,es] at ls;rw[ed] at y0 y1 y2 y3 y4 y5 y6 y7 hgs;rw[es] at y4 y6 y7;have oo:=iw List.length hgs;rw[de] at oo;simp only[fv,gv] at oo;obtain ⟨acc,ea⟩:∃ acc,dA (fun d:ai=>[d.ino]) ds j=acc:=⟨_,rfl⟩;rw[ea] at hbf hgs oo ⊢;have HS:Hid (dA (fun d:ai=>[d.ino]) ds (j+1)=acc ++ [d.ino]):=hgs;have hle:acc.length+1<=1048576:=by omega
  have e1:(0:Int)<=(j:Int):=by omega
  have e2:(j:Int)<(ds.length:Int):=by omega
  have hB:=hbel.size;have hal:=aA wr (.cells (dU d s) 31);have bx:=jP d s wr 31;have z0:=bx.c0;have z6:=bx.c6;have z7:=bx.c7;have hb1:=hbf.below hal;have lsA:=ls.below hal;have M1:=hbel.trans (hal.mono hB);have hB1:=br hB hal.size;clear ed es hc ls ea hgs hgl oo HL;go_wp2_with (at_builtin;refine RG rfl (.tmp 13) (.tmp 16) rfl hb1 d.ino (by rfl) (H:=wr.heap.size+1) (by simp) (by rfl) (by omega) hB1 ?_;intro g5 c5 w5 f5 l5);go_roundw;case rel=>exact ⟨j+1,some ⟨g5,0,none⟩,c5,by omega,by go_num,by rw[HS.out,de];rfl,by rw[HS.out,de];exact f5,M1.trans l5⟩
  case measure=>simp[intOf];omega
 obtain rfl:j=ds.length:=by omega
 clear HL;go_wp2;go_ret;exact ⟨a3,c3,rfl,hbf.own,hbf.fits,hbel⟩
theorem RI (a:Option Addr) (c:Nat) (ds:List ai) (ss:Nat->aI) (w:World) (hn:ds.length<=1048576) (ht:ds.length+ja ds ds.length<=1048576) (hR:cN w a ds ss):Calls prog 53 #[.slice a ds.length c] w (FT (dA (fun d:ai=>d.fr) ds ds.length) w):=by
 have n1:=aA w (.cells #[] 3);have B1:=lP (base:=w.heap.size) w (av _);have HL:Hid (∀ W,ah w W->cN W a ds ss):=fun W hb=>hR.below hb;clear hR;go_enter func53,ntmps53;go_wp2;go_loopw [3,9] (fun p i w'=>∃ (j:Nat) (a':Option Addr) (cap':Nat),j<=ds.length/\i=aa j/\p=.slice a' (dA (fun d:ai=>d.fr) ds j).length cap'/\bH w.heap.size w' a' (dA (fun d:ai=>d.fr) ds j).length cap' (dA (fun d:ai=>d.fr) ds j)/\ah w w') (fun _ i _=>ds.length-(intOf i).toNat);case atStart=>exact ⟨0,_,_,bh _,rfl,rfl,B1,n1⟩
 case round=>
 obtain ⟨j,a3,c3,hj,rfl,rfl,hbf,hbel⟩:=hrel;clear B1 n1;by_cases hlt:j<ds.length
 ·have ls:=(HL.out _ hbel).sub j hlt;obtain ⟨b,off,hab,im,hc⟩:=(HL.out _ hbel).row.get hlt;subst hab;obtain ⟨y0,y1,y2,y3,y4,y5,y6,y7⟩:=hc j hlt;have hgl:=Cw (fun d:ai=>d.fr) ds 0 (fun d=>by unfold qT;first | (simp only[fv,gv];omega) | omega) (j+1);have htl:=Fv (ds:=ds) (k:=j+1) (n:=ds.length) (by omega);have hgs:dA (fun d:ai=>d.fr) ds (j+1)=dA (fun d:ai=>d.fr) ds j++(fun d:ai=>d.fr) (aJ ds j):=rfl;obtain ⟨d,ed⟩:∃ d,aJ ds j=d:=⟨_,rfl⟩;obtain ⟨s,es⟩:∃ s,ss j=s:=⟨_,rfl⟩;rw[ed,es] at ls;rw[ed] at y0 y1 y2 y3 y4 y5 y6 y7 hgs;rw[es] at y4 y6 y7;have oo:=iw List.length hgs;rw[de] at oo;simp only[fv,gv] at oo;obtain ⟨acc,ea⟩:∃ acc,dA (fun d:ai=>d.fr) ds j=acc:=⟨_,rfl⟩;rw[ea] at hbf hgs oo ⊢;have HS:Hid (dA (fun d:ai=>d.fr) ds (j+1)=acc++d.fr):=hgs;have hle:acc.length+(d.fr).length<=1048576:=by omega
  have e1:(0:Int)<=(j:Int):=by omega
  have e2:(j:Int)<(ds.length:Int):=by omega
  have hB:=hbel.size;have hal:=aA wr (.cells (dU d s) 31);have bx:=jP d s wr 31;have z0:=bx.c0;have z6:=bx.c6;have z7:=bx.c7;have hb1:=hbf.below hal;have lsA:=ls.below hal;have M1:=hbel.trans (hal.mono hB);have hB1:=br hB hal.size;clear ed es hc ls ea hgs hgl oo HL;go_wp2_with (at_builtin;refine tQ rfl (.tmp 13) (.tmp 15) rfl hb1 s.a3 s.c3 d.fr (by rfl) (by rfl) lsA.r3 (by omega) hB1 ?_;intro a5 c5 w5 f5 l5);go_roundw;case rel=>exact ⟨j+1,a5,c5,by omega,by go_num,by rw[HS.out,de],by rw[HS.out,de];exact f5,M1.trans l5⟩
  case measure=>simp[intOf];omega
 obtain rfl:j=ds.length:=by omega
 clear HL;go_wp2;go_ret;exact ⟨a3,c3,rfl,hbf.own,hbf.fits,hbel⟩
theorem RJ (a:Option Addr) (c:Nat) (ds:List ai) (ss:Nat->aI) (w:World) (hn:ds.length<=1048576) (ht:ds.length+ja ds ds.length<=1048576) (hR:cN w a ds ss):Calls prog 54 #[.slice a ds.length c] w (FT (dA (fun d:ai=>d.po) ds ds.length) w):=by
 have n1:=aA w (.cells #[] 3);have B1:=lP (base:=w.heap.size) w (av _);have HL:Hid (∀ W,ah w W->cN W a ds ss):=fun W hb=>hR.below hb;clear hR;go_enter func54,ntmps54;go_wp2;go_loopw [3,9] (fun p i w'=>∃ (j:Nat) (a':Option Addr) (cap':Nat),j<=ds.length/\i=aa j/\p=.slice a' (dA (fun d:ai=>d.po) ds j).length cap'/\bH w.heap.size w' a' (dA (fun d:ai=>d.po) ds j).length cap' (dA (fun d:ai=>d.po) ds j)/\ah w w') (fun _ i _=>ds.length-(intOf i).toNat);case atStart=>exact ⟨0,_,_,bh _,rfl,rfl,B1,n1⟩
 case round=>
 obtain ⟨j,a3,c3,hj,rfl,rfl,hbf,hbel⟩:=hrel;clear B1 n1;by_cases hlt:j<ds.length
 ·have ls:=(HL.out _ hbel).sub j hlt;obtain ⟨b,off,hab,im,hc⟩:=(HL.out _ hbel).row.get hlt;subst hab;obtain ⟨y0,y1,y2,y3,y4,y5,y6,y7⟩:=hc j hlt;have hgl:=Cw (fun d:ai=>d.po) ds 0 (fun d=>by unfold qT;first | (simp only[fv,gv];omega) | omega) (j+1);have htl:=Fv (ds:=ds) (k:=j+1) (n:=ds.length) (by omega);have hgs:dA (fun d:ai=>d.po) ds (j+1)=dA (fun d:ai=>d.po) ds j++(fun d:ai=>d.po) (aJ ds j):=rfl;obtain ⟨d,ed⟩:∃ d,aJ ds j=d:=⟨_,rfl⟩;obtain ⟨s,es⟩:∃ s,ss j=s:=⟨_,rfl⟩;rw[ed,es] at ls;rw[ed] at y0 y1 y2 y3 y4 y5 y6 y7 hgs;rw[es] at y4 y6 y7;have oo:=iw List.length hgs;rw[de] at oo;simp only[fv,gv] at oo;obtain ⟨acc,ea⟩:∃ acc,dA (fun d:ai=>d.po) ds j=acc:=⟨_,rfl⟩;rw[ea] at hbf hgs oo ⊢;have HS:Hid (dA (fun d:ai=>d.po) ds (j+1)=acc++d.po):=hgs;have hle:acc.length+(d.po).length<=1048576:=by omega
  have e1:(0:Int)<=(j:Int):=by omega
  have e2:(j:Int)<(ds.length:Int):=by omega
  have hB:=hbel.size;have hal:=aA wr (.cells (dU d s) 31);have bx:=jP d s wr 31;have z0:=bx.c0;have z6:=bx.c6;have z7:=bx.c7;have hb1:=hbf.below hal;have lsA:=ls.below hal;have M1:=hbel.trans (hal.mono hB);have hB1:=br hB hal.size;clear ed es hc ls ea hgs hgl oo HL;go_wp2_with (at_builtin;refine tQ rfl (.tmp 13) (.tmp 15) rfl hb1 s.a2 s.c2 d.po (by rfl) (by rfl) lsA.r2 (by omega) hB1 ?_;intro a5 c5 w5 f5 l5);go_roundw;case rel=>exact ⟨j+1,a5,c5,by omega,by go_num,by rw[HS.out,de],by rw[HS.out,de];exact f5,M1.trans l5⟩
  case measure=>simp[intOf];omega
 obtain rfl:j=ds.length:=by omega
 clear HL;go_wp2;go_ret;exact ⟨a3,c3,rfl,hbf.own,hbf.fits,hbel⟩
theorem RK (a1 a2:Option Addr) (c1 c2:Nat) (zs al:List Int) (w:World) (h1:zs.length<=281474976710656) (h2:al.length<=281474976710656) (R1:aK w a1 zs) (R2:aK w a2 al):Calls prog 97 #[.slice a1 zs.length c1,.slice a2 al.length c2] w (el (.bool (qR al zs)) w):=by
 have hH:Hid (∀ x,_):=fun x=>pR a2 c2 al x w h2 R2;clear R2;go_enter func97,ntmps97;go_wp2;go_loop [9] (fun i=>∃ k:Nat,k<=zs.length/\bX (zt al zs) k=true/\i=aa k) (fun i=>zs.length-(intOf i).toNat)
 case atStart=>exact ⟨0,bh _,rfl,rfl⟩
 case round=>
 obtain ⟨k,hk,hok,rfl⟩:=hrel;by_cases hlt:k<zs.length
 ·obtain ⟨b,off,hab,_,hc⟩:=R1.get hlt;have x1:=hc k hlt;have hat:zt al zs k=!(bC al (zs.getD k 0)):=rfl;obtain ⟨z,ez⟩:∃ z,zs.getD k 0=z:=⟨_,rfl⟩;rw[ez] at x1 hat;rw[hab];have e1:(0:Int)<=(k:Int):=by omega
  have e2:(k:Int)<(zs.length:Int):=by omega
  cases h:bC al z with
  | false=>
   have HO:Hid (bX (zt al zs) (k+1)=true):=qQ hok (by rw[hat,h];rfl);clear hat hok ez hc;go_wp2_with (go_at_call 141;refine (hH.out _).mono ?_;rintro e w' ⟨rfl,rfl⟩);go_round;case rel=>exact ⟨k+1,by omega,HO.out,by go_num⟩
   case measure=>simp[intOf];omega
  | true=>
   have HR:Hid (qR al zs=false):=qP hlt (by rw[hat,h];rfl);clear hat hok ez hc;go_wp2_with (go_at_call 141;refine (hH.out _).mono ?_;rintro e w' ⟨rfl,rfl⟩);go_ret;exact ⟨cr HR.out.symm,rfl⟩
 obtain rfl:k=zs.length:=by omega
 have HR:Hid (qR al zs=true):=hok;clear hok R1;go_wp2;go_ret;exact ⟨cr HR.out.symm,rfl⟩
def JW (zs:List Int) (i:Nat):Bool:=!(bC (zs.take i) (zs.getD i 0))
def gV (zs:List Int):Bool:=bX (JW zs) zs.length
theorem ad4 (zs:List Int):gV zs=true ↔ zs.Nodup:=by
 unfold gV;rw[kH];constructor
 ·intro h;rw[List.Nodup,uV];intro i j hi hj hij e;have hh:=h j hj;have h2:bC (zs.take j) (zs.getD j 0)=false:=by simpa [JW] using hh
  have h3:=IH (zs:=zs) (k:=i) (n:=j) hij (by omega);rw[fq _ _ hi,e,<- fq _ _ hj] at h3;rw[h3] at h2;cases h2
 intro h i hi;rw[List.Nodup,uV] at h;cases hb:bC (zs.take i) (zs.getD i 0) with
 | false=>rw[JW,hb];rfl
 | true=>
  have hm:=Jd.1 hb;obtain ⟨j,hj,e⟩:=yQ.1 hm;have hj':j<i:=by simp at hj;omega
  rw[DQ,fq _ _ hi] at e;exact absurd e (h j i (by omega) hi hj')
theorem ad5 (c:Nat) (w:World):Calls prog 98 #[.slice none 0 c] w (aV (.tuple #[]) w):=by go_enter func98,ntmps98;go_wp2;refine wp_loop_rounds 1 ?_;rw[rounds_succ];go_wp2;refine wp_loop_rounds 1 ?_;rw[rounds_succ];go_wp2;refine mu (v:=.tuple #[]) (by simp[results,results98,go_sem]) rfl ?_;exact ⟨rfl,aQ _ _⟩
theorem RM (zs:List Int):ff (gl zs)=gV zs:=by
 have h:ff (gl zs)=true ↔ gV zs=true:=by
  rw[PB,ad4,<- (JA zs).nodup_iff];constructor
  ·intro h;exact h.imp fun h e=>by omega
  intro h;have hs:=QD zs;rw[uV] at hs ⊢;rw[List.Nodup,uV] at h;intro i j hi hj hij;have h1:=hs i j hi hj hij;have h2:=h i j hi hj hij;omega
 cases h1:ff (gl zs) <;> cases h2:gV zs <;> simp_all
theorem ad6 {base n c:Nat} {a:Option Addr} {zs:List Int} (W:World) (h:bH base W a n c zs) (hb:base<=W.heap.size) (hn:zs.length<=1000):Calls prog 98 #[.slice a zs.length c] W fun e w'=>e=.returned (.tuple #[])/\aK w' a (gl zs)/\Below base W w':=by
 obtain rfl:=h.1;cases a with
 | none=>
  have h0:zs=[]:=by
   rcases h.own with q | ⟨g,q,_⟩;·exact q
   cases q
  subst h0;exact (ad5 c W).mono fun e w' ⟨he,hw⟩=>⟨he,Or.inl (by simp[gl]),hw.mono hb⟩
 | some p=>
  rcases h.2.2 with ⟨q,_⟩ | ⟨g,c2,cur,hv,hg,hc,_⟩;·cases q
  ·simp at hv;obtain ⟨rfl,-⟩:=hv;have hlt:g<W.heap.size:=(nz.1 hc).1;have hk:az g (cR zs) W:=by
    rcases h.own with h0 | ⟨g',e,_,hk'⟩
    ·rw[h0];exact ⟨fun j hj=>by simp at hj,fun j hj=>by simp at hj,hlt⟩
    cases e;exact hk'
   exact (Tryz.slices_Sort_int g 0 c zs W (Fk hk) hlt (by omega)).mono fun e w' ⟨he,m,os,hw⟩=>⟨he,by
    subst hw;exact wU (QB hk (zM _)),by
    subst hw;exact QC hg hb⟩
theorem RN (a:Option Addr) (c:Nat) (zs:List Int) (w:World) (hn:zs.length<=1000) (hR:aK w a zs):Calls prog 51 #[.slice a zs.length c] w (aV (.bool (gV zs)) w):=by
 have HA:Hid (ff (gl zs)=gV zs):=RM zs;have hcl:Hid (∀ W,aK W a zs->_):=fun W h=>PX a c zs W hn h;have hso:Hid (∀ W a' c',bH w.heap.size W a' zs.length c' zs->w.heap.size<=W.heap.size->Calls prog 98 #[.slice a' zs.length c'] W fun e w'=>e=.returned (.tuple #[])/\aK w' a' (gl zs)/\Below w.heap.size W w'):=fun W a' c' h1 h2=>ad6 W h1 h2 hn;have has:Hid (∀ W a' c',aK W a' (gl zs)->Calls prog 48 #[.slice a' zs.length c'] W fun e w'=>e=.returned (.bool (gV zs))/\∃ n,w'=W.drewN n):=fun W a' c' h=>by have:=BG a' c' (gl zs) W (by rw[zM];omega) h;rwa [zM,RM] at this
 go_enter func51,ntmps51;go_wp2_with (first
  | (go_at_call 93;refine (hcl.out _ hR).mono ?_;rintro e w1 ⟨a1,c1,rfl,f1,b1⟩)
  | (go_at_call 98;refine (hso.out _ _ _ f1 b1.size).mono ?_;rintro e w2 ⟨rfl,r2,b2⟩)
  | (go_at_call 48;refine (has.out _ _ _ r2).mono ?_;rintro e w3 ⟨rfl,m3,rfl⟩))
 go_ret;exact ⟨rfl,gy (b1.trans b2) m3⟩
section
def tV (m:ByteArray) (us fs:List Int) (d:ai):Bool:=bZ d && (decide (aj m d.ino=d.rc) && (decide (di m d.pg d.pg.length=d.aU) && (qR fs d.fr && qR us d.po)))
structure xx (w:World) (m:ByteArray) (a1 a2:Option Addr) (c1 c2:Nat) (us fs:List Int) (d:ai) (s:aI) (V L:Nat) (W:World):Prop where
 vb:az V [.string m,.slice a1 us.length c1,.slice a2 fs.length c2] W
 lb:fw L d s W
 au:ah w W
variable {w W W' : World} {m : ByteArray} {a1 a2 : Option Addr} {c1 c2 : Nat} {us fs : List Int} {d : ai} {s : aI} {V L : Nat}
theorem xx.below (h:xx w m a1 a2 c1 c2 us fs d s V L W) (hb:ah W W'):xx w m a1 a2 c1 c2 us fs d s V L W':=⟨h.vb.below hb,h.lb.below hb,h.au.trans (hb.mono h.au.size)⟩
theorem xx.cells (h:xx w m a1 a2 c1 c2 us fs d s V L W):ad W V 0 (.string m)/\ad W V 1 (.slice a1 us.length c1)/\ad W V 2 (.slice a2 fs.length c2)/\ad W L 0 (aa d.ino)/\ad W L 1 (aa d.cl)/\ad W L 2 (aa d.un)/\ad W L 3 (.string d.rc)/\ad W L 4 (.slice s.a1 d.pg.length s.c1)/\ad W L 5 (.string d.aU)/\ad W L 6 (.slice s.a2 d.po.length s.c2)/\ad W L 7 (.slice s.a3 d.fr.length s.c3):=⟨h.vb.c0,h.vb.c1,h.vb.c2,h.lb.c0,h.lb.c1,h.lb.c2,h.lb.c3,h.lb.c4,h.lb.c5,h.lb.c6,h.lb.c7⟩
theorem ad7 (w:World) (m:ByteArray) (a1 a2:Option Addr) (c1 c2:Nat) (us fs:List Int) (d:ai) (s:aI):xx w m a1 a2 c1 c2 us fs d s w.heap.size (w.heap.size+1) ((w.alloc (.cells #[.string m,.slice a1 us.length c1,.slice a2 fs.length c2] 102)).alloc (.cells (dU d s) 31)):=by
 have e:(w.alloc (.cells #[.string m,.slice a1 us.length c1,.slice a2 fs.length c2] 102)).heap.size=w.heap.size+1:=by simp
 have n1:=aA w (.cells #[.string m,.slice a1 us.length c1,.slice a2 fs.length c2] 102);have n2:=aA (w.alloc (.cells #[.string m,.slice a1 us.length c1,.slice a2 fs.length c2] 102)) (.cells (dU d s) 31);have l:=jP d s (w.alloc (.cells #[.string m,.slice a1 us.length c1,.slice a2 fs.length c2] 102)) 31;rw[e] at l;exact ⟨(aY [.string m,.slice a1 us.length c1,.slice a2 fs.length c2] w 102).below n2,l,n1.trans (n2.mono n1.size)⟩
theorem RO {x y:ByteArray} (h:¬ x=y):¬ x.toList=y.toList:=by intro h';rw[D9,D9] at h';exact h (kD (sk.1 h'))
theorem RP {x y:ByteArray} (h:x=y):x.toList=y.toList:=by rw[h]
theorem ad8 {xs ys:List Int} (h:eE (xs++ys)=true):eE xs=true:=by rw[nM] at h ⊢;exact ⟨fun z hz=>h.1 z (mr.2 (Or.inl hz)),(YV.1 h.2).1⟩
theorem ad9 (m:ByteArray) (a1 a2:Option Addr) (c1 c2:Nat) (us fs:List Int) (d:ai) (s:aI) (w:World) (hm:m.size=768) (hF:iV d s) (hpo:d.po.length<=1048576) (hfr:d.fr.length<=1048576) (qv:us.length<=1048576) (hfs:fs.length<=1048576) (hR:cJ w d s) (r1:aK w a1 us) (r2:aK w a2 fs):Calls prog 50 #[.agg #[.string m,.slice a1 us.length c1,.slice a2 fs.length c2],bL d s] w (aV (.bool (tV m us fs d)) w):=by
 have h0:=ad7 w m a1 a2 c1 c2 us fs d s;have np:Hid (∀ W,ah w W->Calls prog 40 #[bL d s] W (aV (.bool (bZ d)) W)):=fun W hb=>BK d s W hF hpo hfr (hR.below hb);have Mp:Hid (∀ W,Calls prog 16 #[.string m,aa (aZ d.ino),aa 16] W (aV (.string (aj m d.ino)) W)):=fun W=>lM m (aZ d.ino) 16 W (by omega);have rM:Hid (bZ d=true->∀ W,ah w W->Calls prog 38 #[.string m,.slice s.a1 d.pg.length s.c1] W (aV (.string (di m d.pg d.pg.length)) W)):=fun hok W hb=>by obtain ⟨hI,-,hZ,-,-,-,rL,-⟩:=jt hok;exact Jl m s.a1 s.c1 d.pg W hm (ad8 (jt hok).2.2.2.2.2.2.2.2.2.1) rL (hR.below hb).r1
 have uH:Hid (∀ W,ah w W->Calls prog 97 #[.slice s.a3 d.fr.length s.c3,.slice a2 fs.length c2] W (el (.bool (qR fs d.fr)) W)):=fun W hb=>RK s.a3 a2 s.c3 c2 d.fr fs W (by omega) (by omega) (hR.below hb).r3 (r2.below hb);have yA:Hid (∀ W,ah w W->Calls prog 97 #[.slice s.a2 d.po.length s.c2,.slice a1 us.length c1] W (el (.bool (qR us d.po)) W)):=fun W hb=>RK s.a2 a1 s.c2 c1 d.po us W (by omega) (by omega) (hR.below hb).r2 (r1.below hb);obtain ⟨W2,hW2⟩:∃ W2,(w.alloc (.cells #[.string m,.slice a1 us.length c1,.slice a2 fs.length c2] 102)).alloc (.cells (dU d s) 31)=W2:=⟨_,rfl⟩;obtain ⟨V,hV⟩:∃ V,w.heap.size=V:=⟨_,rfl⟩;obtain ⟨L,hL⟩:∃ L,w.heap.size+1=L:=⟨_,rfl⟩;have h1:xx w m a1 a2 c1 c2 us fs d s V L W2.drew:=by rw[<- hV,<- hL,<- hW2];exact h0.below ((aQ _ _).drew)
 have hsz:(w.alloc (.cells #[.string m,.slice a1 us.length c1,.slice a2 fs.length c2] 102)).heap.size=L:=by rw[<- hL];simp
 clear hR r1 r2 hF h0;unfold tV;cases hok:bZ d with
 | false=>
  rw[hok] at np;clear hok rM;go_enter func50,ntmps50;go_wp2;have s1:=h1.cells;clear hsz hW2;refine fX (S:=fun W=>ad W V 0 (.string m)/\ad W V 1 (.slice a1 us.length c1)/\ad W V 2 (.slice a2 fs.length c2)/\ad W L 0 (aa d.ino)/\ad W L 1 (aa d.cl)/\ad W L 2 (aa d.un)/\ad W L 3 (.string d.rc)/\ad W L 4 (.slice s.a1 d.pg.length s.c1)/\ad W L 5 (.string d.aU)/\ad W L 6 (.slice s.a2 d.po.length s.c2)/\ad W L 7 (.slice s.a3 d.fr.length s.c3)) (by kernel_rfl) ?_;refine aS 0 (bL d s) s1 ?_;refine gQ (i:=1) (by kernel_rfl) rfl (by rfl) (.tmp 5) _ rfl (bL d s) (by rfl) (bo func40 (by kernel_rfl) rfl) ((np.out _ h1.au).mono ?_);rintro e w3 ⟨rfl,b3⟩;have h3:=h1.below b3;have s3:=h3.cells;refine ⟨_,rfl,s3,?_⟩;simp only[ar,Act.put,Nat.reduceAdd];refine aT 2 (.bool true) s3 ?_;refine aT 3 (.bool true) s3 ?_;refine bT 4 s3 ?_;refine bT 5 s3 ?_;refine bT 6 s3 ?_;refine bT 7 s3 ?_;refine bT 8 s3 ?_;refine bT 9 s3 ?_;refine bT 10 s3 ?_;refine bT 11 s3 ?_;refine bT 12 s3 ?_;refine aT 13 (.bool true) s3 ?_;refine aT 14 (.bool true) s3 ?_;refine bT 15 s3 ?_;refine bT 16 s3 ?_;refine bT 17 s3 ?_;refine bT 18 s3 ?_;refine bT 19 s3 ?_;refine bT 20 s3 ?_;refine bT 21 s3 ?_;refine bT 22 s3 ?_;refine aT 23 (.bool true) s3 ?_;refine ek (by kernel_rfl) ?_ _;go_wp2;go_ret;exact ⟨rfl,h3.au⟩
 | true=>
  replace rM:Hid (∀ W,ah w W->Calls prog 38 #[.string m,.slice s.a1 d.pg.length s.c1] W (aV (.string (di m d.pg d.pg.length)) W)):=rM.out hok;rw[hok] at np;clear hok;by_cases hrc:aj m d.ino=d.rc;rotate_left
  ·have e1:=RO hrc;rw[bA hrc];clear hrc;go_enter func50,ntmps50;go_wp2;have s1:=h1.cells;clear hsz hW2;refine fX (S:=fun W=>ad W V 0 (.string m)/\ad W V 1 (.slice a1 us.length c1)/\ad W V 2 (.slice a2 fs.length c2)/\ad W L 0 (aa d.ino)/\ad W L 1 (aa d.cl)/\ad W L 2 (aa d.un)/\ad W L 3 (.string d.rc)/\ad W L 4 (.slice s.a1 d.pg.length s.c1)/\ad W L 5 (.string d.aU)/\ad W L 6 (.slice s.a2 d.po.length s.c2)/\ad W L 7 (.slice s.a3 d.fr.length s.c3)) (by kernel_rfl) ?_;refine aS 0 (bL d s) s1 ?_;refine gQ (i:=1) (by kernel_rfl) rfl (by rfl) (.tmp 5) _ rfl (bL d s) (by rfl) (bo func40 (by kernel_rfl) rfl) ((np.out _ h1.au).mono ?_);rintro e w3 ⟨rfl,b3⟩;have h3:=h1.below b3;have s3:=h3.cells;refine ⟨_,rfl,s3,?_⟩;simp only[ar,Act.put,Nat.reduceAdd];refine aT 2 (.bool false) s3 ?_;refine aT 3 (.bool false) s3 ?_;refine aS 4 (ao V 0) s3 ?_;refine aS 5 (.string m) s3 ?_;refine aS 6 (ao L 0) s3 ?_;refine aS 7 (aa d.ino) s3 ?_;refine aS 10 (ao L 3) s3 ?_;refine aS 11 (.string d.rc) s3 ?_;refine gQ (i:=8) (by kernel_rfl) rfl (by rfl) (.tmp 12) _ rfl (aa d.ino) (by rfl) (bo func17 (by kernel_rfl) rfl) ((gP d.ino _).mono ?_);rintro e w4 ⟨rfl,rfl⟩;refine ⟨_,rfl,s3,?_⟩;simp only[ar,Act.put,Nat.reduceAdd];refine ve (i:=9) (by kernel_rfl) rfl (by rfl) (.tmp 10) (.tmp 13) (.const (aa 16)) _ rfl (.string m) (aa (aZ d.ino)) (aa 16) (by rfl) (by rfl) (by rfl) (bo func16 (by kernel_rfl) rfl) ((Mp.out _).mono ?_);rintro e w5 ⟨rfl,b5⟩;have h5:=h3.below b5;have s5:=h5.cells;refine ⟨_,rfl,s5,?_⟩;simp only[ar,Act.put,Nat.reduceAdd];refine aS 12 (.bool true) s5 ?_;refine aT 13 (.bool true) s5 ?_;refine aT 14 (.bool true) s5 ?_;refine bT 15 s5 ?_;refine bT 16 s5 ?_;refine bT 17 s5 ?_;refine bT 18 s5 ?_;refine bT 19 s5 ?_;refine bT 20 s5 ?_;refine bT 21 s5 ?_;refine bT 22 s5 ?_;refine aT 23 (.bool true) s5 ?_;refine ek (by kernel_rfl) ?_ _;go_wp2;go_ret;exact ⟨rfl,h5.au⟩
  ·have e1:=RP hrc;rw[bK hrc];clear hrc;by_cases hsv:di m d.pg d.pg.length=d.aU;rotate_left
   ·have e2:=RO hsv;rw[bA hsv];clear hsv;go_enter func50,ntmps50;go_wp2;have s1:=h1.cells;clear hsz hW2;refine fX (S:=fun W=>ad W V 0 (.string m)/\ad W V 1 (.slice a1 us.length c1)/\ad W V 2 (.slice a2 fs.length c2)/\ad W L 0 (aa d.ino)/\ad W L 1 (aa d.cl)/\ad W L 2 (aa d.un)/\ad W L 3 (.string d.rc)/\ad W L 4 (.slice s.a1 d.pg.length s.c1)/\ad W L 5 (.string d.aU)/\ad W L 6 (.slice s.a2 d.po.length s.c2)/\ad W L 7 (.slice s.a3 d.fr.length s.c3)) (by kernel_rfl) ?_;refine aS 0 (bL d s) s1 ?_;refine gQ (i:=1) (by kernel_rfl) rfl (by rfl) (.tmp 5) _ rfl (bL d s) (by rfl) (bo func40 (by kernel_rfl) rfl) ((np.out _ h1.au).mono ?_);rintro e w3 ⟨rfl,b3⟩;have h3:=h1.below b3;have s3:=h3.cells;refine ⟨_,rfl,s3,?_⟩;simp only[ar,Act.put,Nat.reduceAdd];refine aT 2 (.bool false) s3 ?_;refine aT 3 (.bool false) s3 ?_;refine aS 4 (ao V 0) s3 ?_;refine aS 5 (.string m) s3 ?_;refine aS 6 (ao L 0) s3 ?_;refine aS 7 (aa d.ino) s3 ?_;refine aS 10 (ao L 3) s3 ?_;refine aS 11 (.string d.rc) s3 ?_;refine gQ (i:=8) (by kernel_rfl) rfl (by rfl) (.tmp 12) _ rfl (aa d.ino) (by rfl) (bo func17 (by kernel_rfl) rfl) ((gP d.ino _).mono ?_);rintro e w4 ⟨rfl,rfl⟩;refine ⟨_,rfl,s3,?_⟩;simp only[ar,Act.put,Nat.reduceAdd];refine ve (i:=9) (by kernel_rfl) rfl (by rfl) (.tmp 10) (.tmp 13) (.const (aa 16)) _ rfl (.string m) (aa (aZ d.ino)) (aa 16) (by rfl) (by rfl) (by rfl) (bo func16 (by kernel_rfl) rfl) ((Mp.out _).mono ?_);rintro e w5 ⟨rfl,b5⟩;have h5:=h3.below b5;have s5:=h5.cells;refine ⟨_,rfl,s5,?_⟩;simp only[ar,Act.put,Nat.reduceAdd];refine aS 12 (.bool false) s5 ?_;refine aT 13 (.bool false) s5 ?_;refine aT 14 (.bool false) s5 ?_;refine aS 15 (ao V 0) s5 ?_;refine aS 16 (.string m) s5 ?_;refine aS 17 (ao L 4) s5 ?_;refine aS 18 (.slice s.a1 d.pg.length s.c1) s5 ?_;refine aS 20 (ao L 5) s5 ?_;refine aS 21 (.string d.aU) s5 ?_;refine lg (i:=19) (by kernel_rfl) rfl (by rfl) (.tmp 21) (.tmp 23) _ rfl (.string m) (.slice s.a1 d.pg.length s.c1) (by rfl) (by rfl) (bo func38 (by kernel_rfl) rfl) ((rM.out _ h5.au).mono ?_);rintro e w6 ⟨rfl,b6⟩;have h6:=h5.below b6;have s6:=h6.cells;refine ⟨_,rfl,s6,?_⟩;simp only[ar,Act.put,Nat.reduceAdd];refine aS 22 (.bool true) s6 ?_;refine aT 23 (.bool true) s6 ?_
    refine ek (by kernel_rfl) ?_ _;go_wp2;go_ret;exact ⟨rfl,h6.au⟩
   have e2:=RP hsv;rw[bK hsv];clear hsv;cases hap:qR fs d.fr;all_goals
    rw[hap] at uH;go_enter func50,ntmps50;go_wp2;have s1:=h1.cells;clear hsz hW2;refine fX (S:=fun W=>ad W V 0 (.string m)/\ad W V 1 (.slice a1 us.length c1)/\ad W V 2 (.slice a2 fs.length c2)/\ad W L 0 (aa d.ino)/\ad W L 1 (aa d.cl)/\ad W L 2 (aa d.un)/\ad W L 3 (.string d.rc)/\ad W L 4 (.slice s.a1 d.pg.length s.c1)/\ad W L 5 (.string d.aU)/\ad W L 6 (.slice s.a2 d.po.length s.c2)/\ad W L 7 (.slice s.a3 d.fr.length s.c3)) (by kernel_rfl) ?_;refine aS 0 (bL d s) s1 ?_;refine gQ (i:=1) (by kernel_rfl) rfl (by rfl) (.tmp 5) _ rfl (bL d s) (by rfl) (bo func40 (by kernel_rfl) rfl) ((np.out _ h1.au).mono ?_);rintro e w3 ⟨rfl,b3⟩;have h3:=h1.below b3;have s3:=h3.cells;refine ⟨_,rfl,s3,?_⟩;simp only[ar,Act.put,Nat.reduceAdd];refine aT 2 (.bool false) s3 ?_;refine aT 3 (.bool false) s3 ?_;refine aS 4 (ao V 0) s3 ?_;refine aS 5 (.string m) s3 ?_;refine aS 6 (ao L 0) s3 ?_;refine aS 7 (aa d.ino) s3 ?_;refine aS 10 (ao L 3) s3 ?_;refine aS 11 (.string d.rc) s3 ?_;refine gQ (i:=8) (by kernel_rfl) rfl (by rfl) (.tmp 12) _ rfl (aa d.ino) (by rfl) (bo func17 (by kernel_rfl) rfl) ((gP d.ino _).mono ?_);rintro e w4 ⟨rfl,rfl⟩;refine ⟨_,rfl,s3,?_⟩;simp only[ar,Act.put,Nat.reduceAdd];refine ve (i:=9) (by kernel_rfl) rfl (by rfl) (.tmp 10) (.tmp 13) (.const (aa 16)) _ rfl (.string m) (aa (aZ d.ino)) (aa 16) (by rfl) (by rfl) (by rfl) (bo func16 (by kernel_rfl) rfl) ((Mp.out _).mono ?_);rintro e w5 ⟨rfl,b5⟩;have h5:=h3.below b5;have s5:=h5.cells;refine ⟨_,rfl,s5,?_⟩;simp only[ar,Act.put,Nat.reduceAdd];refine aS 12 (.bool false) s5 ?_;refine aT 13 (.bool false) s5 ?_;refine aT 14 (.bool false) s5 ?_;refine aS 15 (ao V 0) s5 ?_;refine aS 16 (.string m) s5 ?_;refine aS 17 (ao L 4) s5 ?_;refine aS 18 (.slice s.a1 d.pg.length s.c1) s5 ?_;refine aS 20 (ao L 5) s5 ?_;refine aS 21 (.string d.aU) s5 ?_;refine lg (i:=19) (by kernel_rfl) rfl (by rfl) (.tmp 21) (.tmp 23) _ rfl (.string m) (.slice s.a1 d.pg.length s.c1) (by rfl) (by rfl) (bo func38 (by kernel_rfl) rfl) ((rM.out _ h5.au).mono ?_);rintro e w6 ⟨rfl,b6⟩;have h6:=h5.below b6;have s6:=h6.cells;refine ⟨_,rfl,s6,?_⟩;simp only[ar,Act.put,Nat.reduceAdd];refine aS 22 (.bool false) s6 ?_;refine aT 23 (.bool false) s6 ?_;refine ek (by kernel_rfl) ?_ _;have y7:=h6.lb.c7
    have y6:=h6.lb.c6;have x1:=h6.vb.c1;have x2:=h6.vb.c2;go_wp2_with (first
     | (go_at_call 97;refine (uH.out _ h6.au).mono ?_;rintro e w' ⟨rfl,rfl⟩;clear uH)
     | (go_at_call 97;refine (yA.out _ h6.au).mono ?_;rintro e w' ⟨rfl,rfl⟩))
    go_ret;exact ⟨rfl,h6.au⟩
end
end Go.Proofs.YtgpfmgaidbjcpaaGreatDoor
