/- Joined texts. -/
import Derived.Test.YtgpfmgaidbjcpaaGreatDoorJhT
set_option linter.unusedVariables false
set_option linter.unusedSimpArgs false
set_option maxRecDepth 10000
set_option maxHeartbeats 16000000
namespace Go.Proofs.YtgpfmgaidbjcpaaGreatDoor
open ChangeShapes WideShapes ChangeAt RowKit
open Go.Proofs.Tryz
abbrev SV (d:ai) (s:aI):Obj:=.cells #[.int .i64 d.ino,.int .i64 d.cl,.int .i64 d.un,.string d.rc,.slice s.a1 d.pg.length s.c1,.string d.aU,.slice s.a2 d.po.length s.c2,.slice s.a3 d.fr.length s.c3] 31
structure xJ (bc bi bn:Nat) (cl i n:Int) (W:World):Prop where
 c:W.cell? ⟨bc,0,none⟩=some (.int .i64 cl)
 i:W.cell? ⟨bi,0,none⟩=some (.int .i64 i)
 n:W.cell? ⟨bn,0,none⟩=some (.int .i64 n)
 lc:bc<W.heap.size
 li:bi<W.heap.size
 ln:bn<W.heap.size
theorem xJ.below {bc bi bn:Nat} {cl i n:Int} {W W':World} (h:xJ bc bi bn cl i n W) (hb:Below W.heap.size W W'):xJ bc bi bn cl i n W':=⟨(hb.cell (p:=⟨bc,0,none⟩) h.lc).trans h.c,(hb.cell (p:=⟨bi,0,none⟩) h.li).trans h.i,(hb.cell (p:=⟨bn,0,none⟩) h.ln).trans h.n,cv h.lc hb.size,cv h.li hb.size,cv h.ln hb.size⟩
theorem afx (d:ai) (s:aI) (cl i n:Int) (bc bi bn:Nat) (w:World) (hc:xJ bc bi bn cl i n w) (hF:iV d s) (hpo:d.po.length<=1048576) (hfr:d.fr.length<=1048576) (hR:cJ w d s):Calls prog 214 #[bL d s,.pointer (some ⟨bc,0,none⟩),.pointer (some ⟨bi,0,none⟩),.pointer (some ⟨bn,0,none⟩)] w fun e w'=>e=.returned (.bool (mX cl i n d))/\Below w.heap.size w w':=by
 have bx:=jP d s w 31;have n0:=aA w (SV d s);have y0:=bx.c0;have y1:=bx.c1;have y2:=bx.c2;have y3:=bx.c3;have y4:=bx.c4;have y5:=bx.c5;have y6:=bx.c6;have y7:=bx.c7;have k0:=hc.below n0;have i0:=k0.c;have i1:=k0.i;have i2:=k0.n;have hw:=afw d s i n (w.alloc (SV d s)) hF hpo hfr (hR.below n0);clear k0 hc bx hF hR hpo hfr;by_cases h1:d.cl=cl
 ·have e:mX cl i n d=tX d i n:=by simp[mX,h1]
  rw[e];clear e;have h1':(d.cl == cl)=true:=by simpa using h1
  clear h1;generalize tX d i n=o at hw ⊢;go_enter func214,ntmps214;go_wp2_with (go_at_call 215;refine hw.mono ?_;rintro e w1 ⟨rfl,b1⟩);go_ret;exact ⟨rfl,n0.trans (b1.mono n0.size)⟩
 have e:mX cl i n d=false:=by simp[mX,h1]
 rw[e];have h1':(d.cl == cl)=false:=by simpa using h1
 clear e hw h1;go_enter func214,ntmps214;go_wp2;go_ret;exact ⟨rfl,n0⟩
def F8 (cl i n:Int) (ds:List ai) (x:Int):Prop:=(x = -1/\lB cl i n ds=false)\/(0<=x/\lB cl i n ds=true)
theorem afy (a:Option Addr) (c:Nat) (ds:List ai) (ss:Nat->aI) (cl i n:Int) (bc bi bn:Nat) (w:World) (hn:ds.length<=1048576) (hF:pY ds ss) (hR:cN w a ds ss) (hC:xJ bc bi bn cl i n w):Calls prog 101 #[.slice a ds.length c,.func (.func 214) #[] #[.pointer (some ⟨bc,0,none⟩),.pointer (some ⟨bi,0,none⟩),.pointer (some ⟨bn,0,none⟩)]] w fun e w'=>(∃ x,e=.returned (.int .i64 x)/\F8 cl i n ds x)/\Below w.heap.size w w':=by
 have HC:Hid (∀ W d s,Below w.heap.size w W->iV d s->d.po.length<=1048576->d.fr.length<=1048576->cJ W d s->_):=fun W d s hb f1 f2 f3 hl=>afx d s cl i n bc bi bn W (hC.below hb) f1 f2 f3 hl;have HR:Hid (∀ W,Below w.heap.size w W->cN W a ds ss):=fun W hb=>hR.below hb;clear hC hR;go_enter func101,ntmps101;go_wp2;go_loopw [8] (fun x w'=>∃ j:Nat,j<=ds.length/\x=.int .i64 j/\Hid (∀ y,y<j->mX cl i n (aJ ds y)=false)/\Below w.heap.size w w') (fun x _=>ds.length-(intOf x).toNat);case atStart=>exact ⟨0,bh _,rfl,fun x hx=>absurd hx (uW _),aQ _ _⟩
 case round=>
 obtain ⟨j,hj,rfl,HN,hbel⟩:=hrel;by_cases hlt:j<ds.length
 ·have hl:=HR.out _ hbel;obtain ⟨b,off,rfl,im,hc⟩:=hl.row.get hlt;obtain ⟨y0,y1,y2,y3,y4,y5,y6,y7⟩:=hc j hlt;have ls:=hl.sub j hlt;obtain ⟨f1,f2,f3⟩:=hF j hlt;have e1:(0:Int)<=(j:Int):=by omega
  have e2:(j:Int)<(ds.length:Int):=by omega
  have hB:=hbel.size;have HY:Hid (mX cl i n (aJ ds j)=true->F8 cl i n ds (j:Int)):=fun h=>Or.inr ⟨e1,aft hlt h⟩;have HM:Hid (mX cl i n (aJ ds j)=false->∀ y,y<j+1->mX cl i n (aJ ds y)=false):=fun h y hy=>by
   rcases Zj (Zk hy) with h1 | h1;·exact HN.out y h1
   rw[h1];exact h
  obtain ⟨d,ed⟩:∃ d,aJ ds j=d:=⟨_,rfl⟩;obtain ⟨s,es⟩:∃ s,ss j=s:=⟨_,rfl⟩;rw[ed,es] at ls f1;rw[ed] at y0 y1 y2 y3 y4 y5 y6 y7 HY HM f2 f3;rw[es] at y4 y6 y7;have hcl:=HC.out wr d s hbel f1 f2 f3 ls;clear ed es hc HR HN HC hl ls f1 f2 f3;cases hq:mX cl i n d with
  | true=>
   rw[hq] at hcl HY HM;have yH:Hid (F8 cl i n ds (j:Int)):=HY.out rfl;clear HY HM hq;go_wp2_with (go_at_call 214;refine hcl.mono ?_;rintro e w1 ⟨rfl,b1⟩);go_ret;exact ⟨⟨_,rfl,yH.out⟩,hbel.trans (b1.mono hB)⟩
  | false=>
   rw[hq] at hcl HY HM;have uA:Hid (∀ y,y<j+1->mX cl i n (aJ ds y)=false):=HM.out rfl;clear HY HM hq;go_wp2_with (go_at_call 214;refine hcl.mono ?_;rintro e w1 ⟨rfl,b1⟩);go_roundw;case rel=>exact ⟨j+1,by omega,by go_num,uA,hbel.trans (b1.mono hB)⟩
   case measure=>simp[intOf];omega
 obtain rfl:j=ds.length:=by omega
 have HY:Hid (F8 cl i n ds (-1)):=Or.inl ⟨rfl,afu HN.out⟩;clear HC HR HN;go_wp2;go_ret;exact ⟨⟨_,rfl,HY.out⟩,hbel⟩
theorem afz (a:Option Addr) (c:Nat) (ds:List ai) (ss:Nat->aI) (cl i n:Int) (bc bi bn:Nat) (w:World) (hn:ds.length<=1048576) (hF:pY ds ss) (hR:cN w a ds ss) (hC:xJ bc bi bn cl i n w):Calls prog 213 #[.slice a ds.length c,.func (.func 214) #[] #[.pointer (some ⟨bc,0,none⟩),.pointer (some ⟨bi,0,none⟩),.pointer (some ⟨bn,0,none⟩)]] w fun e w'=>e=.returned (.bool (lB cl i n ds))/\Below w.heap.size w w':=by
 have hx:=afy a c ds ss cl i n bc bi bn w hn hF hR hC;cases hq:lB cl i n ds with
 | true=>
  have hx':=hx.mono (R':=fun e w'=>(∃ x:Int,0<=x/\e=.returned (.int .i64 x))/\Below w.heap.size w w') (by
   rintro e w' ⟨⟨x,he,hA⟩,hb⟩;rcases hA with ⟨_,h⟩ | ⟨h,_⟩;·rw[hq] at h;cases h
   exact ⟨⟨x,h,he⟩,hb⟩)
  clear hx hq hR hC hF;go_enter func213,ntmps213;go_wp2_with (go_at_call 101;refine hx'.mono ?_;rintro e w1 ⟨⟨x,h0,rfl⟩,b1⟩);go_ret;refine ⟨?_,b1⟩;simp[h0]
 | false=>
  have hx':=hx.mono (R':=fun e w'=>e=.returned (.int .i64 (-1))/\Below w.heap.size w w') (by
   rintro e w' ⟨⟨x,he,hA⟩,hb⟩;rcases hA with ⟨rfl,h⟩ | ⟨_,h⟩;·exact ⟨he,hb⟩
   rw[hq] at h;cases h)
  clear hx hq hR hC hF;go_enter func213,ntmps213;go_wp2_with (go_at_call 101;refine hx'.mono ?_;rintro e w1 ⟨rfl,b1⟩);go_ret;exact ⟨rfl,b1⟩
section
open Go.Sort (Holds putRow grow)
theorem SX {W:World} {g:Nat} {zs:List Int} (h:az g (cR zs) W):Holds (Value.int .i64) W g 0 zs.toArray:=by
 intro j hj;have hj':j<zs.length:=by simpa using hj
 have h1:=h.cell j (by simpa using hj');have h2:=h.free j (by simpa using hj');refine ⟨?_,by simpa using h2⟩;rw[dW,h1];simp[hj']
theorem afA {W:World} {g:Nat} {zs:List Int} (hg:g<W.heap.size) (h:Holds (Value.int .i64) W g 0 zs.toArray):az g (cR zs) W:=by
 refine ⟨fun j hj=>?_,fun j hj=>?_,hg⟩
 ·have hj':j<zs.length:=by simpa using hj
  have:=(h j (by simpa using hj')).1;rw[dW] at this;rw[this];simp[hj']
 have hj':j<zs.length:=by simpa using hj
 have:=(h j (by simpa using hj')).2;rwa [dW] at this
theorem afB {W:World} {g n:Nat} {zs ys:List Int} {os:Array Obj} (h:az g (cR zs) W) (hl:ys.length=zs.length):az g (cR ys) (grow (putRow (Value.int .i64) (Sort.ahead W n) g 0 ys.toArray) os):=by
 have h0:Holds (Value.int .i64) (Sort.ahead W n) g 0 zs.toArray:=Go.Sort.holds_ahead _ _ _ _ _ _ (SX h);have hlt:g<(putRow (Value.int .i64) (Sort.ahead W n) g 0 ys.toArray).heap.size:=by rw[Bj];exact h.lt
 refine afA (by rw[Og];omega) (Go.Sort.holds_grow _ _ _ _ _ _ hlt (Go.Sort.holds_putRow _ _ _ _ _ _ h0 (by simpa using hl)))
theorem afC {W:World} {g n base:Nat} {ys:List Int} {os:Array Obj} (hb:base<=g) (hg:base<=W.heap.size):Below base W (grow (putRow (Value.int .i64) (Sort.ahead W n) g 0 ys.toArray) os):=by
 refine ⟨rfl,rfl,rfl,?_,fun k hk=>?_⟩
 ·rw[Og,Bj];exact ix _ _
 rw[Go.Sort.heap_grow_old _ _ (by rw[Bj];exact cv hk hg)];show (W.heap.modify g _)[k]? = W.heap[k]?
 rw[Oi];rw[aM (by omega)]
end
def eJ (mem:ByteArray) (d:ai):List Int:=if fQ mem d=true then jU (fG false (dt (dI d)) (dt (cP mem d.ino))) else []
theorem SY {b:Bool} {zs al:List Int} {k:Nat} (hk:k<zs.length) (h:bC al (zs.getD k 0)=b):fG b (zs.take (k+1)) al=fG b (zs.take k) al ++ [zs.getD k 0]:=by unfold fG;rw[mq hk,wJ,fq _ _ hk];rw[fq _ _ hk] at h;simp[h]
theorem SZ {b:Bool} {zs al:List Int} {k:Nat} (hk:k<zs.length) (h:bC al (zs.getD k 0)=!b):fG b (zs.take (k+1)) al=fG b (zs.take k) al:=by unfold fG;rw[mq hk,wJ];rw[fq _ _ hk] at h;cases b <;> simp[h]
theorem afD (b:Bool) (zs al:List Int) (k:Nat):(fG b (zs.take k) al).length<=zs.length:=br (Ot _ _) (by rw[jk];omega)
theorem afE {w:World} {g n c base:Nat} {zs:List Int} (hn:zs.length<=1048576) (hbuf:bH base w (some ⟨g,0,none⟩) n c zs) (hb:base<=w.heap.size):Calls prog 98 #[aH g n c] w fun e w'=>e=.returned (.tuple #[])/\aR base w' (some ⟨g,0,none⟩) (jU zs)/\Below base w w':=by
 have hlt:=hbuf.2.lt g rfl;obtain rfl:n=zs.length:=hbuf.1;have hH:Go.Sort.Holds (Value.int .i64) w g 0 zs.toArray:=by
  rcases hbuf.own with h0 | ⟨g',e,_,hk⟩
  ·subst h0;intro j hj;exact absurd hj (by simp)
  cases e;exact SX hk
 refine (Tryz.slices_Sort_int g 0 c zs w hH hlt.2 (by omega)).mono fun e w' ⟨he,m,os,hw⟩=>⟨he,?_,?_⟩
 ·rw[hw,SH];rcases hbuf.own with h0 | ⟨g',e,hg,hk⟩
  ·subst h0;exact Or.inl rfl
  cases e;exact Or.inr ⟨g,rfl,hg,afB hk (xH zs)⟩
 rw[hw];exact afC hlt.1 hb
theorem S0 (mem:ByteArray) (d:ai) (s:aI) (w:World) (hms:mem.size<=281474976710656) (hF:iV d s) (hpo:d.po.length<=1048576) (hfr:d.fr.length<=1048576) (hR:cJ w d s):Calls prog 245 #[.string mem,bL d s] w fun e w'=>∃ a c,e=.returned (.slice a (eJ mem d).length c)/\(eJ mem d).length<=c/\aR w.heap.size w' a (eJ mem d)/\ah w w':=by
 have l0:=aA w (.cells (dU d s) 31);have l1:=l0.alloc l0.size (.cells #[] 3);have b0:=lP (base:=w.heap.size) (w.alloc (.cells (dU d s) 31)) l0.size;have k0:=nA (w.alloc (.cells (dU d s) 31)) (.cells #[] 3);have HK:Hid (∀ W,ah w W->Calls prog 263 #[.string mem,bL d s] W fun e w'=>∃ (k o t:Int) (a:Option Addr) (n c:Nat) (ae:Option Addr) (ne ce:Nat) (d':ai) (s':aI) (be:Option Addr) (n2 c2:Nat),e=.returned (.tuple #[cz k o t a n c ae ne ce d' s',.slice be n2 c2,.bool (fQ mem d)])/\ah W w'/\(fQ mem d=true->ne=(dI d).length/\cW w' ae (dI d)/\n2=(cP mem d.ino).length/\cW w' be (cP mem d.ino))):=fun W hb=>(Jt mem d s W hms hF hpo hfr (hR.below hb)).mono fun e w' ⟨k,o,t,a,n,c,ae,ne,ce,d',s',be,n2,c2,he,hb,hy⟩=>⟨k,o,t,a,n,c,ae,ne,ce,d',s',be,n2,c2,he,hb,fun h=>(hy h).2.2⟩;clear hF hR;have hel:=Js mem d.ino;have hol:=P8 d;cases hv:fQ mem d with
 | false=>
  have hco:eJ mem d=[]:=by rw[eJ,hv];rfl
  rw[hco];rw[hv] at HK;clear hv hco hel hol;go_enter func245,ntmps245;go_wp2_with (go_at_call 263;refine (HK.out _ l1).mono ?_;rintro e w1 ⟨k,o,t,a,n,c,ae,ne,ce,d',s',be,n2,c2,rfl,b1,-⟩);go_ret;exact ⟨_,_,rfl,av _,Or.inl rfl,(l1.trans (b1.mono l1.size)).alloc (br l1.size b1.size) _⟩
 | true=>
  have hco:eJ mem d=jU (fG false (dt (dI d)) (dt (cP mem d.ino))):=by rw[eJ,aN hv]
  rw[hco];rw[hv] at HK;obtain ⟨es,hes⟩:∃ es,cP mem d.ino=es:=⟨_,rfl⟩;obtain ⟨us,qv⟩:∃ us,dI d=us:=⟨_,rfl⟩;rw[hes,qv] at HK;rw[hes] at hel;rw[qv] at hol;rw[hes,qv];clear hv hco hes qv;go_enter func245,ntmps245;go_wp2_with (go_at_call 263;refine (HK.out _ l1).mono ?_;rintro e w1 ⟨k,o,t,a,n,c,ae,ne,ce,d',s',be,n2,c2,rfl,b1,hy⟩;obtain ⟨rfl,rU,rfl,rE⟩:=hy rfl;clear hy;have bW:=aA w1 (fg k o t a n c ae us.length ce d' s'));have hB1:w1.heap[w.heap.size+1]? = some (.cells #[] 3):=(b1.block _ (by simp)).trans (by simpa using k0);have ap:mB (w1.alloc (fg k o t a n c ae us.length ce d' s')) be es (some ⟨w.heap.size+1,0,none⟩):=mB.below (JV (B:=w.heap.size+1) rE hB1) bW;have aq:mB (w1.alloc (fg k o t a n c ae us.length ce d' s')) ae us (some ⟨w.heap.size+1,0,none⟩):=mB.below (JV (B:=w.heap.size+1) rU hB1) bW;have bf:bH w.heap.size (w1.alloc (fg k o t a n c ae us.length ce d' s')) (some ⟨w.heap.size+1,0,none⟩) 0 0 []:=by have:=(b0.below b1).below bW;simpa using this
  have l2:=(l1.trans (b1.mono l1.size)).alloc (br l1.size b1.size) (fg k o t a n c ae us.length ce d' s');clear b0 k0 l0 l1 HK hB1;go_loopw [5,26] (fun v i w'=>∃ (k n c g:Nat),k<=us.length/\i=aa k/\v=aH g n c/\bH w.heap.size w' (some ⟨g,0,none⟩) n c (fG false ((dt us).take k) (dt es))/\mB w' be es (some ⟨g,0,none⟩)/\mB w' ae us (some ⟨g,0,none⟩)/\ah w w') (fun _ i _=>us.length-(intOf i).toNat);case atStart=>exact ⟨0,0,0,_,bh _,rfl,rfl,bf,ap,aq,l2⟩
  case round=>
   obtain ⟨k5,n5,c5,g5,hk,rfl,rfl,hbuf,hap,haq,hbel⟩:=hrel;clear bf ap aq l2 rE rU;by_cases hlt:k5<us.length
   ·obtain ⟨b,off,hab,_,hc⟩:=haq.1.get hlt;have x1:=(hc k5 hlt).1;have x2:=(hc k5 hlt).2;have A8:k5<(dt us).length:=by rw[xe];exact hlt
    have ml:=fun h=>SY (b:=false) (zs:=dt us) (al:=dt es) A8 h;have hno:=fun h=>SZ (b:=false) (zs:=dt us) (al:=dt es) A8 h;have hnl:n5<=us.length:=by rw[hbuf.1,<- xe us];exact afD _ _ _ _
    rw[Jn us k5 hlt] at ml hno;obtain ⟨z,ez⟩:∃ z,bl us k5=z:=⟨_,rfl⟩;rw[ez] at x1 x2 ml hno;obtain ⟨u,v⟩:=z;simp only at x1 x2 ml hno;have e1:(0:Int)<=(k5:Int):=by omega
    have e2:(k5:Int)<(us.length:Int):=by omega
    have hI:Hid (∀ W,cW W be es->_):=fun W h=>ET be c2 es u W (by omega) h;have n6:=aA wr (.cells #[aa u,.string v] 47);have q6:=aY [aa u,.string v] wr 47;have p6:=hap.below n6;have r6:=haq.below n6;have f6:=hbuf.below n6;have l6:=hbel.trans (n6.mono hbel.size);cases h:bC (dt es) u with
    | false=>
     have HS:Hid (fG false ((dt us).take k5) (dt es) ++ [u]=fG false ((dt us).take (k5+1)) (dt es)):=(ml h).symm;rw[h] at hI;clear ez hc ml hno h haq;rw[hab] at r6 ⊢;go_wp2_with (first
      | (go_at_call 225;refine (hI.out _ p6.1).mono ?_;rintro e w7 ⟨rfl,b7⟩;have y0:ad w7 wr.heap.size 0 (aa u):=(q6.below b7).cell 0 (by simp);have n7:=aA w7 (.cells #[aa u] 3);have p7:=(p6.below b7).below n7;have r7:=(r6.below b7).below n7;have f7:=(f6.below b7).below n7;have l7:=(l6.trans (b7.mono l6.size)).trans (n7.mono (br l6.size b7.size)))
      | (at_builtin;refine RE rfl (.tmp 35) (.tmp 38) rfl f7 _ _ [u] (by rfl) (by rfl) (vv w7 u) (by simp only[fv,gv];omega) l7.size ?_;intro a8 c8 w8 f8 g8 o8))
     have p8:=p7.grown g8 o8;have r8:=r7.grown g8 o8;have l8:=l7.trans (jS f7 l7.size g8);obtain ⟨g9,rfl⟩:∃ g9,a8=some ⟨g9,0,none⟩:=by
      rcases f8.own with h0 | ⟨g9,e9,_⟩;·exact absurd (iw List.length h0) (by simp)
      exact ⟨g9,e9⟩
     go_roundw;case rel=>exact ⟨k5+1,n5+1,c8,g9,by omega,by go_num,rfl,by rw[<- HS.out];exact f8,p8,r8,l8⟩
     case measure=>simp[intOf];omega
    | true=>
     have HS:Hid (fG false ((dt us).take (k5+1)) (dt es)=fG false ((dt us).take k5) (dt es)):=hno h;rw[h] at hI;clear ez hc ml hno h haq;rw[hab] at r6 ⊢;go_wp2_with (go_at_call 225;refine (hI.out _ p6.1).mono ?_;rintro e w7 ⟨rfl,b7⟩);go_roundw;case rel=>exact ⟨k5+1,n5,c5,g5,by omega,by go_num,rfl,by rw[HS.out];exact f6.below b7,p6.below b7,r6.below b7,l6.trans (b7.mono l6.size)⟩
     case measure=>simp[intOf];omega
   obtain rfl:k5=us.length:=by omega
   have HF:Hid (bH w.heap.size wr (some ⟨g5,0,none⟩) n5 c5 (fG false (dt us) (dt es))):=by
    show bH _ _ _ _ _ _
    rw[<- xe us,nC] at hbuf;exact hbuf
   have hkl:(fG false (dt us) (dt es)).length<=1048576:=br (Ot _ _) (by rw[xe];omega);have e9:decide ((us.length:Int)<(us.length:Int))=false:=by simp
   clear hbuf hap haq;go_wp2_with (go_at_call 98;refine (afE hkl HF.out hbel.size).mono ?_;rintro e w7 ⟨rfl,o7,b7⟩);go_ret;exact ⟨_,c5,by rw[xH,<- HF.out.1];rfl,by rw[xH,<- HF.out.1];exact HF.out.fits,o7,hbel.trans b7⟩
def mY (p:ByteArray × ByteArray) (i:Int):ByteArray × ByteArray:=(dV p.1 p.2 (aZ i) (bG 16),fC (dV p.1 p.2 (aZ i) (bG 16)) p.2 (aZ i) 16)
def cQ (zs:List Int) (p:ByteArray × ByteArray):Nat->ByteArray × ByteArray
 | 0=>p
 | n+1=>mY (cQ zs p n) (zs.getD n 0)
def jV (zs al:List Int) (p:ByteArray × ByteArray):Nat->ByteArray × ByteArray
 | 0=>p
 | n+1=>if bC al (zs.getD n 0)=true then jV zs al p n else mY (jV zs al p n) (zs.getD n 0)
theorem afF (s:ByteArray) (i:Int) (t:ByteArray):(bs s i t).size=s.size:=by
 unfold bs;split
 ·rename_i h;obtain ⟨h0,h1,h2⟩:=su h;rw[ke,ke,pH,pH];omega
 rfl
theorem CL (a b:ByteArray) (i:Int) (t:ByteArray):(dV a b i t).size=a.size:=by
 unfold dV;split;·exact afF _ _ _
 rfl
theorem Ta (a b:ByteArray) (i n:Int) (hb:b.size=768):(fC a b i n).size=768:=by
 unfold fC;split
 ·show (dZ _ _ _).toArray.size=768
  rw[Bl,ki]
 exact hb
def gF (p:ByteArray × ByteArray):Prop:=p.1.size=768/\p.2.size=768
theorem Tc {p:ByteArray × ByteArray} (h:gF p) (i:Int):gF (mY p i):=⟨(CL _ _ _ _).trans h.1,Ta _ _ _ _ h.2⟩
theorem CM {p:ByteArray × ByteArray} (h:gF p) (zs:List Int):∀ n,gF (cQ zs p n)
 | 0=>h
 | n+1=>Tc (CM h zs n) _
theorem Kl {p:ByteArray × ByteArray} (h:gF p) (zs al:List Int):∀ n,gF (jV zs al p n)
 | 0=>h
 | n+1=>by
  rw[jV];split;·exact Kl h zs al n
  ·exact Tc (Kl h zs al n) _
theorem Te {p:ByteArray × ByteArray} {xs ys:List Int}:∀ n,(∀ i,i<n->xs.getD i 0=ys.getD i 0)->cQ xs p n=cQ ys p n
 | 0,_=>rfl
 | n+1,h=>by rw[cQ,cQ,Te n (fun i hi=>h i (by omega)),h n (by omega)]
theorem Km (xs ys:List Int) (p:ByteArray × ByteArray):∀ n,cQ (xs++ys) p (xs.length+n)=cQ ys (cQ xs p xs.length) n
 | 0=>by rw[sr,cQ];exact Te _ fun i hi=>by rw[jl,jl,nD hi]
 | n+1=>by rw[<- wK,cQ,Km xs ys p n,cQ];congr 1;rw[jl,jl,nF (by omega),Nat.add_sub_cancel_left]
theorem Tf (zs al:List Int) (p:ByteArray × ByteArray):∀ n,n<=zs.length->jV zs al p n=cQ (fG false (zs.take n) al) p (fG false (zs.take n) al).length
 | 0,_=>by simp[jV,fG,cQ]
 | n+1,hn=>by
  rw[jV,Tf zs al p n (by omega)];cases h:bC al (zs.getD n 0) with
  | true=>rw[aN rfl,SZ (by omega) h]
  | false=>
   rw[aM (by decide),SY (by omega) h,de,show [zs.getD n 0].length=0+1 from rfl,Km,cQ,cQ]
   rfl
theorem afG (zs fs al:List Int) (p:ByteArray × ByteArray):jV fs al (cQ zs p zs.length) fs.length=cQ (zs++fG false fs al) p (zs++fG false fs al).length:=by rw[Tf _ _ _ _ (av _),nC,de,Km]
def Af (k:bz) (x:Int):Bool:=!(bC (dA (fun d:ai=>[d.ino]) k.ds k.ds.length) x || (decide (bO (cD k) x=2) && !decide (cX (cD k) x=0)))
def mZ (k:bz) (d:ai):Bool:=fQ k.mem d && bX (fun j=>Af k ((eJ k.mem d).getD j 0)) (eJ k.mem d).length
def na (k:bz) (d:ai) (t:Bool):ByteArray × ByteArray:=
  if t=true then
    ((cQ (eJ k.mem d++fG false d.fr (gD k.mem d)) (k.mem,k.aL) (eJ k.mem d++fG false d.fr (gD k.mem d)).length).1,
     jg (cQ (eJ k.mem d++fG false d.fr (gD k.mem d)) (k.mem,k.aL) (eJ k.mem d++fG false d.fr (gD k.mem d)).length).1 (cQ (eJ k.mem d++fG false d.fr (gD k.mem d)) (k.mem,k.aL) (eJ k.mem d++fG false d.fr (gD k.mem d)).length).2 (bD d) (bD d).length)
  else (gC k.mem d,jg (gC k.mem d) k.aL (bD d) (bD d).length)
def qj (k:bz) (p:Nat):bz:=⟨(na k (aJ k.ds p) (mZ k (aJ k.ds p))).1,(na k (aJ k.ds p) (mZ k (aJ k.ds p))).2,k.ds.eraseIdx p,k.ck⟩
theorem afH (ds:List ai) (p i:Nat):aJ (ds.eraseIdx p) i=if i<p then aJ ds i else aJ ds (i+1):=by unfold aJ;rw[jl,List.getElem?_eraseIdx];split <;> rw[jl]
theorem afI (mem:ByteArray) (d:ai) (s:aI) (w:World) (hms:mem.size<=281474976710656) (hF:iV d s) (hpo:d.po.length<=1048576) (hfr:d.fr.length<=1048576) (hR:cJ w d s):Calls prog 244 #[.string mem,bL d s] w (aV (.bool (fQ mem d)) w):=by have l0:=aA w (.cells (dU d s) 31);have HK:Hid (∀ W,ah w W->Calls prog 263 #[.string mem,bL d s] W fun e w'=>∃ (k o t:Int) (a:Option Addr) (n c:Nat) (ae:Option Addr) (ne ce:Nat) (d':ai) (s':aI) (be:Option Addr) (n2 c2:Nat),e=.returned (.tuple #[cz k o t a n c ae ne ce d' s',.slice be n2 c2,.bool (fQ mem d)])/\ah W w'):=fun W hb=>(Jt mem d s W hms hF hpo hfr (hR.below hb)).mono fun e w' ⟨k,o,t,a,n,c,ae,ne,ce,d',s',be,n2,c2,he,hb,_⟩=>⟨k,o,t,a,n,c,ae,ne,ce,d',s',be,n2,c2,he,hb⟩;clear hR hF;go_enter func244,ntmps244;go_wp2_with (go_at_call 263;refine (HK.out _ l0).mono ?_;rintro e w1 ⟨k,o,t,a,n,c,ae,ne,ce,d',s',be,n2,c2,rfl,b1⟩);go_ret;exact ⟨rfl,(l0.trans (b1.mono l0.size)).alloc (br l0.size b1.size) _⟩
abbrev ry (k:bz) (a:Option Addr) (c:Nat):List Value:=[.int .i32 1,.int .u32 0,.string k.mem,.string k.aL,.slice a k.ds.length c,.int .i64 k.ck]
theorem xK {k:bz} {a:Option Addr} {c P:Nat} {W:World} (h:az P (ry k a c) W):ad W P 2 (.string k.mem)/\ad W P 3 (.string k.aL)/\ad W P 4 (.slice a k.ds.length c)/\ad W P 5 (aa k.ck):=⟨h.cell 2 (by simp),h.cell 3 (by simp),h.cell 4 (by simp),h.cell 5 (by simp)⟩
theorem Tg (k:bz) (P:Nat) (a:Option Addr) (c:Nat) (ss:Nat->aI) (x:Int) (w:World) (hn:k.ds.length<=1048576) (ht:k.ds.length+ja k.ds k.ds.length<=1048576) (hR:cN w a k.ds ss) (hP:az P (ry k a c) w):Calls prog 209 #[ao P 0,aa x] w (aV (.bool (bC (dA (fun d:ai=>[d.ino]) k.ds k.ds.length) x)) w):=by
 have hz:=(xK hP).2.2.1;have A8:=RH a c k.ds ss w hn ht hR;have hgl:(dA (fun d:ai=>[d.ino]) k.ds k.ds.length).length<=1048576:=by rw[Ad];exact hn
 unfold FT at A8;generalize dA (fun d:ai=>[d.ino]) k.ds k.ds.length=Z at A8 hgl ⊢;have HC:Hid (∀ W a' c',aR w.heap.size W a' Z->_):=fun W a' c' h=>pR a' c' Z x W (by omega) h.row;clear hR hP;go_enter func209,ntmps209;go_wp2_with (first
  | (go_at_call 46;refine A8.mono ?_;rintro e w1 ⟨a1,c1,rfl,o1,hc1,b1⟩)
  | (go_at_call 141;refine (HC.out _ _ _ o1).mono ?_;rintro e w2 ⟨rfl,hw2⟩;subst w2))
 go_ret;exact ⟨rfl,b1⟩
theorem afJ (k:bz) (P:Nat) (a:Option Addr) (c:Nat) (ss:Nat->aI) (d:ai) (s:aI) (w:World) (hm:k.mem.size=768) (hn:k.ds.length<=1048576) (ht:k.ds.length+ja k.ds k.ds.length<=1048576) (hF:pY k.ds ss) (hR:cN w a k.ds ss) (hP:az P (ry k a c) w) (jA:iV d s) (hpo:d.po.length<=1048576) (hfr:d.fr.length<=1048576) (hL:cJ w d s) (hts:(cD k).size=768) (hgs:(eJ k.mem d).length<=1048576):Calls prog 216 #[ao P 0,bL d s] w (aV (.bool (mZ k d)) w):=by
 have n0:=aA w (ri d s);have lb:=jP d s w 31;have HB:Hid (∀ W,ah w W->(ad W P 2 (.string k.mem)/\ad W P 3 (.string k.aL)/\ad W P 4 (.slice a k.ds.length c)/\ad W P 5 (aa k.ck))):=fun W hb=>xK (hP.below hb);have HT:Hid (∀ W,ah w W->_):=fun W hb=>zU k a c ss W (by omega) hn hF (hR.below hb);have HV:Hid (∀ W,ah w W->_):=fun W hb=>afI k.mem d s W (by omega) jA hpo hfr (hL.below hb);have HG:Hid (∀ W,ah w W->_):=fun W hb=>S0 k.mem d s W (by omega) jA hpo hfr (hL.below hb);have np:Hid (∀ x W,_):=fun x W=>vt (cD k) x W (by omega);have HI:Hid (∀ x W,ah w W->_):=fun x W hb=>Tg k P a c ss x W hn ht (hR.below hb) (hP.below hb);have HO:Hid (∀ x,Af k x=!(bC (dA (fun d:ai=>[d.ino]) k.ds k.ds.length) x || (decide (bO (cD k) x=2) && !decide (cX (cD k) x=0)))):=fun x=>rfl;have HM:Hid (mZ k d=(fQ k.mem d && bX (fun j=>Af k ((eJ k.mem d).getD j 0)) (eJ k.mem d).length)):=rfl;generalize mZ k d=M at HM ⊢;generalize Af k=ok at HO HM;generalize dA (fun d:ai=>[d.ino]) k.ds k.ds.length=I at HI HO;generalize cD k=T at HT np HO;generalize eJ k.mem d=Z at HG HM hgs;have dr:ah w (w.alloc (ri d s)).drew:=n0.drew;have NV:fw w.heap.size d s (w.alloc (ri d s)).drew:=lb.below ((aQ _ _).drew);have s0:=HB.out _ dr;clear hR hP hL hF jA;cases hv:fQ k.mem d with
 | false=>
  rw[hv] at HV HM;have uA:Hid (M=false):=by rw[HM.out];rfl
  clear hv HM HG np HI HO lb;go_enter func216,ntmps216;go_wp2;go_region_held3 (fun W=>ad W P 2 (.string k.mem)/\ad W P 3 (.string k.aL)/\ad W P 4 (.slice a k.ds.length c)/\ad W P 5 (aa k.ck)) (assumption) ((go_at_call 7;refine (HT.out _ dr).mono ?_;rintro e w1 ⟨rfl,b1⟩;have l1:=dr.trans (b1.mono dr.size);have s1:=HB.out _ l1;have fW:=NV.below b1;have y0:=fW.c0;have y1:=fW.c1;have y2:=fW.c2;have y3:=fW.c3;have y4:=fW.c4;have y5:=fW.c5;have y6:=fW.c6;have y7:=fW.c7))
  go_wp2_with (go_at_call 244;refine (HV.out _ l1).mono ?_;rintro e w2 ⟨rfl,b2⟩);go_ret;exact ⟨cr uA.out.symm,l1.trans (b2.mono l1.size)⟩
 | true=>
  rw[hv] at HV HM;have uA:Hid (M=bX (fun j=>ok (Z.getD j 0)) Z.length):=by rw[HM.out];rfl
  clear hv HM lb;go_enter func216,ntmps216;go_wp2;go_region_held3 (fun W=>ad W P 2 (.string k.mem)/\ad W P 3 (.string k.aL)/\ad W P 4 (.slice a k.ds.length c)/\ad W P 5 (aa k.ck)) (assumption) ((go_at_call 7;refine (HT.out _ dr).mono ?_;rintro e w1 ⟨rfl,b1⟩;have l1:=dr.trans (b1.mono dr.size);have s1:=HB.out _ l1;have fW:=NV.below b1;have y0:=fW.c0;have y1:=fW.c1;have y2:=fW.c2;have y3:=fW.c3;have y4:=fW.c4;have y5:=fW.c5;have y6:=fW.c6;have y7:=fW.c7))
  go_wp2_with (first
   | (go_at_call 244;refine (HV.out _ l1).mono ?_;rintro e w2 ⟨rfl,b2⟩;have l2:=l1.trans (b2.mono l1.size);have uu:=fW.below b2;clear y0 y1 y2 y3 y4 y5 y6 y7;have y0:=uu.c0;have y1:=uu.c1;have y2:=uu.c2;have y3:=uu.c3;have y4:=uu.c4;have y5:=uu.c5;have y6:=uu.c6;have y7:=uu.c7)
   | (go_at_call 245;refine (HG.out _ l2).mono ?_;rintro e w3 ⟨a3,c3,rfl,hc3,o3,b3⟩;have l3:=l2.trans (b3.mono l2.size);clear y0 y1 y2 y3 y4 y5 y6 y7))
  go_loopw [31] (fun i w'=>∃ j:Nat,j<=Z.length/\i=aa j/\bX (fun j=>ok (Z.getD j 0)) j=true/\aR w2.heap.size w' a3 Z/\ah w w') (fun i _=>Z.length-(intOf i).toNat);case atStart=>exact ⟨0,bh _,rfl,rfl,o3,l3⟩
  case round=>
   obtain ⟨j,hj,rfl,hok,ow,hbel⟩:=hrel;clear s0 s1 NV fW uu l1 l2 l3 o3 HT HV HG HB;by_cases hlt:j<Z.length
   ·obtain ⟨b,off,hab,_,hc⟩:=ow.row.get hlt;have x1:=hc j hlt;have hsx:bX (fun j=>ok (Z.getD j 0)) (j+1)=ok (Z.getD j 0):=by rw[Pz,hok];rfl
    have hbd:ok (Z.getD j 0)=false->bX (fun j=>ok (Z.getD j 0)) Z.length=false:=fun h=>qP hlt h;obtain ⟨z,ez⟩:∃ z,Z.getD j 0=z:=⟨_,rfl⟩;rw[ez] at x1 hsx hbd;have X1:Hid (bX (fun j=>ok (Z.getD j 0)) (j+1)=ok z):=hsx;have YF:Hid (ok z=false->bX (fun j=>ok (Z.getD j 0)) Z.length=false):=hbd;have vS:Hid (ok z=!(bC I z || (decide (bO T z=2) && !decide (cX T z=0)))):=HO.out z;have hld:=np.out z wr;have AW:Hid (∀ W,ah w W->_):=fun W hb=>HI.out z W hb;unfold pT at hld;generalize bO T z=K at hld vS;generalize cX T z=S at hld vS;generalize cB T z=O at hld;generalize bV T z=Y at hld;generalize dj T z=X at hld;generalize cI T z=B at hld;have e1:(0:Int)<=(j:Int):=by omega
    have e2:(j:Int)<(Z.length:Int):=by omega
    rw[hab];cases hh:bC I z with
    | true=>
     rw[hh] at vS AW;have HR:Hid (M=false):=by rw[uA.out];exact YF.out (by rw[vS.out];rfl)
     clear hsx hbd hc ez hh HO HI np hok;go_wp2_with (first
      | (go_at_call 6;refine hld.mono ?_;rintro e w4 ⟨a4,c4,rfl,o4,hc4,b4⟩;have l4:=hbel.trans (b4.mono hbel.size);have nb:=aA w4 (.cells (bj K O S a4 Y.length c4) 35);have l5:=l4.trans (nb.mono l4.size);have ib:=aY [aa K,aa O,aa S,.slice a4 Y.length c4] w4 35)
      | (go_at_call 209;refine (AW.out _ l5).mono ?_;rintro e w6 ⟨rfl,b6⟩;have l6:=l5.trans (b6.mono l5.size);have sg:=ib.below b6;have i0:=sg.c0;have i2:=sg.c2))
     go_ret;exact ⟨cr HR.out.symm,l6⟩
    | false=>
     rw[hh] at vS AW;by_cases hK:K=2
     ·subst hK;by_cases hS:S=0
      ·subst hS;have HR:Hid (bX (fun j=>ok (Z.getD j 0)) (j+1)=true):=by rw[X1.out,vS.out];rfl
       clear hsx hbd hc ez hh HO HI np hok;go_wp2_with (first
        | (go_at_call 6;refine hld.mono ?_;rintro e w4 ⟨a4,c4,rfl,o4,hc4,b4⟩;have l4:=hbel.trans (b4.mono hbel.size);have nb:=aA w4 (.cells (bj 2 O 0 a4 Y.length c4) 35);have l5:=l4.trans (nb.mono l4.size);have ib:=aY [aa 2,aa O,aa 0,.slice a4 Y.length c4] w4 35;have NG:=(ow.below b4).below nb)
        | (go_at_call 209;refine (AW.out _ l5).mono ?_;rintro e w6 ⟨rfl,b6⟩;have l6:=l5.trans (b6.mono l5.size);have sg:=ib.below b6;have i0:=sg.c0;have i2:=sg.c2;have Nu:=NG.below b6))
       go_roundw;case rel=>exact ⟨j+1,by omega,by go_num,HR.out,by rw[<- hab];exact Nu,l6⟩
       case measure=>simp[intOf];omega
      have HR:Hid (M=false):=by rw[uA.out];exact YF.out (by rw[vS.out,bA hS];rfl)
      clear hsx hbd hc ez hh HO HI np hok;go_wp2_with (first
       | (go_at_call 6;refine hld.mono ?_;rintro e w4 ⟨a4,c4,rfl,o4,hc4,b4⟩;have l4:=hbel.trans (b4.mono hbel.size);have nb:=aA w4 (.cells (bj 2 O S a4 Y.length c4) 35);have l5:=l4.trans (nb.mono l4.size);have ib:=aY [aa 2,aa O,aa S,.slice a4 Y.length c4] w4 35)
       | (go_at_call 209;refine (AW.out _ l5).mono ?_;rintro e w6 ⟨rfl,b6⟩;have l6:=l5.trans (b6.mono l5.size);have sg:=ib.below b6;have i0:=sg.c0;have i2:=sg.c2))
      go_ret;exact ⟨cr HR.out.symm,l6⟩
     ·have HR:Hid (bX (fun j=>ok (Z.getD j 0)) (j+1)=true):=by rw[X1.out,vS.out,bA hK];rfl
      clear hsx hbd hc ez hh HO HI np hok;go_wp2_with (first
       | (go_at_call 6;refine hld.mono ?_;rintro e w4 ⟨a4,c4,rfl,o4,hc4,b4⟩;have l4:=hbel.trans (b4.mono hbel.size);have nb:=aA w4 (.cells (bj K O S a4 Y.length c4) 35);have l5:=l4.trans (nb.mono l4.size);have ib:=aY [aa K,aa O,aa S,.slice a4 Y.length c4] w4 35;have NG:=(ow.below b4).below nb)
       | (go_at_call 209;refine (AW.out _ l5).mono ?_;rintro e w6 ⟨rfl,b6⟩;have l6:=l5.trans (b6.mono l5.size);have sg:=ib.below b6;have i0:=sg.c0;have i2:=sg.c2;have Nu:=NG.below b6))
      go_roundw;case rel=>exact ⟨j+1,by omega,by go_num,HR.out,by rw[<- hab];exact Nu,l6⟩
      case measure=>simp[intOf];omega
   obtain rfl:j=Z.length:=by omega
   have HR:Hid (M=true):=by rw[uA.out];exact hok
   clear hok ow HO HI np;go_wp2;go_ret;exact ⟨cr HR.out.symm,hbel⟩
end Go.Proofs.YtgpfmgaidbjcpaaGreatDoor
