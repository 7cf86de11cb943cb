/- Joined texts. -/
import Derived.Test.YtgpfmgaidbjcpaaGreatDoorJhP
import Derived.Test.YtgpfmgaidbjcpaaGreatDoorJhO
set_option linter.unusedVariables false
set_option linter.unusedSimpArgs false
set_option maxRecDepth 10000
set_option maxHeartbeats 16000000
namespace Go.Proofs.YtgpfmgaidbjcpaaGreatDoor
open ChangeShapes WideShapes ChangeAt RowKit
open Go.Proofs.Tryz
section
variable {B : Nat} {N : Nat → dw} {F : Nat → Nat} {P : Nat → ByteArray} {w W W' : World} {Z : Nat → List Int} {mem : ByteArray}
def sQ:dw:=⟨0,0,0,none,0,0,⟨#[]⟩,none,0,0⟩
def nV:List Value:=lq (fun _=>sQ) 8++List.replicate 8 (.int .i64 0)++List.replicate 8 (.string ⟨#[]⟩)
theorem RQ {α:Type} (v:α) (n i:Nat) (h:i<n):(List.replicate n v)[i]? = some v:=by rw[List.getElem?_replicate,aN h]
theorem aea:(prog.info? 175).map (fun i=>(i.zero,i.size))=some (some (.agg nV.toArray),64):=by kernel_rfl
theorem aeb:nV.length=64:=by simp[nV,rh]
theorem aec (w:World):eH w.heap.size (fun _=>sQ) (fun _=>0) (fun _=>⟨#[]⟩) (w.alloc (.cells nV.toArray 175)):=by
 have hb:=aY nV w 175;have hl:=aeb;refine ⟨fun i hi j hj=>?_,fun i hi=>?_,fun i hi=>?_,fun j hj=>hb.free j (by omega),hb.lt⟩
 ·have hj':j<6:=hj;rw[hb.cell (i*6+j) (by omega)];have h1:(lq (fun _=>sQ) 8).length=48:=rh _ 8;have:=QE (fun _=>sQ) i j hi hj';have e:nV[i*6+j]? = sQ.ie[j]?:=by
   unfold nV;rw[so,nD (by omega)];exact this
  rw[gM (by omega),gM hj] at e;exact e
 ·rw[hb.cell (48+i) (by omega)];have h1:(lq (fun _=>sQ) 8).length=48:=rh _ 8;have e:nV[48+i]? = some (aa 0):=by
   unfold nV;rw[so,nF (by omega),h1,nD (by rw[Zh];omega),show 48+i-48=i by omega];exact RQ _ 8 i hi
  rw[gM (by omega)] at e;exact e
 rw[hb.cell (56+i) (by omega)];have h1:(lq (fun _=>sQ) 8).length=48:=rh _ 8;have e:nV[56+i]? = some (.string ⟨#[]⟩):=by unfold nV;rw[nF (by rw[de,h1,Zh];omega),de,h1,Zh,show 56+i-(48+8)=i by omega];exact RQ _ 8 i hi
 rw[gM (by omega)] at e;exact e
abbrev Aa (W:World) (B i:Nat) (d:dw):World:=((((((W.setCell ⟨B,i*6,none⟩ (.int .i64 d.k)).setCell ⟨B,i*6+1,none⟩ (.int .i64 d.o)).setCell ⟨B,i*6+2,none⟩ (.int .i64 d.s)).setCell ⟨B,i*6+3,none⟩ (.slice d.a d.n d.c)).setCell ⟨B,i*6+4,none⟩ (.string d.x)).setCell ⟨B,i*6+5,none⟩ (.slice d.ae d.ne d.ce))
def vw (N:Nat->dw) (i:Nat) (d:dw):Nat->dw:=fun y=>if y=i then d else N y
theorem aed (h:∀ j,j<64->∃ v,ad W B j v) {i:Nat} (hi:i<8) (d:dw) (j:Nat) (hj:j<64):(Aa W B i d).cell? ⟨B,j,none⟩=if i*6<=j/\j<i*6+6 then d.ie[j-i*6]? else W.cell? ⟨B,j,none⟩:=by
 have hs:∀ (W:World) (k:Nat) (v:Value) (m:Nat),(∃ u,ad W B m u)->(W.setCell ⟨B,k,none⟩ v).cell? ⟨B,m,none⟩=if k=m then some v else W.cell? ⟨B,m,none⟩:=by
  intro W k v m ⟨u,hu⟩;by_cases e:k=m
  ·subst e;rw[aN rfl,ov _ _ _ hu]
  rw[aM e,xl e]
 have hx:∀ (W:World) (k:Nat) (v:Value) (m:Nat),(∃ u,ad W B m u)->∃ u,(W.setCell ⟨B,k,none⟩ v).cell? ⟨B,m,none⟩=some u:=by
  intro W k v m hu;rw[hs W k v m hu];split;·exact ⟨_,rfl⟩
  exact hu
 have h0:=h j hj;have h1:=hx W (i*6) (aa d.k) j h0;have h2:=hx _ (i*6+1) (aa d.o) j h1;have h3:=hx _ (i*6+2) (aa d.s) j h2;have h4:=hx _ (i*6+3) (.slice d.a d.n d.c) j h3;have h5:=hx _ (i*6+4) (.string d.x) j h4;unfold Aa;rw[hs _ _ _ _ h5,hs _ _ _ _ h4,hs _ _ _ _ h3,hs _ _ _ _ h2,hs _ _ _ _ h1,hs _ _ _ _ h0];by_cases hc:i*6<=j/\j<i*6+6
 ·rw[aN hc];obtain ⟨m,rfl⟩:∃ m,j=i*6+m:=⟨j-i*6,by omega⟩;have hm:m<6:=by omega
  rw[show i*6+m-i*6=m by omega];rcases m with _ | _ | _ | _ | _ | _ | m;·simp[dw.ie]
  ·simp[dw.ie]
  ·simp[dw.ie]
  ·simp[dw.ie]
  ·simp[dw.ie]
  ·simp[dw.ie]
  omega
 rw[aM hc,aM (by omega),aM (by omega),aM (by omega),aM (by omega),aM (by omega),aM (by omega)]
theorem eH.any (h:eH B N F P W) (j:Nat) (hj:j<64):∃ v,ad W B j v:=by
 by_cases h1:j<48
 ·have e:j=j / 6*6+j % 6:=by omega
  rw[e];exact ⟨_,h.node (j / 6) (by omega) (j % 6) (by rw[dw.Ms];omega)⟩
 by_cases h2:j<56
 ·have:=h.uL (j-48) (by omega);rw[show 48+(j-48)=j by omega] at this;exact ⟨_,this⟩
 have:=h.rS (j-56) (by omega);rw[show 56+(j-56)=j by omega] at this;exact ⟨_,this⟩
theorem eH.GL (h:eH B N F P W) {i:Nat} (hi:i<8) (d:dw):eH B (vw N i d) F P (Aa W B i d):=by
 have hc:=aed h.any hi d;refine ⟨fun k hk j hj=>?_,fun k hk=>?_,fun k hk=>?_,fun j hj=>?_,?_⟩
 ·have hj':j<6:=hj;rw[hc (k*6+j) (by omega)];by_cases e:k=i
  ·subst e;rw[aN (by omega),show k*6+j-k*6=j by omega];simp only[vw,aN rfl] at hj ⊢;exact gM hj
  rw[aM (by omega)];simp only[vw,aM e] at hj ⊢;exact h.node k hk j hj
 ·rw[hc (48+k) (by omega),aM (by omega)];exact h.uL k hk
 ·rw[hc (56+k) (by omega),aM (by omega)];exact h.rS k hk
 ·rw[iu,iu,iu,iu,iu,iu];exact h.free j hj
 have:=h.lt;simpa [World.setCell] using this
end
section
variable {B : Nat} {N : Nat → dw} {F : Nat → Nat} {P : Nat → ByteArray} {w W W' : World} {mem : ByteArray}
def cO (mem:ByteArray) (i:Nat):Int:=bg (aj mem (i:Int))
def eo (mem:ByteArray) (i:Nat):List Int:=aD (aj mem (i:Int))
def bQ (mem:ByteArray) (i:Nat):List aB:=cP mem (i:Int)
def rm:ByteArray:=⟨#[84,78,82,49]⟩++bG 28
theorem aee:bs (bG 32) 0 ⟨#[84,78,82,49]⟩=rm:=by decide +kernel
def vz (mem:ByteArray):Bool:=(aX mem 0 32).toList == rm.toList
def kN (mem:ByteArray):Bool:=bX (fun i=>dD mem (i:Int)) 8
def cq (mem:ByteArray):Bool:=decide (mem.size=768) && (vz mem && (kN mem && ((cO mem 0 == 2) && (decide (dJ (eo mem) 8).Nodup && iz (bQ mem) (cO mem)))))
theorem aef (mem:ByteArray) (i:Nat) (h:8<=i):aj mem (i:Int)=⟨#[]⟩:=by
 unfold aj aZ aX;have h1:bp (i:Int) 0 7=false:=by simp[bp];omega
 have h2:dq mem.size (-1) 16=false:=by simp[dq]
 have h3:(if bp (i:Int) 0 7=true then 32+(i:Int)*16 else -1) = -1:=by rw[h1];rfl
 rw[h3,h2];rfl
theorem aeg:bM ⟨#[]⟩=false:=by decide +kernel
theorem aeh (mem:ByteArray) (i:Nat) (h:8<=i):cO mem i=0:=by unfold cO;rw[aef mem i h];exact (zn aeg).1
theorem JX (mem:ByteArray) (i:Int) (h:cP mem i ≠ []):bg (aj mem i)=2/\dh (jH mem i)=true/\cP mem i=eQ (jH mem i) ((jH mem i).size / 16):=by
 unfold cP at h ⊢;by_cases h2:bg (aj mem i)=2
 ·rw[aN h2] at h ⊢;unfold dy at h ⊢;cases hD:dh (jH mem i) with
  | false=>rw[hD] at h;exact absurd rfl h
  | true=>
   refine ⟨h2,rfl,?_⟩;rw[aN rfl,(wX hD).2.2.1]
 rw[aM h2] at h;exact absurd rfl h
theorem RR (mem:ByteArray) (i:Int) (e:aB) (h:e ∈ cP mem i):(0<e.1/\e.1<8)/\e.2.size<=14:=by obtain ⟨_,hD,hE⟩:=JX mem i (YY h);have rm:=(wX hD).2.2.2.2;rw[hE] at h;simp only[fZ,ca,dp] at rm;obtain ⟨k,hk,he⟩:=yQ.1 h;have h1:=(Ej (Ek rm.2 hk)).1;rw[mQ _ _ hk,he] at h1;obtain ⟨h2,h3⟩:=Ee h1;refine ⟨by omega,?_⟩;simp only[jo,ca] at h2;have:=pN h2.2.1;omega
theorem RS (mem:ByteArray) (i:Int):(cP mem i).length<=12:=by
 by_cases h:cP mem i=[]
 ·rw[h];decide
 obtain ⟨_,hD,hE⟩:=JX mem i h;have:=(wX hD).1;rw[hE,lh];omega
theorem vA (mem:ByteArray):sK (bQ mem) (cO mem):=⟨fun d h=>(JX mem d h).1,fun d e h=>(RR mem d e h).1⟩
theorem xy (mem:ByteArray) (i:Nat):(eo mem i).length<=12:=by
 unfold eo;cases h:bM (aj mem (i:Int)) with
 | true=>exact br (pQ h).2.1 (by decide)
 | false=>rw[(zn h).2.2.2];decide
structure lT (mem:ByteArray) (B:Nat) (i:Nat) (d:dw) (W:World):Prop where
 k:d.k=cO mem i
 o:d.o=bI (aj mem (i:Int))
 n:d.n=(eo mem i).length
 c:d.n<=d.c
 row:aR (B+1) W d.a (eo mem i)
 ne:d.ne=(bQ mem i).length
 ce:d.ne<=d.ce
 Aw:cU (B+1) W d.ae (bQ mem i)
 x:d.x=qg mem (i:Int)
theorem lT.below {i:Nat} {d:dw} (h:lT mem B i d W) (hb:ah W W'):lT mem B i d W':=⟨h.k,h.o,h.n,h.c,h.row.below hb,h.ne,h.ce,h.Aw.below hb,h.x⟩
theorem lT.set {i:Nat} {d:dw} (h:lT mem B i d W) (j:Nat) (v:Value):lT mem B i d (W.setCell ⟨B,j,none⟩ v):=⟨h.k,h.o,h.n,h.c,h.row.set (cm B) j v,h.ne,h.ce,gA h.Aw (cm B) j v,h.x⟩
theorem lT.GL {i:Nat} {d:dw} (h:lT mem B i d W) (j:Nat) (u:dw):lT mem B i d (Aa W B j u):=(((((h.set _ _).set _ _).set _ _).set _ _).set _ _).set _ _
theorem aei {a:Option Addr} {zs:List Int} (h:aR (B+1) w a zs) (hg:w.grownBy W (some B)):aR (B+1) W a zs:=h.imp id fun ⟨g,e,hb,hk⟩=>⟨g,e,hb,Jz hk hg (by omega)⟩
theorem aej {a:Option Addr} {es:List aB} (h:cU (B+1) w a es) (hg:w.grownBy W (some B)):cU (B+1) W a es:=by refine h.imp id fun ⟨g,e,hb,hk⟩=>⟨g,e,hb,?_⟩;have hc:∀ x,W.cell? ⟨g,x,none⟩=w.cell? ⟨g,x,none⟩:=fun x=>mv (a:=⟨g,x,none⟩) (hg.block g hk.lt (by simp;omega));have hf:∀ x,W.frozen? ⟨g,x,none⟩=w.frozen? ⟨g,x,none⟩:=fun x=>yY (a:=⟨g,x,none⟩) (hg.block g hk.lt (by simp;omega));exact ⟨fun j hj=>by rw[hc,hc];exact hk.done j hj,fun j hj=>by rw[hc];exact hk.there j hj,fun j hj=>by rw[hf];exact hk.free j hj,cv hk.lt hg.size⟩
theorem lT.gr {i:Nat} {d:dw} (h:lT mem B i d w) (hg:w.grownBy W (some B)):lT mem B i d W:=⟨h.k,h.o,h.n,h.c,aei h.row hg,h.ne,h.ce,aej h.Aw hg,h.x⟩
structure km (mem:ByteArray) (w:World) (k:Nat) (N:Nat->dw) (W:World):Prop where
 tb:eH w.heap.size N (fun _=>0) (fun _=>⟨#[]⟩) W
 nd:∀ i,i<k->lT mem w.heap.size i (N i) W
 H4:∀ i,k<=i->N i=sQ
 au:ah w W
theorem km.below {k:Nat} (h:km mem w k N W) (hb:ah W W'):km mem w k N W':=⟨h.tb.below hb h.tb.lt,fun i hi=>(h.nd i hi).below hb,h.H4,h.au.trans (hb.mono h.au.size)⟩
theorem km.drew {k:Nat} (h:km mem w k N W):km mem w k N W.drew:=⟨h.tb.drew,fun i hi=>(h.nd i hi).below ((aQ _ _).drew),h.H4,h.au.drew⟩
theorem aek (mem:ByteArray) (w:World):km mem w 0 (fun _=>sQ) (w.alloc (.cells nV.toArray 175)):=⟨aec w,fun i hi=>by omega,fun i _=>rfl,aA w _⟩
theorem km.step {k:Nat} {d:dw} (h:km mem w k N W) (hk:k<8) (hd:lT mem w.heap.size k d W):km mem w (k+1) (vw N k d) (Aa W w.heap.size k d):=by
 refine ⟨h.tb.GL hk d,fun i hi=>?_,fun i hi=>?_,?_⟩
 ·by_cases e:i=k
  ·subst e;simp only[vw,aN rfl];exact hd.GL i d
  simp only[vw,aM e];exact (h.nd i (by omega)).GL k d
 ·simp only[vw,aM (show ¬ i=k by omega)];exact h.H4 i (by omega)
 exact (((((h.au.setCell (p:=⟨w.heap.size,k*6,none⟩) (av _) _).setCell (p:=⟨w.heap.size,k*6+1,none⟩) (av _) _).setCell (p:=⟨w.heap.size,k*6+2,none⟩) (av _) _).setCell (p:=⟨w.heap.size,k*6+3,none⟩) (av _) _).setCell (p:=⟨w.heap.size,k*6+4,none⟩) (av _) _).setCell (p:=⟨w.heap.size,k*6+5,none⟩) (av _) _
theorem km.kinds (h:km mem w 8 N W):(fun i=>(N i).k)=cO mem:=by
 funext i
 by_cases hi:i<8;·exact (h.nd i hi).k
 rw[h.H4 i (by omega),aeh mem i (by omega)];rfl
theorem km.ns (h:km mem w 8 N W):Cg w.heap.size N (bQ mem) W:=⟨fun i hi=>(h.nd i hi).ne,fun i hi=>(h.nd i hi).Aw,by rw[h.kinds];exact vA mem,fun i=>RS mem i,fun i e he=>(RR mem i e he).2⟩
theorem km.ps (h:km mem w 8 N W):FJ N (eo mem) W:=⟨fun i hi=>(h.nd i hi).n,fun i hi=>(h.nd i hi).row.row,xy mem⟩
structure qh (mem:ByteArray) (B:Nat) (N:Nat->dw) (F:Nat->Nat) (P:Nat->ByteArray) (W:World):Prop where
 tb:eH B N F P W
 nd:∀ i,i<8->lT mem B i (N i) W
 inv:fS (bQ mem) (cO mem) [] F P
theorem qh.below (h:qh mem B N F P W) (hb:ah W W'):qh mem B N F P W':=⟨h.tb.below hb h.tb.lt,fun i hi=>(h.nd i hi).below hb,h.inv⟩
theorem qh.ps (h:qh mem B N F P W):FJ N (eo mem) W:=⟨fun i hi=>(h.nd i hi).n,fun i hi=>(h.nd i hi).row.row,xy mem⟩
def Cx (mem:ByteArray) (w:World) (e:Ending) (w':World):Prop:=∃ p,e=.returned (.tuple #[.pointer p,.bool (cq mem)])/\ah w w'/\(cq mem=true->∃ B N F P,p=some ⟨B,0,none⟩/\w.heap.size<=B/\qh mem B N F P w')
theorem ael {mem:ByteArray} {w w':World} {p:Option Addr} (h:cq mem=false) (hb:ah w w'):Cx mem w (.returned (.tuple #[.pointer p,.bool false])) w':=⟨p,by rw[h],hb,fun h'=>by rw[h] at h';cases h'⟩
theorem aem {mem:ByteArray} {w w':World} (h:cq mem=true) (hb:ah w w') (hB:w.heap.size<=B) (hg:qh mem B N F P w'):Cx mem w (.returned (.tuple #[ao B 0,.bool true])) w':=⟨_,by rw[h],hb,fun _=>⟨B,N,F,P,rfl,hB,hg⟩⟩
end
section
variable {w W W' : World} {mem : ByteArray}
theorem RT {ops:Array Oper} {rest:List Oper} {o:Oper} {A:Act} {Q:Exit->Act->World->Prop} {base g n cap:Nat} {xs:List Value} (T e:TypeId) (z:Value) (bytes:Nat) (hu:prog.underlying T=some (.slice e)) (hinfo:(prog.info? e).map (fun i=>(i.zero,i.size,i.bytes))=some (some z,1,bytes)) (hzc:z.cells.size=1) (hby:bytes<=16) (hgd:o.guard=none) (sl y:Operand) (ho:o.op=.call { callee:=.builtin .append,args:=#[sl,y],argTypes:=#[T,T] }) (hbuf:w.ownsRow base e 1 (aH g n cap) n xs) (v:Value) (hv:v.oneCell'=true) (hs:A.eval sl=aH g n cap) {H:Nat} (hH:w.heap.size=H) (hx:A.eval y=aH H 1 1) (hlen:n+1<=1048576) (hb:base<=w.heap.size) (h:∀ g' cap' w',w'.ownsRow base e 1 (aH g' (n+1) cap') (n+1) (xs ++ [v])->w.grownBy w' (some g)->(g'=g\/w.heap.size<=g')->wpList prog ops Q rest (A.put o.dst (aH g' (n+1) cap')) w'):wpList prog ops Q (o :: rest) A (w.alloc (.cells #[v] e)):=by
 subst hH;obtain ⟨i0,hi,hz0,hz1,hz2⟩:=iv hinfo;have hb2:=hbuf.alloc (.cells #[v] e);have hone:∀ u ∈ [v],u.oneCell'=true:=by intro u hu;simp at hu;subst hu;exact hv
 have hbb:(n+1)*bytes<=140737488355328:=br (Nat.mul_le_mul hlen hby) (by decide);refine qG _ hgd sl y T ho base e i0 z 1 bytes hu hi hz0 hz1 hz2 hzc (by omega) _ n _ hs hb2 ⟨w.heap.size,0,none⟩ 1 1 [v] hx rfl (uU (nA w _)) hone (by omega) (by unfold maxLen;omega) hbb (by simp;omega) _ rfl ?_;intro g' cap' w' ho' hg' hl' _;refine h g' cap' w' ho' ((qK w _ _).trans hg') ?_;rcases hl' with q | q
 ·left;have e':g=g':=by simpa [Value.ownBlock] using q
  exact e'.symm
 right;rw[q];simp
theorem aen:(prog.info? 9).map (fun i=>(i.zero,i.size,i.bytes))=some (some (.string ⟨#[]⟩),1,16):=by kernel_rfl
theorem RU {base g n cap:Nat} {e:TypeId} {xs:List Value} (h:w.ownsRow base e 1 (aH g n cap) n xs):az g xs w:=by
 have hl:xs.length=n:=by have:=h.1;omega
 refine ⟨fun j hj=>?_,fun j hj=>h.frozenAt j,(h.lt g rfl).2⟩;rw[h.cellAt j (by omega),gM hj]
def rn (l:List (Nat × aB)):List Value:=(List.range 8).map fun (x:Nat)=>.int .i64 (dP l (x:Int))
def rp (l:List (Nat × aB)):List Value:=(List.range 8).map fun (x:Nat)=>.string (sF l (x:Int))
theorem RV (l:List (Nat × aB)):(rn l).length=8:=by simp[rn]
theorem RW (l:List (Nat × aB)):(rp l).length=8:=by simp[rp]
theorem JY {f:Nat->Value} {x:Nat} (v:Value) (hx:x<8):((List.range 8).map f).set x v=(List.range 8).map fun y=>if y=x then v else f y:=by
 apply List.ext_getElem;·simp
 intro k h1 h2;have hk:k<8:=by simpa using h1
 rw[Y3];by_cases e:x=k
 ·subst e;simp
 have e':¬ k=x:=fun q=>e q.symm;simp[e,e']
theorem aeo {l:List (Nat × aB)} {i x:Nat} {nm:ByteArray} (hx:x<8) (h:dP l (x:Int) = -1):(rn l).set x (aa (i:Int))=rn (l ++ [(i,((x:Int),nm))]):=by
 unfold rn;rw[JY _ hx];apply Ow;intro y _;rw[Qf];by_cases e:y=x
 ·subst e;rw[aN rfl,aN rfl,aN h]
 have:¬ ((x:Int)=(y:Int)):=by omega
 rw[aM e,aM this]
theorem aep {l:List (Nat × aB)} {i x:Nat} {nm:ByteArray} (hx:x<8) (h:¬ dP l (x:Int) = -1):(rn l).set x (aa (-2))=rn (l ++ [(i,((x:Int),nm))]):=by
 unfold rn;rw[JY _ hx];apply Ow;intro y _;rw[Qf];by_cases e:y=x
 ·subst e;rw[aN rfl,aN rfl,aM h]
 have:¬ ((x:Int)=(y:Int)):=by omega
 rw[aM e,aM this]
theorem aeq {l:List (Nat × aB)} {i x:Nat} {nm:ByteArray} (hx:x<8) (h:dP l (x:Int) = -1):(rp l).set x (.string nm)=rp (l ++ [(i,((x:Int),nm))]):=by
 unfold rp;rw[JY _ hx];apply Ow;intro y _;rw[Qg];by_cases e:y=x
 ·subst e;rw[aN rfl,aN ⟨rfl,h⟩]
 have:¬ ((x:Int)=(y:Int)/\dP l (y:Int) = -1):=fun q=>by have:=q.1;omega
 rw[aM e,aM this]
theorem aer {l:List (Nat × aB)} {i x:Nat} {nm:ByteArray} (h:¬ dP l (x:Int) = -1):rp l=rp (l ++ [(i,((x:Int),nm))]):=by
 unfold rp;apply Ow;intro y _;rw[Qg];have:¬ ((x:Int)=(y:Int)/\dP l (y:Int) = -1):=fun q=>by
  have e:x=y:=by have:=q.1;omega
  subst e;exact h q.2
 rw[aM this]
theorem aes:rn []=List.replicate 8 (aa (-1)):=rfl
theorem aet:rp []=List.replicate 8 (.string ⟨#[]⟩):=rfl
theorem xz {a b:Bool} (h:a=b):Ending.returned (.bool a)=.returned (.bool b):=by rw[h]
theorem aeu (p:Int->Int) (g c:Nat) (i:Int) (w:World) (hp:∀ x,p x<8) (hB:∀ x:Nat,x<8->ad w g x (aa (p (x:Int)))) (hi:i<8):Calls prog 176 #[aH g 8 c,aa i] w (el (.bool (gT p 8 i)) w):=by
 go_enter func176,ntmps176;go_wp2;go_loop [1,5] (fun v n=>∃ (k:Nat) (j:Int),k<=8/\n=aa k/\v=aa j/\j<8/\gT p (8-k) j=gT p 8 i) (fun _ n=>8-(intOf n).toNat)
 case atStart=>exact ⟨0,i,bh _,rfl,rfl,hi,rfl⟩
 case round=>
 obtain ⟨k,j,hk,rfl,rfl,hj,hr⟩:=hrel;have HR:Hid (gT p (8-k) j=gT p 8 i):=hr;clear hr;by_cases hlt:k<8
 ·have e1:(k:Int)<8:=by omega
  by_cases h0:j=0
  ·subst h0;go_wp2;go_ret;exact ⟨xz (by rw[<- HR.out,Qh]),rfl⟩
  have h0':(j == 0)=false:=by simpa using h0
  by_cases hn:j<0
  ·go_wp2;go_ret;exact ⟨xz (by rw[<- HR.out,BS _ _ _ hn]),rfl⟩
  obtain ⟨x,rfl⟩:∃ x:Nat,j=(x:Int):=⟨j.toNat,by omega⟩;have hc:=hB x (by omega);have hn':decide ((x:Int)<0)=false:=by simp
  have b1:(0:Int)<=(x:Int):=by omega
  have b2:(x:Int)<8:=by omega
  have hq:=hp (x:Int);have HS:Hid (gT p (8-(k+1)) (p (x:Int))=gT p 8 i):=by
   show _=_
   rw[<- HR.out,show 8-k=(8-(k+1))+1 by omega,BV _ _ _ (by omega)]
  obtain ⟨q,eq⟩:∃ q,p (x:Int)=q:=⟨_,rfl⟩;rw[eq] at hc hq HS;clear eq hB hp;go_wp2;go_round;case rel=>exact ⟨k+1,q,by omega,by go_num,rfl,hq,HS.out⟩
  case measure=>simp[intOf];omega
 obtain rfl:k=8:=by omega
 have hfin:(j == 0)=gT p 8 i:=by rw[<- HR.out];rfl
 clear HR;obtain ⟨r,er⟩:∃ r,gT p 8 i=r:=⟨_,rfl⟩;rw[er] at hfin;have HE:Hid (gT p 8 i=r):=er;clear er;go_wp2;go_ret;exact ⟨xz HE.out.symm,rfl⟩
theorem RX (mem:ByteArray) (w:World) (hms:mem.size<=281474976710656):Calls prog 129 #[.string mem] w fun e w'=>∃ a c,e=.returned (.slice a (dJ (eo mem) 8).length c)/\(dJ (eo mem) 8).length<=c/\aR w.heap.size w' a (dJ (eo mem) 8)/\ah w w':=by
 have hG:Hid (∀ (k:Nat) W,Calls prog 128 #[.string (aj mem (k:Int))] W (gR (aj mem (k:Int)) W)):=fun k W=>I6 _ W (vg mem _ hms);have hA:Hid (∀ (k:Nat) W e w',gR (aj mem (k:Int)) W e w'->∃ (q o s:Int) (a:Option Addr) (c:Nat) (b:Bool),e=.returned (.tuple #[.agg (bj q o s a (eo mem k).length c),.bool b])/\aR W.heap.size w' a (eo mem k)/\ah W w'):=fun k W e w' ⟨a,c,he,ho,hc,hb⟩=>⟨_,_,_,a,c,_,he,ho,hb⟩;have hL:Hid (∀ (k:Nat) W,_):=fun k W=>ES mem k W hms;have hlen:=xp (xy mem);have b0:=lP (base:=w.heap.size) w (av _);have l0:=aA w (.cells #[] 3);go_enter func129,ntmps129;go_wp2;go_loopw [3,4] (fun v i w'=>∃ (k n c:Nat) (a:Option Addr),k<=8/\i=aa k/\v=.slice a n c/\bH w.heap.size w' a n c (dJ (eo mem) k)/\ah w w') (fun _ i _=>8-(intOf i).toNat);case atStart=>exact ⟨0,0,0,_,bh _,rfl,rfl,b0,l0⟩
 case round=>
 obtain ⟨k,n,c,a,hk,rfl,rfl,hbuf,hbel⟩:=hrel;clear b0 l0;by_cases hlt:k<8
 ·have e1:(k:Int)<8:=by omega
  have HS:Hid (dJ (eo mem) k++eo mem k=dJ (eo mem) (k+1)):=rfl;have hnl:n<=96:=by have:=hlen k;rw[hbuf.1];omega
  have GG:=xy mem k;have hLk:=hL.out k;have pw:=hG.out k;have hAk:Hid (∀ W e w',gR (aj mem (k:Int)) W e w'->∃ (q o s:Int) (a:Option Addr) (c:Nat) (b:Bool),e=.returned (.tuple #[.agg (bj q o s a (eo mem k).length c),.bool b])/\aR W.heap.size w' a (eo mem k)/\ah W w'):=hA.out k;obtain ⟨zk,Dv⟩:∃ zk,eo mem k=zk:=⟨_,rfl⟩;obtain ⟨rk,Di⟩:∃ rk,aj mem (k:Int)=rk:=⟨_,rfl⟩;rw[Dv] at HS GG hAk;rw[Di] at hLk pw hAk;clear Dv Di hL hG hA;go_wp2_with (first
   | (go_at_call 83;refine (hLk _).mono ?_;rintro e wq ⟨rfl,rfl⟩)
   | (go_at_call 128;refine (pw _).mono ?_;intro e w2 hans;obtain ⟨q,o,s,a2,c2,bb,rfl,o2,b2⟩:=hAk.out _ _ _ hans;clear hans;have n2:=aA w2 (.cells (bj q o s a2 zk.length c2) 35);have y3:=(aY [aa q,aa o,aa s,.slice a2 zk.length c2] w2 35).c3;have tB:=(hbuf.below b2).below n2;have r2:=(o2.row.below n2);have l2:=(hbel.trans (b2.mono hbel.size)).trans (n2.mono (br hbel.size b2.size)))
   | (at_builtin;refine tQ rfl (.tmp 19) (.tmp 21) rfl tB _ _ zk (by rfl) (by rfl) r2 (by omega) l2.size ?_;intro a3 c3 w3 vU b3))
  go_roundw;case rel=>exact ⟨k+1,n+zk.length,c3,a3,by omega,by go_num,rfl,by rw[<- HS.out];exact vU,l2.trans b3⟩
  case measure=>simp[intOf];omega
 obtain rfl:k=8:=by omega
 have hn:n=(dJ (eo mem) 8).length:=hbuf.1;subst hn;go_wp2;go_ret;exact ⟨a,c,rfl,hbuf.fits,hbuf.own,hbel⟩
end
section
variable {w W W' : World} {mem : ByteArray}
structure FU (w:World) (k g1 c1 g2 c2:Nat) (W:World):Prop where
 o1:W.ownsRow w.heap.size 3 1 (.slice (some ⟨g1,0,none⟩) k c1) k (List.replicate k (.int .i64 (-1)))
 o2:W.ownsRow w.heap.size 9 1 (.slice (some ⟨g2,0,none⟩) k c2) k (List.replicate k (.string ⟨#[]⟩))
 ne:g1≠g2
 au:ah w W
theorem aev (w:World):FU w 0 w.heap.size 0 (w.heap.size+1) 0 ((w.alloc (.cells #[] 3)).alloc (.cells #[] 9)):=by have h2:=uT (base:=w.heap.size) (e:=9) (size:=1) (w.alloc (.cells #[] 3)) #[] 0 (by simp) (bh _) rfl;rw[Ir] at h2;exact ⟨(uT w #[] 0 (av _) (bh _) rfl).alloc _,h2,by omega,((aQ _ _).alloc (av _) _).alloc (by simp) _⟩
structure fD (w:World) (g1 g2:Nat) (l:List (Nat × aB)) (W:World):Prop where
 b1:az g1 (rn l) W
 b2:az g2 (rp l) W
 ne:g1≠g2
 lo:w.heap.size<=g1/\w.heap.size<=g2
 au:ah w W
variable {g1 g2 : Nat} {l : List (Nat × aB)}
theorem fD.below (h:fD w g1 g2 l W) (hb:ah W W'):fD w g1 g2 l W':=⟨h.b1.below hb,h.b2.below hb,h.ne,h.lo,h.au.trans (hb.mono h.au.size)⟩
theorem fD.drew (h:fD w g1 g2 l W):fD w g1 g2 l W.drew:=⟨h.b1.drew,h.b2.drew,h.ne,h.lo,h.au.drew⟩
theorem fD.drewN (h:fD w g1 g2 l W) (n:Nat):fD w g1 g2 l (W.drewN n):=⟨h.b1.drewN n,h.b2.drewN n,h.ne,h.lo,gy h.au n⟩
theorem FU.pr {c1 c2:Nat} (h:FU w 8 g1 c1 g2 c2 W):fD w g1 g2 [] W:=by
 refine ⟨?_,?_,h.ne,⟨(h.o1.lt g1 rfl).1,(h.o2.lt g2 rfl).1⟩,h.au⟩
 ·rw[aes];exact RU h.o1
 rw[aet];exact RU h.o2
theorem fD.par (h:fD w g1 g2 l W) {x:Nat} (hx:x<8):W.cell? ⟨g1,x,none⟩=some (.int .i64 (dP l (x:Int))):=by rw[h.b1.cell x (by rw[RV];exact hx)];simp[rn]
theorem fD.nam (h:fD w g1 g2 l W) {x:Nat} (hx:x<8):W.cell? ⟨g2,x,none⟩=some (.string (sF l (x:Int))):=by rw[h.b2.cell x (by rw[RW];exact hx)];simp[rp]
theorem fD.first (h:fD w g1 g2 l W) {i x:Nat} {nm:ByteArray} (hx:x<8) (hp:dP l (x:Int) = -1):fD w g1 g2 (l ++ [(i,((x:Int),nm))]) ((W.setCell ⟨g1,x,none⟩ (aa (i:Int))).setCell ⟨g2,x,none⟩ (.string nm)):=by
 refine ⟨?_,?_,h.ne,h.lo,(h.au.setCell (p:=⟨g1,x,none⟩) h.lo.1 _).setCell (p:=⟨g2,x,none⟩) h.lo.2 _⟩
 ·rw[<- aeo hx hp];exact (h.b1.set x _).aP h.ne.symm x _
 ·rw[<- aeq hx hp];exact (h.b2.aP h.ne x _).set x _
theorem fD.more (h:fD w g1 g2 l W) {i x:Nat} {nm:ByteArray} (hx:x<8) (hp:¬ dP l (x:Int) = -1):fD w g1 g2 (l ++ [(i,((x:Int),nm))]) (W.setCell ⟨g1,x,none⟩ (aa (-2))):=by
 refine ⟨?_,?_,h.ne,h.lo,h.au.setCell (p:=⟨g1,x,none⟩) h.lo.1 _⟩
 ·rw[<- aep hx hp];exact h.b1.set x _
 rw[<- aer hp];exact h.b2.aP h.ne x _
theorem JZ (hm:mem.size=768) (i:Int):bO mem i=bg (aj mem i):=by
 unfold bO;cases h:cI mem i with
 | true=>rfl
 | false=>
  unfold cI at h;rw[bK hm,fJ] at h;cases hI:bM (aj mem i) with
  | false=>rw[(zn hI).1];rfl
  | true=>
   rw[hI,fJ] at h;have h0:aW (aj mem i) 0=0:=by simpa using h
   rw[(zp hI).1,h0];rfl
theorem aew (hm:mem.size=768) (i:Int) (h2:bg (aj mem i)=2):dj mem i=jH mem i:=by
 have h:=JZ hm i;rw[h2] at h;cases hL:cI mem i with
 | false=>rw[(I8 hL).1] at h;exact absurd h (by decide)
 | true=>exact (I9 hL).2.2.2.2
def Cy (mem:ByteArray) (w:World) (e:Ending) (w':World):Prop:=∃ a1 c1 a2 c2,e=.returned (.tuple #[.slice a1 8 c1,.slice a2 8 c2,.bool (kN mem)])/\ah w w'/\(kN mem=true->∃ g1 g2,a1=some ⟨g1,0,none⟩/\a2=some ⟨g2,0,none⟩/\fD w g1 g2 (cK (bQ mem) 8) w')
theorem aex (mem:ByteArray) (w:World) (hm:mem.size=768):Calls prog 175 #[.string mem] w (Cy mem w):=by
 have hms:mem.size<=281474976710656:=by omega
 have HN:Hid (∀ g1 c1 g2 c2 w',kN mem=false->ah w w'->Cy mem w (.returned (.tuple #[aH g1 8 c1,aH g2 8 c2,.bool false])) w'):=fun g1 c1 g2 c2 w' h hb=>⟨_,_,_,_,by rw[h],hb,fun h'=>by rw[h] at h';cases h'⟩;have HY:Hid (∀ g1 c1 g2 c2 w',kN mem=true->fD w g1 g2 (cK (bQ mem) 8) w'->Cy mem w (.returned (.tuple #[aH g1 8 c1,aH g2 8 c2,.bool true])) w'):=fun g1 c1 g2 c2 w' h hp=>⟨_,_,_,_,by rw[h],hp.au,fun _=>⟨g1,g2,rfl,rfl,hp⟩⟩;have t0:=aev w;obtain ⟨R,hR⟩:∃ R,Cy mem w=R:=⟨_,rfl⟩;rw[hR] at HN HY ⊢;clear hR;go_enter func175,ntmps175;go_wp2;go_loopw [5,6,7] (fun v u i w'=>∃ (k g1 c1 g2 c2:Nat),k<=8/\i=aa k/\v=aH g1 k c1/\u=aH g2 k c2/\FU w k g1 c1 g2 c2 w') (fun _ _ i _=>8-(intOf i).toNat);case atStart=>exact ⟨0,_,_,_,_,bh _,rfl,rfl,rfl,t0⟩
 case round=>
 obtain ⟨k,g1,c1,g2,c2,hk,rfl,rfl,rfl,tw⟩:=hrel;clear t0;by_cases hlt:k<8
 ·have e1:(k:Int)<8:=by omega
  have hg1:=tw.o1.lt g1 rfl;have hg2:=tw.o2.lt g2 rfl;have HG:Hid ((w.heap.size<=g1/\g1<wr.heap.size)/\(w.heap.size<=g2/\g2<wr.heap.size)):=⟨hg1,hg2⟩;clear hg1 hg2;go_wp2_with (first
   | (at_builtin;refine RT 218 9 (.string ⟨#[]⟩) 16 underlying218 aen rfl (by decide) rfl (.tmp 26) (.tmp 27) rfl Dd (.string ⟨#[]⟩) rfl (by rfl) rfl (by rfl) (by omega) l2.size ?_;intro g4 c4 w4 o4 Vi q4)
   | (at_builtin;refine RT 29 3 (aa 0) 8 underlying29 vc rfl (by decide) rfl (.tmp 23) (.tmp 24) rfl tw.o1 (aa (-1)) rfl (by rfl) rfl (by rfl) (by omega) tw.au.size ?_;intro g3 c3 w3 o3 qC q3;have Dd:=tw.o2.kept qC (Or.inr (by simpa [Value.ownBlock] using tw.ne.symm));have l2:=tw.au.trans (xn qC (HG.out.1.1) tw.au.size)))
  have hG:=HG.out;have vR:=o3.kept Vi (Or.inr (by
   simp only[Value.ownBlock,eZ,Option.some.injEq];rcases q3 with e | e
   ·rw[e];exact tw.ne
   omega))
  go_roundw;case rel=>
   refine ⟨k+1,g3,c3,g4,c4,by omega,by go_num,rfl,rfl,⟨by rw[List.replicate_succ'];exact vR,by rw[List.replicate_succ'];exact o4,?_,l2.trans (xn Vi hG.2.1 l2.size)⟩⟩;have h3:=(o3.lt g3 rfl).2;rcases q3 with e | e <;> rcases q4 with e' | e'
   ·rw[e,e'];exact tw.ne
   ·omega
   ·omega
   omega
  case measure=>simp[intOf];omega
 obtain rfl:k=8:=by omega
 have p0:=tw.pr;clear tw;go_wp2;go_loopg [8] 8 (fun gk i W=>∃ k:Nat,k+gk=8/\i=aa k/\bX (fun i=>dD mem (i:Int)) k=true/\fD w g1 g2 (cK (bQ mem) k) W)
 case atStart=>exact ⟨0,rfl,rfl,rfl,p0⟩
 case round=>
 obtain ⟨k,hk',rfl,hok,pr⟩:=hrel;obtain ⟨go,rfl⟩:∃ go,go=gk:=⟨_,rfl⟩;clear p0;by_cases hlt2:k<8
 ·have e1:(k:Int)<8:=by omega
  have hLk:Hid (∀ W,_):=fun W=>ES mem k W hms;have pw:Hid (∀ W,Calls prog 128 #[.string (aj mem (k:Int))] W fun e w'=>∃ (q o s:Int) (a:Option Addr) (n c:Nat),e=.returned (.tuple #[.agg (bj q o s a n c),.bool (bM (aj mem (k:Int)))])/\ah W w'):=fun W=>(I6 _ W (vg mem _ hms)).mono fun e w' ⟨a,c,he,ho,hc,hb⟩=>⟨_,_,_,a,_,c,he,hb⟩;have hcase:=Jp mem (k:Int);have hLo:Hid (∀ W,Calls prog 80 #[.string mem,aa (k:Int)] W fun e w'=>∃ (o s:Int) (a:Option Addr) (n c:Nat) (bb:Bool),e=.returned (.tuple #[.agg (bj (bg (aj mem (k:Int))) o s a n c),.string (dj mem (k:Int)),.bool bb])/\ah W w'):=fun W=>(Fw mem (k:Int) W hms).mono fun e w' ⟨a,c,he,ho,hc,hb⟩=>⟨_,_,a,_,c,_,by rw[<- JZ hm];exact he,hb⟩;have yG:=fun h=>aew hm (k:Int) h;have Dn:bQ mem k=cP mem (k:Int):=rfl;have hfl:cK (bQ mem) (k+1)=cK (bQ mem) k++(bQ mem k).map fun e=>(k,e):=rfl;obtain ⟨rk,Di⟩:∃ rk,aj mem (k:Int)=rk:=⟨_,rfl⟩;rw[Di] at hLk pw hcase hLo yG;obtain ⟨K,hK⟩:∃ K,bg rk=K:=⟨_,rfl⟩;rw[hK] at hcase hLo yG;obtain ⟨ld,hld⟩:∃ ld,dj mem (k:Int)=ld:=⟨_,rfl⟩;rw[hld] at hLo yG;have HBAD:Hid (dD mem (k:Int)=false->kN mem=false):=fun h=>qP hlt2 h;have pG:Hid (dD mem (k:Int)=true->bX (fun i=>dD mem (i:Int)) (k+1)=true):=fun h=>qQ hok h;clear Di hK hld hok;rcases hcase with ⟨gI,hp⟩ | ⟨gI,g2',hp,hE⟩ | ⟨gI,g2',hp,hE⟩
  ·rw[gI] at pw;have HB2:Hid (kN mem=false):=HBAD.out hp;clear gI hp pG yG Dn hfl;go_wp2_with (first
    | (go_at_call 83;refine (hLk.out _).mono ?_;rintro e wq ⟨rfl,rfl⟩)
    | (go_at_call 128;refine (pw.out _).mono ?_;rintro e w2 ⟨q,o,s,a,n,c,rfl,b2⟩;have l2:=(pr.below b2).au.alloc (pr.below b2).au.size (.cells (bj q o s a n c) 35)))
   exact HN.out _ _ _ _ _ HB2.out l2
  ·rw[gI] at pw;have HO:Hid (bX (fun i=>dD mem (i:Int)) (k+1)=true):=pG.out hp;have HFL:Hid (cK (bQ mem) (k+1)=cK (bQ mem) k):=by
    show _=_
    rw[hfl,Dn,hE];simp
   clear gI hp HBAD yG Dn hfl hE;go_wp2_with (first
    | (go_at_call 83;refine (hLk.out _).mono ?_;rintro e wq ⟨rfl,rfl⟩)
    | (go_at_call 128;refine (pw.out _).mono ?_;rintro e w2 ⟨q,o,s,a,n,c,rfl,b2⟩;have p2:=(pr.below b2).below (aA w2 (.cells (bj q o s a n c) 35)))
    | (go_at_call 80;refine (hLo.out _).mono ?_;rintro e w3 ⟨o3,s3,a3,n3,c3,bb3,rfl,b3⟩;have p3:=(p2.below b3).below (aA w3 (.cells (bj K o3 s3 a3 n3 c3) 35));have y0:=(aY [aa K,aa o3,aa s3,.slice a3 n3 c3] w3 35).c0))
   go_roundg (go-1)
   case measure=>omega
   case rel=>exact ⟨k+1,by omega,by go_num,HO.out,by rw[HFL.out];exact p3⟩
  rw[gI] at pw;have hK2:K=2:=by simpa using g2'
  subst hK2;have hdd:=yG rfl;subst hdd;have XL:=Jq mem (k:Int) hm;have Ay:Hid (∀ W,Calls prog 228 #[.string (jH mem (k:Int))] W fun e w'=>∃ a c,e=.returned (.tuple #[.slice a (bQ mem k).length c,.bool (dD mem (k:Int))])/\cU W.heap.size w' a (bQ mem k)/\ah W w'):=fun W=>by rw[hp,Dn,hE];exact (aaV _ W XL).mono fun e w' ⟨a,c,he,ho,hc,hb⟩=>⟨a,c,he,ho,hb⟩
  obtain ⟨dd,hdd⟩:∃ dd,jH mem (k:Int)=dd:=⟨_,rfl⟩;rw[hdd] at Ay hLo;clear gI g2' hp hE Dn yG hdd XL;cases hnk:dD mem (k:Int) with
  | false=>
   rw[hnk] at Ay;have HB2:Hid (kN mem=false):=HBAD.out hnk;clear pG HBAD hnk hfl;go_wp2_with (first
    | (go_at_call 83;refine (hLk.out _).mono ?_;rintro e wq ⟨rfl,rfl⟩)
    | (go_at_call 128;refine (pw.out _).mono ?_;rintro e w2 ⟨q,o,s,a,n,c,rfl,b2⟩;have p2:=(pr.below b2).below (aA w2 (.cells (bj q o s a n c) 35)))
    | (go_at_call 80;refine (hLo.out _).mono ?_;rintro e w3 ⟨o3,s3,a3,n3,c3,bb3,rfl,b3⟩;have p3:=(p2.below b3).below (aA w3 (.cells (bj 2 o3 s3 a3 n3 c3) 35));have y0:=(aY [aa 2,aa o3,aa s3,.slice a3 n3 c3] w3 35).c0)
    | (go_at_call 228;refine (Ay.out _).mono ?_;rintro e w4 ⟨a4,c4,rfl,o4,b4⟩;have p4:=p3.below b4))
   exact HN.out _ _ _ _ _ HB2.out p4.au
  | true=>
   rw[hnk] at Ay;have HO:Hid (bX (fun i=>dD mem (i:Int)) (k+1)=true):=pG.out hnk;clear pG HBAD hnk;go_wp2_with (first
    | (go_at_call 83;refine (hLk.out _).mono ?_;rintro e wq ⟨rfl,rfl⟩)
    | (go_at_call 128;refine (pw.out _).mono ?_;rintro e w2 ⟨q,o,s,a,n,c,rfl,b2⟩;have p2:=(pr.below b2).below (aA w2 (.cells (bj q o s a n c) 35)))
    | (go_at_call 80;refine (hLo.out _).mono ?_;rintro e w3 ⟨o3,s3,a3,n3,c3,bb3,rfl,b3⟩;have p3:=(p2.below b3).below (aA w3 (.cells (bj 2 o3 s3 a3 n3 c3) 35));have y0:=(aY [aa 2,aa o3,aa s3,.slice a3 n3 c3] w3 35).c0)
    | (go_at_call 228;refine (Ay.out _).mono ?_;rintro e w4 ⟨a4,c4,rfl,o4,b4⟩;have p4:=p3.below b4;have Ny:=p3.b1.lt;have WN:=p3.b2.lt))
   obtain ⟨B0,hB0⟩:∃ B0,(w3.alloc (.cells (bj 2 o3 s3 a3 n3 c3) 35)).heap.size=B0:=⟨_,rfl⟩;rw[hB0] at o4 Ny WN;clear y0 p3 p2 b2 b3 b4 hB0 Ay hLo pw hLk pr;have pp:fD w g1 g2 (mx (bQ mem) k 0) w4:=by rw[abw];exact p4
   go_loopg [16] (bQ mem k).length (fun gj i W=>∃ j:Nat,j+gj=(bQ mem k).length/\i=aa j/\fD w g1 g2 (mx (bQ mem) k j) W/\cU B0 W a4 (bQ mem k))
   case atStart=>exact ⟨0,by omega,rfl,pp,o4⟩
   case round=>
    obtain ⟨j,hj,rfl,pr,oe⟩:=hrel;clear pp p4 o4;by_cases hjl:j<(bQ mem k).length
    ·have GG:(bQ mem k).length<=12:=RS mem (k:Int);have hmem:=BY hjl;have hin:=(vA mem).ino k _ hmem;have hps:=aby (bQ mem) k j hjl;rcases oe with h0 | ⟨gE,ea,hgE,DE⟩
     ·rw[h0] at hjl;exact absurd hjl (by simp)
     subst ea;have z1:=(DE.done j hjl).1;have z2:=(DE.done j hjl).2;obtain ⟨x,hx⟩:∃ x:Nat,(bl (bQ mem k) j).1=(x:Int):=⟨(bl (bQ mem k) j).1.toNat,by omega⟩;obtain ⟨nm,hnm⟩:∃ nm,(bl (bQ mem k) j).2=nm:=⟨_,rfl⟩;have hent:bl (bQ mem k) j=((x:Int),nm):=by rw[<- hx,<- hnm]
     have Vz:Hid (mx (bQ mem) k (j+1)=mx (bQ mem) k j ++ [(k,((x:Int),nm))]):=by
      show _=_
      rw[hps,hent]
     rw[hx] at z1 hin;rw[hnm] at z2;have rY:x<8:=by omega
     have u1:=pr.par rY;have u2:=pr.nam rY;have f1:=pr.b1.free x (by rw[RV];exact rY);have f2:=pr.b2.free x (by rw[RW];exact rY);have d1:(0:Int)<=(j:Int):=by omega
     have d2:(j:Int)<((bQ mem k).length:Int):=by omega
     have d3:(0:Int)<=(x:Int):=by omega
     have d4:(x:Int)<8:=by omega
     have HE:Hid (cU B0 wr (some ⟨gE,0,none⟩) (bQ mem k)):=Or.inr ⟨gE,rfl,hgE,DE⟩;have hne1:g1≠gE:=by omega
     have hne2:g2≠gE:=by omega
     by_cases wz:dP (mx (bQ mem) k j) (x:Int) = -1
     ·have hq:=pr.first (i:=k) (nm:=nm) rY wz;have HQ:Hid (fD w g1 g2 (mx (bQ mem) k (j+1)) ((wr.setCell ⟨g1,x,none⟩ (aa (k:Int))).setCell ⟨g2,x,none⟩ (.string nm))):=by
       show fD _ _ _ _ _
       rw[Vz.out];exact hq
      rw[wz] at u1;have z1':(wr.setCell ⟨g1,x,none⟩ (aa (k:Int))).cell? ⟨gE,j*2,none⟩=some (aa (x:Int)):=by rw[gH _ _ _ _ (fun q=>hne1 (uR q).1)];exact z1
      have z2':(wr.setCell ⟨g1,x,none⟩ (aa (k:Int))).cell? ⟨gE,j*2+1,none⟩=some (.string nm):=by rw[gH _ _ _ _ (fun q=>hne1 (uR q).1)];exact z2
      have u2':(wr.setCell ⟨g1,x,none⟩ (aa (k:Int))).cell? ⟨g2,x,none⟩=some (.string (sF (mx (bQ mem) k j) (x:Int))):=by rw[gH _ _ _ _ (fun q=>pr.ne (uR q).1)];exact u2
      clear pr hq wz hps hent hx hnm hmem hin DE hfl;go_wp2;go_region
      go_wp2;go_roundg (gk-1)
      case measure=>omega
      case rel=>exact ⟨j+1,by omega,by go_num,HQ.out.drew,(gA (gA HE.out Ny x _) WN x _).below ((aQ _ _).drew)⟩
     have hq:=pr.more (i:=k) (nm:=nm) rY wz;have HQ:Hid (fD w g1 g2 (mx (bQ mem) k (j+1)) (wr.setCell ⟨g1,x,none⟩ (aa (-2)))):=by
      show fD _ _ _ _ _
      rw[Vz.out];exact hq
     have hpar':(dP (mx (bQ mem) k j) (x:Int) == -1)=false:=by simpa using wz
     clear pr hq wz hps hent hx hnm hmem hin DE hfl;go_wp2;go_roundg (gk-1)
     case measure=>omega
     case rel=>exact ⟨j+1,by omega,by go_num,HQ.out,gA HE.out Ny x _⟩
    have hj0:¬ ((j:Int)<((bQ mem k).length:Int)):=by omega
    have akA:fD w g1 g2 (cK (bQ mem) (k+1)) wr:=by rw[<- abx,show (bQ mem k).length=j by omega];exact pr
    clear pr oe;go_wp2;go_roundg (go-1)
    case measure=>omega
    case rel=>exact ⟨k+1,by omega,by go_num,HO.out,akA⟩
 obtain rfl:k=8:=by omega
 have HO:Hid (kN mem=true):=hok;clear hok;go_wp2;exact HY.out _ _ _ _ _ HO.out pr
end
section
variable {B : Nat} {N : Nat → dw} {F : Nat → Nat} {P : Nat → ByteArray} {w W W' : World} {mem : ByteArray}
theorem aey (mem:ByteArray) (w:World) (hms:mem.size<=281474976710656):Calls prog 94 #[.string mem] w (Cx mem w):=by
 have HN:Hid (∀ w',cq mem=false->ah w w'->Cx mem w (.returned (.tuple #[.pointer none,.bool false])) w'):=fun w' h hb=>ael h hb;by_cases hm:mem.size=768
 ·have hz:cq mem=(vz mem && (kN mem && ((cO mem 0 == 2) && (decide (dJ (eo mem) 8).Nodup && iz (bQ mem) (cO mem))))):=by
   unfold cq;rw[bK hm,fJ]
  have hpt:Hid (∀ W,Calls prog 16 #[.string mem,aa 0,aa 32] W (aV (.string (aX mem 0 32)) W)):=fun W=>lM _ _ _ _ hms;have qs:Hid (∀ W,_):=fun W=>wR 32 W;have hwt:Hid (∀ W,Calls prog 41 #[.string (bG 32),aa 0,.string ⟨#[84,78,82,49]⟩] W (aV (.string rm) W)):=fun W=>by have:=uY (bG 32) 0 ⟨#[84,78,82,49]⟩ W (by decide +kernel) (show 4<=281474976710656 by omega);rw[aee] at this;exact this
  have hho:vz mem=((aX mem 0 32).toList == rm.toList):=rfl;obtain ⟨Q,hQ⟩:∃ Q,aX mem 0 32=Q:=⟨_,rfl⟩;obtain ⟨zz,hzz⟩:∃ zz,bG 32=zz:=⟨_,rfl⟩;obtain ⟨hh,DH⟩:∃ hh,rm=hh:=⟨_,rfl⟩;rw[hQ] at hpt hho;rw[DH] at hwt hho;rw[hzz] at qs hwt;have MI:((mem.size:Int) != 768)=false:=by simp;omega
  clear hQ hzz DH;cases hH:vz mem with
  | false=>
   rw[hH] at hho;rw[hH,dC] at hz;have hne:(Q.toList == hh.toList)=false:=hho.symm;clear hho hH;go_enter func94,ntmps94;go_wp2_with (first
    | (go_at_call 16;refine (hpt.out _).mono ?_;rintro e w1 ⟨rfl,b1⟩)
    | (go_at_call 42;refine (qs.out _).mono ?_;rintro e w2 ⟨rfl,b2⟩)
    | (go_at_call 41;refine (hwt.out _).mono ?_;rintro e w3 ⟨rfl,b3⟩))
   go_ret2;exact HN.out _ hz ((b1.trans (b2.mono b1.size)).trans (b3.mono (br b1.size b2.size)))
  | true=>
   rw[hH] at hho;rw[hH,fJ] at hz;have hne:(Q.toList == hh.toList)=true:=hho.symm;have hz0:=(zero_of_info aea).1;have MB:Hid (∀ W:World,km mem W 0 (fun _=>sQ) (W.alloc (.cells nV.toArray 175))):=fun W=>aek mem W;obtain ⟨ZC,XT⟩:∃ ZC,nV.toArray=ZC:=⟨_,rfl⟩;rw[XT] at hz0 MB;have HZ:Hid (cq mem=(kN mem && ((cO mem 0 == 2) && (decide (dJ (eo mem) 8).Nodup && iz (bQ mem) (cO mem))))):=hz;clear hho hH XT hz;go_enter func94,ntmps94;go_wp2_with (first
    | (go_at_call 16;refine (hpt.out _).mono ?_;rintro e w1 ⟨rfl,b1⟩)
    | (go_at_call 42;refine (qs.out _).mono ?_;rintro e w2 ⟨rfl,b2⟩)
    | (go_at_call 41;refine (hwt.out _).mono ?_;rintro e w3 ⟨rfl,b3⟩))
   have l3:ah w w3:=(b1.trans (b2.mono b1.size)).trans (b3.mono (br b1.size b2.size));have r0:=MB.out w3;clear b1 b2 b3 hpt qs hwt hz0 MB hne;go_loopw [20] (fun i W=>∃ (k:Nat) (N:Nat->dw),k<=8/\i=aa k/\bX (fun i=>dD mem (i:Int)) k=true/\km mem w3 k N W) (fun i _=>8-(intOf i).toNat);case atStart=>exact ⟨0,_,bh _,rfl,rfl,r0⟩
   case round=>
    obtain ⟨k,N,hk,rfl,hok,rd⟩:=hrel;clear r0;by_cases hlt:k<8
    ·have e1:(0:Int)<=(k:Int):=by omega
     have e2:(k:Int)<8:=by omega
     have hrn:Hid (∀ W,Calls prog 137 #[.string mem,aa (k:Int)] W fun e w'=>∃ (q o t:Int) (a:Option Addr) (n c:Nat) (x:ByteArray) (ae:Option Addr) (ne ce:Nat),e=.returned (.tuple #[.agg #[aa q,aa o,aa t,.slice a n c,.string x,.slice ae ne ce],.bool (dD mem (k:Int))])/\ah W w'/\(dD mem (k:Int)=true->∀ B,B<W.heap.size->lT mem B k ⟨q,o,t,a,n,c,x,ae,ne,ce⟩ w')):=fun W=>
      (adu mem (k:Int) W hm).mono fun e w' ⟨q,o,t,a,n,c,x,ae,ne,ce,he,hb,hy⟩=>⟨q,o,t,a,n,c,x,ae,ne,ce,he,hb,fun h B hB=>by obtain ⟨h1,h2,h3,h4,h5,h6,h7,h8,h9⟩:=hy h;exact ⟨h1,h2,h3,h4,h5.mono hB,h6,h7,h8.mono hB,h9⟩⟩
     cases hnk:dD mem (k:Int) with
     | false=>
      rw[hnk] at hrn;have HR:Hid (cq mem=false):=by
       show cq mem=false
       rw[HZ.out,kN,qP hlt hnk,dC]
      clear hnk hok hm;go_wp2_with (go_at_call 137;refine (hrn.out _).mono ?_;rintro e w4 ⟨q,o,t,a,n,c,x,ae,ne,ce,rfl,b4,-⟩);go_ret2;exact HN.out _ HR.out (l3.trans ((((rd.below b4).au).alloc (br rd.au.size b4.size) _).mono l3.size))
     | true=>
      rw[hnk] at hrn;have HO:Hid (bX (fun i=>dD mem (i:Int)) (k+1)=true):=qQ hok hnk;clear hnk hok hm;go_wp2_with (go_at_call 137;refine (hrn.out _).mono ?_;rintro e w4 ⟨q,o,t,a,n,c,x,ae,ne,ce,rfl,b4,hy⟩);have uB:=(rd.below b4).below (aA w4 (.cells #[aa q,aa o,aa t,.slice a n c,.string x,.slice ae ne ce] 170));have XU:lT mem w3.heap.size k ⟨q,o,t,a,n,c,x,ae,ne,ce⟩ (w4.alloc (.cells #[aa q,aa o,aa t,.slice a n c,.string x,.slice ae ne ce] 170)):=(hy (by trivial) w3.heap.size (rd.tb.lt)).below (aA w4 _);have XG:=uB.step hlt XU;have nb:=aY [aa q,aa o,aa t,.slice a n c,.string x,.slice ae ne ce] w4 170;obtain ⟨v0,v1,v2,v3,v4,v5⟩:=gB nb;have hany:=fun j hj=>uB.tb.any (k*6+j) (by omega:k*6+j<64);obtain ⟨y0,u0⟩:=hany 0 (by omega);obtain ⟨y1,u1⟩:=hany 1 (by omega);obtain ⟨y2,u2⟩:=hany 2 (by omega);obtain ⟨y3,u3⟩:=hany 3 (by omega);obtain ⟨y4,u4⟩:=hany 4 (by omega);obtain ⟨y5,u5⟩:=hany 5 (by omega);have f0:=uB.tb.free (k*6) (by omega);have f1:=uB.tb.free (k*6+1) (by omega);have f2:=uB.tb.free (k*6+2) (by omega);have f3:=uB.tb.free (k*6+3) (by omega);have f4:=uB.tb.free (k*6+4) (by omega);have f5:=uB.tb.free (k*6+5) (by omega);rw[sr] at u0;have HD:Hid (km mem w3 (k+1) (vw N k ⟨q,o,t,a,n,c,x,ae,ne,ce⟩) (Aa (w4.alloc (.cells #[aa q,aa o,aa t,.slice a n c,.string x,.slice ae ne ce] 170)) w3.heap.size k ⟨q,o,t,a,n,c,x,ae,ne,ce⟩)):=XG;clear uB XU XG nb hany hy rd b4 hrn;go_region
      go_wp2;go_roundw;case rel=>exact ⟨k+1,_,by omega,by go_num,HO.out,HD.out.drew⟩
      case measure=>simp[intOf];omega
    obtain rfl:k=8:=by omega
    have hz:cq mem=((cO mem 0 == 2) && (decide (dJ (eo mem) 8).Nodup && iz (bQ mem) (cO mem))):=by rw[HZ.out,kN,hok,fJ]
    have x0:=rd.tb.kind (i:=0) (by decide);rw[(rd.nd 0 (by decide)).k,Nat.zero_mul] at x0;have ka:=adG wr rd.tb rd.ps;have HR:Hid (km mem w3 8 N wr):=rd;have e88:decide ((8:Int)<8)=false:=by decide
    have hbl:=rd.au;by_cases hk2:cO mem 0=2
    ·have HW:Hid (∀ W,ah wr W->Calls prog 139 #[ao w3.heap.size 0] W fun e w'=>W.grownBy w' (some w3.heap.size)/\((e=.returned (.bool false)/\iz (bQ mem) (cO mem)=false)\/(e=.returned (.bool true)/\∃ F P,eH w3.heap.size N F P w'/\fS (bQ mem) (cO mem) [] F P/\∀ x,F x<=281474976710656))):=fun W hb=>by
      have rd':=rd.below hb;have:=abX W rd'.tb rd'.ns ((rd.nd 0 (by decide)).k.trans hk2);rw[rd.kinds] at this;exact this
     have HF:Hid (∀ W F P,eH w3.heap.size N F P W->(∀ x,F x<=281474976710656)->Calls prog 140 #[ao w3.heap.size 0] W (el (.bool (qZ F (cO mem))) W)):=fun W F P h hF=>by have:=abK W h (fun i _=>hF i);rw[rd.kinds] at this;exact this
     rw[hk2] at x0;rw[hk2,show ((2:Int) == 2)=true from rfl,fJ] at hz
     have HK:Hid (cO mem 0=2):=hk2;clear rd hok hk2;cases hnd:decide (dJ (eo mem) 8).Nodup with
     | false=>
      rw[hnd] at ka;rw[hnd,dC] at hz;clear hnd;go_wp2_with (go_at_call 138;refine ka.mono ?_;rintro e w5 ⟨rfl,b5⟩);go_ret2;exact HN.out _ hz (l3.trans ((hbl.trans (b5.mono hbl.size)).mono l3.size))
     | true=>
      rw[hnd] at ka;rw[hnd,fJ] at hz;have HZ2:Hid (cq mem=iz (bQ mem) (cO mem)):=hz;clear hnd hz;have HB:Hid (∀ w5 w6,ah wr w5->w5.grownBy w6 (some w3.heap.size)->ah w w6):=fun w5 w6 b5 g6=>l3.trans (((hbl.trans (b5.mono hbl.size)).trans (xn g6 (av _) (br hbl.size b5.size))).mono l3.size);cases hto:iz (bQ mem) (cO mem) with
      | true=>
       have HS:Hid (cq mem=true):=HZ2.out.trans hto;go_wp2_with (first
        | (go_at_call 138;refine ka.mono ?_;rintro e w5 ⟨rfl,b5⟩)
        | (go_at_call 139;refine (HW.out _ b5).mono ?_;rintro e w6 ⟨g6,h6⟩;have h7:=h6.resolve_left (fun q=>by rw[hto] at q;exact absurd q.2 (by simp));obtain ⟨rfl,F,P,t6,i6,NU⟩:=h7;have hfo:=HF.out w6 F P t6 NU;rw[i6.done (vA mem) HK.out,hto] at hfo)
        | (go_at_call 140;refine hfo.mono ?_;rintro e w7 ⟨rfl,rfl⟩))
       go_ret2;refine aem HS.out (HB.out _ _ b5 g6) l3.size ⟨t6,fun i hi=>((HR.out.nd i hi).below b5).gr g6,i6⟩
      | false=>
       have HS:Hid (cq mem=false):=HZ2.out.trans hto;have HW2:Hid (∀ W,ah wr W->Calls prog 139 #[ao w3.heap.size 0] W fun e w'=>W.grownBy w' (some w3.heap.size)/\((e=.returned (.bool false)/\iz (bQ mem) (cO mem)=false)\/(e=.returned (.bool true)/\∃ F P,eH w3.heap.size N F P w'/\fS (bQ mem) (cO mem) [] F P/\∀ x,F x<=281474976710656))):=HW.out;go_wp2_with (first
        | (go_at_call 138;refine ka.mono ?_;rintro e w5 ⟨rfl,b5⟩)
        | (go_at_call 139;refine (HW2.out _ b5).mono ?_;rintro e w6 ⟨g6,h6⟩;rcases h6 with ⟨rfl,ht⟩ | ⟨rfl,F,P,t6,i6,NU⟩))
       ·go_ret2;exact HN.out _ HS.out (HB.out _ _ b5 g6)
       ·have hfo:=HF.out w6 F P t6 NU;rw[i6.done (vA mem) HK.out,hto] at hfo;go_wp2_with (go_at_call 140;refine hfo.mono ?_;rintro e w7 ⟨rfl,rfl⟩);go_ret2;exact HN.out _ HS.out (HB.out _ _ b5 g6)
    have akc:(cO mem 0 != 2)=true:=by simpa using hk2
    rw[show (cO mem 0 == 2)=false by simpa using hk2,dC] at hz;clear rd ka hok;go_wp2;go_ret2;exact HN.out _ hz (l3.trans (hbl.mono l3.size))
 have hz:cq mem=false:=by unfold cq;rw[bA hm,dC]
 have MI:((mem.size:Int) != 768)=true:=by simp;omega
 clear hm;go_enter func94,ntmps94;go_wp2;go_ret2;exact HN.out _ hz (aQ _ _)
end
section
variable {w W W' : World} {mem : ByteArray}
theorem RY {Z:Nat->List Int} {z:Int}:∀ {n:Nat},z ∈ dJ Z n->∃ i,i<n/\z ∈ Z i
 | 0,h=>by simp[dJ] at h
 | n+1,h=>by
  rw[dJ,mr] at h;rcases h with h | h
  ·obtain ⟨i,hi,hz⟩:=RY h;exact ⟨i,by omega,hz⟩
  ·exact ⟨n,by omega,h⟩
theorem aez (mem:ByteArray):eE (dJ (eo mem) 8)=decide (dJ (eo mem) 8).Nodup:=by
 have hr:∀ z ∈ dJ (eo mem) 8,5<=z/\z<=23:=by
  intro z hz;obtain ⟨i,_,hi⟩:=RY hz;unfold eo at hi;cases hI:bM (aj mem (i:Int)) with
  | false=>
   rw[(zn hI).2.2.2] at hi;simp at hi
  | true=>exact (nM.1 (pQ hI).2.2.2.1).1 z hi
 apply YU.2;rw[nM,dp];exact ⟨fun h=>h.2,fun h=>⟨hr,h⟩⟩
theorem aeA (mem:ByteArray):dP (cK (bQ mem) 8) 0 = -1:=by rw[sG];unfold fx;rw[YX];intro p hp;obtain ⟨i,e⟩:=p;have:=(vA mem).ino i e (BR.1 hp).2;simp;omega
theorem aeB (mem:ByteArray) (x:Int):dP (cK (bQ mem) 8) x<8:=by
 rcases Fb (cK (bQ mem) 8) x with h | h | ⟨p,hp,h⟩;·omega
 ·omega
 have hm:p ∈ fx (cK (bQ mem) 8) x:=by rw[hp];simp
 obtain ⟨i,e⟩:=p;have:=(BR.1 (yX.1 hm).1).1;rw[h];simp only;omega
theorem aeC {E:Nat->List aB} {K:Nat->Int} {i:Nat} (h0:0<i) (h8:i<8) (h:mS E K i=false):iz E K=false:=by
 cases h':iz E K with
 | false=>rfl
 | true=>rw[zK.1 h' i h0 h8] at h;cases h
theorem RZ (mem:ByteArray) (w:World) (hms:mem.size<=281474976710656):Calls prog 123 #[.string mem] w (aV (.bool (cq mem)) w):=by
 by_cases hm:mem.size=768
 ·have hz:cq mem=(vz mem && (kN mem && ((cO mem 0 == 2) && (decide (dJ (eo mem) 8).Nodup && iz (bQ mem) (cO mem))))):=by
   unfold cq;rw[bK hm,fJ]
  have hpt:Hid (∀ W,Calls prog 12 #[.string mem,aa 0,aa 32] W (el (.string (aX mem 0 32)) W)):=fun W=>pM _ _ _ _ (by unfold maxLen;omega) (by decide) (by decide);have qs:Hid (∀ W,_):=fun W=>wQ 28 W;have hzs:(bG 28).size=28:=by decide +kernel
  have hadd:(⟨#[84,78,82,49]⟩:ByteArray)++bG 28=rm:=rfl;have hho:vz mem=((aX mem 0 32).toList == rm.toList):=rfl;obtain ⟨Q,hQ⟩:∃ Q,aX mem 0 32=Q:=⟨_,rfl⟩;obtain ⟨zz,hzz⟩:∃ zz,bG 28=zz:=⟨_,rfl⟩;obtain ⟨hh,DH⟩:∃ hh,rm=hh:=⟨_,rfl⟩;rw[hQ] at hpt hho;rw[DH] at hadd hho;rw[hzz] at qs hadd hzs;have MI:((mem.size:Int) != 768)=false:=by simp;omega
  have hsz1:¬ (9223372036854775807<4+zz.size):=by omega
  clear hQ hzz DH;cases hH:vz mem with
  | false=>
   rw[hH] at hho;rw[hH,dC] at hz;have hne:(Q.toList == hh.toList)=false:=hho.symm;rw[hz];clear hho hH hz;go_enter func123,ntmps123;go_wp2_with (first
    | (go_at_call 12;refine (hpt.out _).mono ?_;rintro e w1 ⟨rfl,rfl⟩)
    | (go_at_call 90;refine (qs.out _).mono ?_;rintro e w2 ⟨rfl,rfl⟩))
   go_ret;exact ⟨rfl,aQ _ _⟩
  | true=>
   rw[hH] at hho;rw[hH,fJ] at hz;have hne:(Q.toList == hh.toList)=true:=hho.symm;have how:Hid (∀ W,_):=fun W=>RX mem W hms;have hlen:=xp (xy mem) 8;have gY:Hid (∀ W a c,(dJ (eo mem) 8).length<=c->aK W a (dJ (eo mem) 8)->Calls prog 173 #[.slice a (dJ (eo mem) 8).length c] W fun e w'=>e=.returned (.bool (decide (dJ (eo mem) 8).Nodup))/\∃ n,w'=W.drewN n):=fun W a c hc hR=>by rw[<- aez];exact OS a c _ W (by omega) hc hR
   obtain ⟨zs,hzs'⟩:∃ zs,dJ (eo mem) 8=zs:=⟨_,rfl⟩;rw[hzs'] at how gY hz;clear hho hH hlen hzs';cases hnd:decide zs.Nodup with
   | false=>
    rw[hnd] at gY;rw[hnd,dC,eS,eS] at hz;rw[hz];clear hnd hz;go_enter func123,ntmps123;go_wp2_with (first
     | (go_at_call 12;refine (hpt.out _).mono ?_;rintro e w1 ⟨rfl,rfl⟩)
     | (go_at_call 90;refine (qs.out _).mono ?_;rintro e w2 ⟨rfl,rfl⟩)
     | (go_at_call 129;refine (how.out _).mono ?_;rintro e w3 ⟨a3,c3,rfl,hc3,o3,b3⟩)
     | (go_at_call 173;refine (gY.out _ _ _ hc3 o3.row).mono ?_;rintro e w4 ⟨rfl,n4,rfl⟩))
    go_ret;exact ⟨rfl,gy b3 n4⟩
   | true=>
    rw[hnd] at gY;rw[hnd,fJ] at hz;have ka:Hid (∀ W,_):=fun W=>aex mem W hm;have Au:Hid (∀ W e w',Cy mem W e w'->∃ a1 c1 a2 c2,e=.returned (.tuple #[.slice a1 8 c1,.slice a2 8 c2,.bool (kN mem)])/\ah W w'/\(kN mem=true->∃ g1 g2,a1=some ⟨g1,0,none⟩/\a2=some ⟨g2,0,none⟩/\fD W g1 g2 (cK (bQ mem) 8) w')):=fun W e w' h=>h;have hLo:Hid (∀ (k:Nat) W,Calls prog 80 #[.string mem,aa (k:Int)] W fun e w'=>∃ (o s:Int) (a:Option Addr) (n c:Nat) (x:ByteArray) (bb:Bool),e=.returned (.tuple #[.agg (bj (cO mem k) o s a n c),.string x,.bool bb])/\ah W w'):=fun k W=>(Fw mem (k:Int) W hms).mono fun e w' ⟨a,c,he,ho,hc,hb⟩=>⟨_,_,a,_,c,_,_,by rw[cO,<- JZ hm];exact he,hb⟩;have hL0:Hid (∀ W,_):=fun W=>hLo.out 0 W;clear hnd;cases hno:kN mem with
    | false=>
     rw[hno] at Au;rw[hno,dC] at hz;rw[hz];clear hno hz hLo;go_enter func123,ntmps123;go_wp2_with (first
      | (go_at_call 12;refine (hpt.out _).mono ?_;rintro e w1 ⟨rfl,rfl⟩)
      | (go_at_call 90;refine (qs.out _).mono ?_;rintro e w2 ⟨rfl,rfl⟩)
      | (go_at_call 129;refine (how.out _).mono ?_;rintro e w3 ⟨a3,c3,rfl,hc3,o3,b3⟩)
      | (go_at_call 173;refine (gY.out _ _ _ hc3 o3.row).mono ?_;rintro e w4 ⟨rfl,n4,rfl⟩;have l4:=gy b3 n4)
      | (go_at_call 80;refine (hL0.out _).mono ?_;rintro e w5 ⟨o5,s5,a5,n5,c5,x5,uI,rfl,b5⟩;have l5:=((l4.trans (b5.mono l4.size)).alloc (br l4.size b5.size) (.cells (bj (cO mem 0) o5 s5 a5 n5 c5) 35)))
      | (go_at_call 175;refine (ka.out _).mono ?_;intro e w6 hans;obtain ⟨a6,c6,a7,c7,rfl,b6,-⟩:=Au.out _ _ _ hans;clear hans))
     go_ret;exact ⟨rfl,l5.trans (b6.mono l5.size)⟩
    | true=>
     rw[hno] at Au;rw[hno,fJ] at hz;by_cases hk2:cO mem 0=2
     ·rw[hk2,show ((2:Int) == 2)=true from rfl,fJ] at hz
      rw[hk2] at hL0;have HZ:Hid (cq mem=iz (bQ mem) (cO mem)):=hz;clear hno hz hk2;go_enter func123,ntmps123;go_wp2_with (first
       | (go_at_call 12;refine (hpt.out _).mono ?_;rintro e w1 ⟨rfl,rfl⟩)
       | (go_at_call 90;refine (qs.out _).mono ?_;rintro e w2 ⟨rfl,rfl⟩)
       | (go_at_call 129;refine (how.out _).mono ?_;rintro e w3 ⟨a3,c3,rfl,hc3,o3,b3⟩)
       | (go_at_call 173;refine (gY.out _ _ _ hc3 o3.row).mono ?_;rintro e w4 ⟨rfl,n4,rfl⟩;have l4:=gy b3 n4)
       | (go_at_call 80;refine (hL0.out _).mono ?_;rintro e w5 ⟨o5,s5,a5,n5,c5,x5,uI,rfl,b5⟩;have l5:=((l4.trans (b5.mono l4.size)).alloc (br l4.size b5.size) (.cells (bj 2 o5 s5 a5 n5 c5) 35));have y5:=(aY [aa 2,aa o5,aa s5,.slice a5 n5 c5] w5 35))
       | (go_at_call 175;refine (ka.out _).mono ?_;intro e w6 hans;obtain ⟨a6,c6,a7,c7,rfl,b6,Vm⟩:=Au.out _ _ _ hans;clear hans;obtain ⟨g1,g2,rfl,rfl,NO⟩:=Vm (by trivial);clear Vm;have y6:=(y5.below b6).c0))
      obtain ⟨wa,WZ⟩:∃ wa,w5.alloc (.cells (bj 2 o5 s5 a5 n5 c5) 35)=wa:=⟨_,rfl⟩;rw[WZ] at NO l5;clear y6 y5 b6 WZ b5 l4 gY how hpt qs hL0 ka Au o3 b3;go_loopg [9] 7 (fun gk v W=>∃ k:Nat,0<k/\k+gk=8/\v=aa k/\(∀ i,0<i->i<k->mS (bQ mem) (cO mem) i=true)/\fD wa g1 g2 (cK (bQ mem) 8) W)
      case atStart=>exact ⟨1,by decide,rfl,rfl,fun i h0 h1=>by omega,NO⟩
      case round=>
      obtain ⟨k,hk0,hkg,rfl,hall,pr⟩:=hrel;clear NO;by_cases hlt:k<8
      ·have hLk:Hid (∀ W,_):=fun W=>hLo.out k W;have hone:mS (bQ mem) (cO mem) k=(((cO mem k == 0) == (dP (cK (bQ mem) 8) (k:Int) == -1)) && (cO mem k == 0 || gT (dP (cK (bQ mem) 8)) 8 (k:Int))):=rfl;have HBAD:Hid (mS (bQ mem) (cO mem) k=false->cq mem=false):=fun h=>by rw[HZ.out];exact aeC hk0 hlt h
       have pG:Hid (mS (bQ mem) (cO mem) k=true->∀ i,0<i->i<k+1->mS (bQ mem) (cO mem) i=true):=fun h i h0 h1=>by
        by_cases e:i=k
        ·rw[e];exact h
        exact hall i h0 (by omega)
       have Nz:Hid (∀ W,fD wa g1 g2 (cK (bQ mem) 8) W->Calls prog 176 #[aH g1 8 c6,aa (k:Int)] W (el (.bool (gT (dP (cK (bQ mem) 8)) 8 (k:Int))) W)):=fun W h=>aeu _ g1 c6 k W (aeB mem) (fun x hx=>h.par hx) (by omega);have e1:(0:Int)<=(k:Int):=by omega
       have e2:(k:Int)<8:=by omega
       obtain ⟨K,hK⟩:∃ K,cO mem k=K:=⟨_,rfl⟩;obtain ⟨p,hp⟩:∃ p,dP (cK (bQ mem) 8) (k:Int)=p:=⟨_,rfl⟩;obtain ⟨r,hr⟩:∃ r,gT (dP (cK (bQ mem) 8)) 8 (k:Int)=r:=⟨_,rfl⟩;rw[hK] at hLk hone;rw[hp] at hone;rw[hr] at hone Nz;have HP:Hid (dP (cK (bQ mem) 8) (k:Int)=p):=hp;clear hK hp hr hall hLo;go_wp2_with (go_at_call 80;refine (hLk.out _).mono ?_;rintro e w7 ⟨o7,s7,a7,n7,WS,x7,NB,rfl,b7⟩;have p7:=(pr.below b7).below (aA w7 (.cells (bj K o7 s7 a7 n7 WS) 35));have y7:=(aY [aa K,aa o7,aa s7,.slice a7 n7 WS] w7 35).c0);have u7:=p7.par hlt;rw[HP.out] at u7;clear hLk pr b7;by_cases DA:K=0 <;> by_cases hpn:p = -1
       ·subst DA hpn;have HA:=pG.out (by rw[hone];rfl);have MR:Hid (∀ i,0<i->i<k+1->mS (bQ mem) (cO mem) i=true):=HA;clear HA hone HBAD pG;go_quiet (fail);go_wp2;go_roundg (gk-1)
        case measure=>omega
        case rel=>exact ⟨k+1,by omega,by omega,by go_num,MR.out,p7.drewN _⟩
       ·subst DA;have MX:(p == -1)=false:=by simpa using hpn
        have HB2:Hid (cq mem=false):=HBAD.out (by rw[hone,MX];rfl);clear hone HBAD pG;go_quiet (fail);go_wp2;go_ret;exact ⟨xz HB2.out.symm,l5.trans ((gy p7.au _).mono l5.size)⟩
       ·subst hpn;have Mv:(K == 0)=false:=by simpa using DA
        have HB2:Hid (cq mem=false):=HBAD.out (by rw[hone,Mv];rfl);clear hone HBAD pG;go_quiet (fail);go_wp2;go_ret;exact ⟨xz HB2.out.symm,l5.trans ((gy p7.au _).mono l5.size)⟩
       have MX:(p == -1)=false:=by simpa using hpn
       have Mv:(K == 0)=false:=by simpa using DA
       have hKn:(K != 0)=true:=by simpa using DA
       have hone':mS (bQ mem) (cO mem) k=r:=by rw[hone,MX,Mv];simp
       clear hone;cases r with
       | true=>
        have MR:Hid (∀ i,0<i->i<k+1->mS (bQ mem) (cO mem) i=true):=pG.out hone';clear hone' HBAD pG;go_quiet ((go_at_call 176;exact yS (Nz.out _ (p7.drewN _))));go_wp2;go_roundg (gk-1)
        case measure=>omega
        case rel=>exact ⟨k+1,by omega,by omega,by go_num,MR.out,p7.drewN _⟩
       | false=>
        have HB2:Hid (cq mem=false):=HBAD.out hone';clear hone' HBAD pG;go_quiet ((go_at_call 176;exact yS (Nz.out _ (p7.drewN _))));go_wp2;go_ret;exact ⟨xz HB2.out.symm,l5.trans ((gy p7.au _).mono l5.size)⟩
      obtain rfl:k=8:=by omega
      have HS:Hid (cq mem=true):=by
       show cq mem=true
       rw[HZ.out];exact zK.2 fun i h0 h8=>hall i h0 h8
      have u0:=pr.par (x:=0) (by decide);rw[show ((0:Nat):Int)=0 from rfl,aeA] at u0
      clear hall hLo;go_wp2;go_ret;exact ⟨xz HS.out.symm,l5.trans (pr.au.mono l5.size)⟩
     ·have akc:(cO mem 0 != 2)=true:=by simpa using hk2
      rw[show (cO mem 0 == 2)=false by simpa using hk2,dC] at hz;rw[hz];clear hno hz hLo;go_enter func123,ntmps123;go_wp2_with (first
       | (go_at_call 12;refine (hpt.out _).mono ?_;rintro e w1 ⟨rfl,rfl⟩)
       | (go_at_call 90;refine (qs.out _).mono ?_;rintro e w2 ⟨rfl,rfl⟩)
       | (go_at_call 129;refine (how.out _).mono ?_;rintro e w3 ⟨a3,c3,rfl,hc3,o3,b3⟩)
       | (go_at_call 173;refine (gY.out _ _ _ hc3 o3.row).mono ?_;rintro e w4 ⟨rfl,n4,rfl⟩;have l4:=gy b3 n4)
       | (go_at_call 80;refine (hL0.out _).mono ?_;rintro e w5 ⟨o5,s5,a5,n5,c5,x5,uI,rfl,b5⟩;have l5:=((l4.trans (b5.mono l4.size)).alloc (br l4.size b5.size) (.cells (bj (cO mem 0) o5 s5 a5 n5 c5) 35));have y5:=(aY [aa (cO mem 0),aa o5,aa s5,.slice a5 n5 c5] w5 35))
       | (go_at_call 175;refine (ka.out _).mono ?_;intro e w6 hans;obtain ⟨a6,c6,a7,c7,rfl,b6,-⟩:=Au.out _ _ _ hans;clear hans;have y6:=(y5.below b6).c0))
      go_ret;exact ⟨rfl,l5.trans (b6.mono l5.size)⟩
 have hz:cq mem=false:=by unfold cq;rw[bA hm,dC]
 have MI:((mem.size:Int) != 768)=true:=by simp;omega
 rw[hz];clear hm hz;go_enter func123,ntmps123;go_wp2;go_ret;exact ⟨rfl,aQ _ _⟩
end
section
variable {w W W' : World} {mem : ByteArray}
structure kO where
 ino:Int
 path:ByteArray
 kind:Int
 owner:Int
 data:ByteArray
def kO.ie (f:kO):List Value:=[.int .i64 f.ino,.string f.path,.int .i64 f.kind,.int .i64 f.owner,.string f.data]
def kP:List kO->List Value
 | []=>[]
 | f :: r=>f.ie++kP r
theorem R4:∀ l:List kO,(kP l).length=l.length*5
 | []=>rfl
 | f :: r=>by rw[kP,de,R4 r];simp[kO.ie];omega
theorem R7:∀ l m:List kO,kP (l++m)=kP l++kP m
 | [],m=>rfl
 | f :: r,m=>by rw[qJ,kP,kP,R7 r m,so]
theorem aeD (l:List kO) (f:kO):kP (l ++ [f])=kP l++f.ie:=by rw[R7];simp[kP]
def rq:kO:=⟨0,⟨#[]⟩,0,0,⟨#[]⟩⟩
theorem R8:∀ (l:List kO) (i j:Nat),i<l.length->j<5->(kP l)[i*5+j]? = (l.getD i rq).ie[j]?
 | [],i,j,h,_=>by simp at h
 | f :: r,i,j,h,hj=>by
  have hl:f.ie.length=5:=rfl;rw[kP];cases i with
  | zero=>
   rw[nD (by rw[hl];omega)];simp
  | succ i=>
   rw[nF (by rw[hl];omega),hl,show (i+1)*5+j-5=i*5+j by omega,R8 r i j (by simpa using h) hj];simp
theorem aeE {g:Nat} {l:List kO} (h:az g (kP l) W) {i:Nat} (hi:i<l.length):ad W g (i*5) (aa (l.getD i rq).ino)/\ad W g (i*5+1) (.string (l.getD i rq).path)/\ad W g (i*5+2) (aa (l.getD i rq).kind)/\ad W g (i*5+3) (aa (l.getD i rq).owner)/\ad W g (i*5+4) (.string (l.getD i rq).data):=by
 have hl:=R4 l;have key:∀ j (hj:j<5),W.cell? ⟨g,i*5+j,none⟩=(l.getD i rq).ie[j]?:=by intro j hj;rw[h.cell (i*5+j) (by omega),<- R8 l i j hi hj,gM (by omega)]
 exact ⟨key 0 (by decide),key 1 (by decide),key 2 (by decide),key 3 (by decide),key 4 (by decide)⟩
def mC (base:Nat) (w:World) (g n cap:Nat) (l:List kO):Prop:=n=l.length/\w.ownsRow base 138 5 (.slice (some ⟨g,0,none⟩) n cap) n (kP l)
variable {base g n cap : Nat} {l : List kO}
theorem mC.below (h:mC base w g n cap l) (hb:ah w W):mC base W g n cap l:=⟨h.1,vd h.2 hb⟩
theorem mC.alloc (h:mC base w g n cap l) (o:Obj):mC base (w.alloc o) g n cap l:=⟨h.1,h.2.alloc o⟩
theorem mC.drew (h:mC base w g n cap l):mC base w.drew g n cap l:=h
theorem mC.aF (h:mC base w g n cap l):az g (kP l) w:=by have hl:=h.2.1;refine ⟨fun j hj=>?_,fun j hj=>h.2.frozenAt j,(h.2.lt g rfl).2⟩;rw[h.2.cellAt j (by omega),gM hj]
theorem aeF (w:World) (hb:base<=w.heap.size):mC base (w.alloc (.cells #[] 138)) w.heap.size 0 0 []:=⟨rfl,uT w #[] 0 hb (bh _) rfl⟩
theorem aeG:(prog.info? 138).map (fun i=>(i.zero,i.size,i.bytes))=some (some (.agg #[aa 0,.string ⟨#[]⟩,aa 0,aa 0,.string ⟨#[]⟩]),5,56):=by kernel_rfl
theorem aeH (f:kO):∀ x ∈ f.ie,x.oneCell'=true:=by intro x h;simp[kO.ie] at h;rcases h with rfl | rfl | rfl | rfl | rfl <;> rfl
theorem aeI {ops:Array Oper} {o:Oper} {A:Act} {K:Act->World->Prop} {Q:Exit->Act->World->Prop} {E:Prop} (hgd:o.guard=none) (sl x:Operand) (ho:o.op=.call { callee:=.builtin .append,args:=#[sl,x],argTypes:=#[135,135] }) (hbuf:mC base w g n cap l) (f:kO) (hs:A.eval sl=aH g n cap) {H:Nat} (hH:w.heap.size=H) (hx:A.eval x=aH H 1 1) (hlen:n+1<=1048576) (hb:base<=w.heap.size) (h:∀ g' cap' w',mC base w' g' (n+1) cap' (l ++ [f])->Below base w w'->w.grownBy w' (some g)->(g'=g\/w.heap.size<=g')->K (A.put o.dst (aH g' (n+1) cap')) w'):if Region.wanted o (yielded ops A.tmps)=true then Oper.wp prog o A (w.alloc (.cells #[aa f.ino,.string f.path,aa f.kind,aa f.owner,.string f.data] 138)) K Q else E:=by
 subst hH;obtain ⟨i0,hi,hz0,hz1,hz2⟩:=iv aeG;have hb2:=hbuf.alloc (.cells #[aa f.ino,.string f.path,aa f.kind,aa f.owner,.string f.data] 138);refine YS _ hgd sl x 135 ho base 138 i0 (.agg #[aa 0,.string ⟨#[]⟩,aa 0,aa 0,.string ⟨#[]⟩]) 5 56 underlying135 hi hz0 hz1 hz2 rfl (by omega) _ n _ hs hb2.2 ⟨w.heap.size,0,none⟩ 1 1 f.ie hx rfl (uU (nA w _)) (aeH f) (by omega) (by unfold maxLen;omega) (by omega) (by simp;omega) _ rfl ?_;intro g' cap' w' ho' hg' hl' _;refine h g' cap' w' ⟨by rw[hbuf.1];simp,?_⟩ ?_ ?_ ?_
 ·rw[aeD];exact ho'
 ·exact mw ((aQ _ _).alloc hb _) hg' (fun k hk=>(hbuf.2.lt k hk).1) (by simp;omega)
 ·exact (qK w _ _).trans hg'
 rcases hl' with q | q
 ·left;have e':g=g':=by simpa [Value.ownBlock] using q
  exact e'.symm
 right;rw[q];simp
def Cz (p:Int->Int) (nm:Int->ByteArray):Nat->Int->ByteArray->ByteArray
 | 0,_,out=>out
 | n+1,i,out=>if 0<i then Cz p nm n (p i) ((⟨#[47]⟩++nm i)++out) else out
def tW (mem:ByteArray) (i:Nat):ByteArray:=zW (Cz (dP (cK (bQ mem) 8)) (sF (cK (bQ mem) 8)) 8 (i:Int) ⟨#[]⟩)
theorem aeJ {E:Nat->List aB} {K:Nat->Int} (ht:iz E K=true) (hS:sK E K) {x k:Nat} {q:ByteArray} (h:kL E x k q):x<8/\∀ m,k<=m->∀ out,Cz (dP (cK E 8)) (sF (cK E 8)) m (x:Int) out=q++out:=by
 induction h using kL.ind with
 | zero=>
  refine ⟨by decide,fun m _ out=>?_⟩;rw[Ri];cases m with
  | zero=>rfl
  | succ m=>rw[Cz,aM (by decide)]
 | @down d k q x nm hd hm ih=>
  have hx:=hS.ino _ _ hm;simp only at hx;refine ⟨by omega,fun m hk out=>?_⟩;obtain ⟨m',rfl⟩:∃ m',m=m'+1:=⟨m-1,by omega⟩;obtain ⟨h1,h2⟩:=adk ht hS ih.1 hm;simp only at h1 h2;rw[Cz,aN hx.1,h1,h2,ih.2 m' (by omega),FG,FG,FG]
theorem aeK {F:Nat->Nat} {P:Nat->ByteArray} (h:fS (bQ mem) (cO mem) [] F P) (rX:cO mem 0=2) (ht:iz (bQ mem) (cO mem)=true) {x:Nat} (hx:x<8) (hk:cO mem x≠0):P x=tW mem x/\∃ k q,k<=8/\kL (bQ mem) x k q/\tW mem x=zW q:=by
 obtain ⟨k,GK,ha⟩:=adl h (vA mem) rX ht hx hk;obtain ⟨q,hq,hp,_,_⟩:=adj (vA mem) ha;have hu:=(aeJ ht (vA mem) hq).2 8 GK ⟨#[]⟩;have hf:tW mem x=zW q:=by rw[tW,hu,Rh]
 exact ⟨by rw[hf,hp],k,q,GK,hq,hf⟩
def vB (mem:ByteArray) (P:Nat->ByteArray) (i:Nat):kO:=⟨(i:Int),P i,cO mem i,bI (aj mem (i:Int)),qg mem (i:Int)⟩
def iE (mem:ByteArray) (P:Nat->ByteArray):Nat->List kO
 | 0=>[]
 | i+1=>iE mem P i++if cO mem i=0 then [] else [vB mem P i]
theorem J1 (mem:ByteArray) (P:Nat->ByteArray):∀ i,(iE mem P i).length<=i
 | 0=>av _
 | i+1=>by have:=J1 mem P i;rw[iE,de];split <;> simp <;> omega
theorem R9 {P P':Nat->ByteArray}:∀ i,(∀ x,x<i->cO mem x≠0->P x=P' x)->iE mem P i=iE mem P' i
 | 0,_=>rfl
 | i+1,h=>by
  rw[iE,iE,R9 i fun x hx hk=>h x (by omega) hk];by_cases hk:cO mem i=0;·rw[aN hk,aN hk]
  ·rw[aM hk,aM hk,vB,vB,h i (by omega) hk]
def kn (mem:ByteArray):List kO:=if cq mem=true then iE mem (tW mem) 8 else []
theorem aeL (h:cq mem=true):mem.size=768/\kN mem=true/\cO mem 0=2/\iz (bQ mem) (cO mem)=true:=by unfold cq at h;simp only[ca,dp,tH] at h;exact ⟨h.1,h.2.2.1,h.2.2.2.1,h.2.2.2.2.2⟩
end
section
variable {w W W' : World} {mem : ByteArray} {B : Nat} {N : Nat → dw} {F : Nat → Nat} {P : Nat → ByteArray}
theorem aeM (w:World) (hG:qh mem B N F P w):Calls prog 96 #[ao B 0] w fun e w'=>∃ g c,e=.returned (aH g (iE mem P 8).length c)/\w.heap.size<=g/\az g (kP (iE mem P 8)) w'/\ah w w':=by
 have hr:=World.rangeAt_alloc hG.tb.range (.cells #[] 138);have NI:(lq N 8).length=48:=rh N 8;have hix:=fun i hi W=>QG N i hi W;obtain ⟨C,hC⟩:∃ C,(lq N 8).toArray=C:=⟨_,rfl⟩;have HC:Hid ((lq N 8).toArray=C):=hC;rw[hC] at hix;have HX:Hid (∀ i:Nat,i<8->∀ W,(Instr.index 171 (.agg C) (aa (i:Int))).run prog W=.ok (.agg #[aa (N i).k,aa (N i).o,aa (N i).s,.slice (N i).a (N i).n (N i).c,.string (N i).x,.slice (N i).ae (N i).ne (N i).ce]) W):=hix;have b0:=aeF (base:=w.heap.size) w (av _);have l0:=aA w (.cells #[] 138);have hlen:=J1 mem P;have HG:Hid (qh mem B N F P w):=hG;clear hC hix hG;go_enter func96,ntmps96;go_wp2_with (refine Zc rfl 171 (.tmp 9) rfl B 0 rfl _ _ hr underlying171 rfl (by rw[QF,NI]) ?_;rw[HC.out]);clear hr;go_loopw [3,11] (fun v i w'=>∃ (k n c g:Nat),k<=8/\i=aa k/\v=aH g n c/\mC w.heap.size w' g n c (iE mem P k)/\ah w w') (fun _ i _=>8-(intOf i).toNat);case atStart=>exact ⟨0,0,0,_,bh _,rfl,rfl,b0,l0⟩
 case round=>
 obtain ⟨k,n,c,g,hk,rfl,rfl,hbuf,hbel⟩:=hrel;clear b0 l0;by_cases hlt:k<8
 ·have hx:=HX.out k hlt;have hnd:=HG.out.nd k hlt;have x1:=(HG.out.tb.below hbel HG.out.tb.lt).rS k hlt;have Yr:=(HG.out.tb.below hbel HG.out.tb.lt);have e1:(0:Int)<=(k:Int):=by omega
  have e2:(k:Int)<8:=by omega
  have hnl:n<=8:=by have:=hlen k;rw[hbuf.1];omega
  have hkk:=hnd.k;have Yw:=hnd.o;have GU:=hnd.x;have hst:iE mem P (k+1)=iE mem P k++if cO mem k=0 then [] else [vB mem P k]:=rfl
  have hfl:vB mem P k=⟨(k:Int),P k,cO mem k,bI (aj mem (k:Int)),qg mem (k:Int)⟩:=rfl;rw[<- Yw,<- GU,<- hkk] at hfl;rw[<- hkk] at hst;obtain ⟨d,hd⟩:∃ d,N k=d:=⟨_,rfl⟩;rw[hd] at hx hfl hst;obtain ⟨pk,hpk⟩:∃ pk,P k=pk:=⟨_,rfl⟩;rw[hpk] at x1 hfl;have nl:=aA wr (.cells #[aa d.k,aa d.o,aa d.s,.slice d.a d.n d.c,.string d.x,.slice d.ae d.ne d.ce] 170);have nb:=aY [aa d.k,aa d.o,aa d.s,.slice d.a d.n d.c,.string d.x,.slice d.ae d.ne d.ce] wr 170;have oX:=hbuf.below nl;have Bb:=hbel.trans (nl.mono hbel.size);have x2:=(nl.cell (p:=⟨B,56+k,none⟩) Yr.lt).trans x1;obtain ⟨c0,c1,c2,c3,c4,c5⟩:=gB nb;clear hnd hd hpk Yr hkk Yw GU;by_cases hz:d.k=0
  ·have HS:Hid (iE mem P (k+1)=iE mem P k):=by
    show _=_
    rw[hst,aN hz,qH]
   have hz':(d.k != 0)=false:=by simpa using hz
   clear hst hfl hz;go_wp2;go_roundw;case rel=>exact ⟨k+1,n,c,g,by omega,by go_num,rfl,by rw[HS.out];exact oX,Bb⟩
   case measure=>simp[intOf];omega
  have HS:Hid (iE mem P (k+1)=iE mem P k ++ [⟨(k:Int),pk,d.k,d.o,d.x⟩]):=by
   show _=_
   rw[hst,aM hz,hfl]
  have hz':(d.k != 0)=true:=by simpa using hz
  clear hst hfl hz;go_wp2;have uv:=oX.drew;have Me:=Bb.drew;have rO:Hid (g<wr.heap.size/\B<wr.heap.size/\B<g):=⟨(hbuf.2.lt g rfl).2,cv HG.out.tb.lt hbel.size,cv HG.out.tb.lt (hbuf.2.lt g rfl).1⟩;obtain ⟨W0,hW0⟩:∃ W0,wr.alloc (.cells #[aa d.k,aa d.o,aa d.s,.slice d.a d.n d.c,.string d.x,.slice d.ae d.ne d.ce] 170)=W0:=⟨_,rfl⟩;have hs0:W0.heap.size=wr.heap.size+1:=by rw[<- hW0];simp
  rw[hW0] at uv Me c0 c1 c4 x2 ⊢;have hS0:W0.drew.cell? ⟨B,56+k,none⟩=some (.string pk)/\W0.drew.cell? ⟨wr.heap.size,0,none⟩=some (aa d.k)/\W0.drew.cell? ⟨wr.heap.size,1,none⟩=some (aa d.o)/\W0.drew.cell? ⟨wr.heap.size,4,none⟩=some (.string d.x):=⟨x2,c0,c1,c4⟩;have hnew:=aA W0.drew (.cells #[aa (k:Int),.string pk,aa d.k,aa d.o,.string d.x] 138);have hS1:(W0.drew.alloc (.cells #[aa (k:Int),.string pk,aa d.k,aa d.o,.string d.x] 138)).cell? ⟨B,56+k,none⟩=some (.string pk)/\(W0.drew.alloc (.cells #[aa (k:Int),.string pk,aa d.k,aa d.o,.string d.x] 138)).cell? ⟨wr.heap.size,0,none⟩=some (aa d.k)/\(W0.drew.alloc (.cells #[aa (k:Int),.string pk,aa d.k,aa d.o,.string d.x] 138)).cell? ⟨wr.heap.size,1,none⟩=some (aa d.o)/\(W0.drew.alloc (.cells #[aa (k:Int),.string pk,aa d.k,aa d.o,.string d.x] 138)).cell? ⟨wr.heap.size,4,none⟩=some (.string d.x):=by
   have h1:B<W0.drew.heap.size:=by have:=rO.out.2.1;show B<W0.heap.size;omega
   have h2:wr.heap.size<W0.drew.heap.size:=by show wr.heap.size<W0.heap.size;omega
   exact ⟨(hnew.cell (p:=⟨B,56+k,none⟩) h1).trans hS0.1,(hnew.cell (p:=⟨wr.heap.size,0,none⟩) h2).trans hS0.2.1,(hnew.cell (p:=⟨wr.heap.size,1,none⟩) h2).trans hS0.2.2.1,(hnew.cell (p:=⟨wr.heap.size,4,none⟩) h2).trans hS0.2.2.2⟩
  clear hW0 hnew nl nb c2 c3 c5 oX Bb hbuf hbel hx x1;go_region_held3 (fun W=>ad W B (56+k) (.string pk)/\ad W wr.heap.size 0 (aa d.k)/\ad W wr.heap.size 1 (aa d.o)/\ad W wr.heap.size 4 (.string d.x)) (assumption) ((refine aeI rfl (.tmp 19) (.tmp 36) rfl uv ⟨(k:Int),pk,d.k,d.o,d.x⟩ (by rfl) (H:=wr.heap.size+1) hs0 (by rfl) (by omega) Me.size ?_;intro g3 c3' w3 vU b3 qC _;have Wx:ad w3 B (56+k) (.string pk)/\ad w3 wr.heap.size 0 (aa d.k)/\ad w3 wr.heap.size 1 (aa d.o)/\ad w3 wr.heap.size 4 (.string d.x):=⟨qC.cell hS0.1 (by have:=rO.out.2.2;simp;omega),qC.cell hS0.2.1 (by have:=rO.out.1;simp;omega),qC.cell hS0.2.2.1 (by have:=rO.out.1;simp;omega),qC.cell hS0.2.2.2 (by have:=rO.out.1;simp;omega)⟩))
  go_wp2;go_roundw;case rel=>exact ⟨k+1,n+1,c3',g3,by omega,by go_num,rfl,by rw[HS.out];exact vU,Me.trans b3⟩
  case measure=>simp[intOf];omega
 obtain rfl:k=8:=by omega
 have hn:n=(iE mem P 8).length:=hbuf.1;subst hn;have HB:Hid (mC w.heap.size wr g (iE mem P 8).length c (iE mem P 8)):=hbuf;clear hbuf HX HC;go_wp2;go_ret;exact ⟨g,c,rfl,(HB.out.2.lt g rfl).1,HB.out.aF,hbel⟩
end
end Go.Proofs.YtgpfmgaidbjcpaaGreatDoor
