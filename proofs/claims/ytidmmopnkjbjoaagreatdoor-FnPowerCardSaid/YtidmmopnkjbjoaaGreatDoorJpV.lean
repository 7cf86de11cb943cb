/- Joined texts. -/
import Derived.Test.YtidmmopnkjbjoaaGreatDoorJpS
import Derived.Test.YtidmmopnkjbjoaaGreatDoorJpT
set_option linter.unusedVariables false
set_option linter.unusedSimpArgs false
set_option maxRecDepth 10000
set_option maxHeartbeats 16000000
namespace Go.Proofs.YtidmmopnkjbjoaaGreatDoor
open ChangeShapes WideShapes ChangeAt RowKit
open Go.Proofs.Tryz
def bD (f:ak->List Int) (ds:List ak):Nat->List Int
 | 0=>[]
 | k+1=>bD f ds k++f (au ds k)
theorem qb (f:ak->List Int) (ds:List ak) (m:Nat) (h:∀ d,(f d).length<=1+fD d):∀ k,(bD f ds k).length<=k+ft ds k
 | 0=>aq _
 | k+1=>by have h1:=qb f ds m h k;have h2:=h (au ds k);have h3:ft ds (k+1)=ft ds k+fD (au ds k):=rfl;rw[bD,bY];omega
theorem Ry {base n cap:Nat} {a:Option Addr} {w:World} {zs:List Int} {ops:Array Oper} {rest:List Oper} {o:Oper} {A:Act} {Q:Exit->Act->World->Prop} (hgd:o.guard=none) (sl x:Operand) (ho:o.op=.call { callee:=.builtin .append,args:=#[sl,x],argTypes:=#[29,29] }) (hbuf:bo base w a n cap zs) (z:Int) (hs:A.eval sl=.slice a n cap) {H:Nat} (hH:w.heap.size=H) (hx:A.eval x=bg H 1 1) (hlen:n+1<=1048576) (hb:base<=w.heap.size) (h:∀ g' cap' w',bo base w' (some ⟨g',0,none⟩) (n+1) cap' (zs ++ [z])->Below base w w'->wpList prog ops Q rest (A.put o.dst (bg g' (n+1) cap')) w'):wpList prog ops Q (o :: rest) A (w.alloc (.cells #[ad z] 3)):=by subst hH;exact yY hgd sl x ho hbuf z hs hx hlen hb h
def tV (Z:List Int) (w:World) (e:Ending) (w':World):Prop:=∃ a c,e=.returned (.slice a Z.length c)/\aQ w.heap.size w' a Z/\Z.length<=c/\aj w w'
theorem acX (a:Option Addr) (c:Nat) (ds:List ak) (ss:Nat->aA) (w:World) (hn:ds.length<=1048576) (ht:ds.length+ft ds ds.length<=1048576) (hR:aZ w a ds ss):Calls prog 34 #[.slice a ds.length c] w (tV (bD (fun d:ak=>[d.ino]) ds ds.length) w):=by
 have n1:=aB w (.cells #[] 3);have B1:=fq (base:=w.heap.size) w (aq _);have HL:Hid (∀ W,aj w W->aZ W a ds ss):=fun W hb=>hR.below hb;clear hR;go_enter func34,ntmps34;go_wp2;go_loopw [3,9] (fun p i w'=>∃ (j:Nat) (a':Option Addr) (cap':Nat),j<=ds.length/\i=ad j/\p=.slice a' (bD (fun d:ak=>[d.ino]) ds j).length cap'/\bo w.heap.size w' a' (bD (fun d:ak=>[d.ino]) ds j).length cap' (bD (fun d:ak=>[d.ino]) ds j)/\aj w w') (fun _ i _=>ds.length-(intOf i).toNat);case atStart=>exact ⟨0,_,_,aS _,rfl,rfl,B1,n1⟩
 case round=>
 obtain ⟨j,a3,c3,hj,rfl,rfl,hbf,hbel⟩:=hrel;clear B1 n1;by_cases hlt:j<ds.length
 ·have ls:=(HL.out _ hbel).sub j hlt;obtain ⟨b,off,hab,fW,hc⟩:=(HL.out _ hbel).row.get hlt;subst hab;obtain ⟨y0,y1,y2,y3,y4,y5,y6,y7⟩:=hc j hlt;have hgl:=qb (fun d:ak=>[d.ino]) ds 0 (fun d=>by unfold fD;first | (simp only[dA,fB];omega) | omega) (j+1);have htl:=zx (ds:=ds) (k:=j+1) (n:=ds.length) (by omega);have hgs:bD (fun d:ak=>[d.ino]) ds (j+1)=bD (fun d:ak=>[d.ino]) ds j++(fun d:ak=>[d.ino]) (au ds j):=rfl;obtain ⟨d,ed⟩:∃ d,au ds j=d:=⟨_,rfl⟩;obtain ⟨s,es⟩:∃ s,ss j=s:=⟨_,rfl⟩;rw[ed,es] at ls;rw[ed] at y0 y1 y2 y3 y4 y5 y6 y7 hgs;rw[es] at y4 y6 y7;have jh:=fK List.length hgs;rw[bY] at jh;simp only[dA,fB] at jh;obtain ⟨acc,ea⟩:∃ acc,bD (fun d:ak=>[d.ino]) ds j=acc:=⟨_,rfl⟩;rw[ea] at hbf hgs jh ⊢;have HS:Hid (bD (fun d:ak=>[d.ino]) ds (j+1)=acc ++ [d.ino]):=hgs;have hle:acc.length+1<=1048576:=by omega
  have e1:(0:Int)<=(j:Int):=by omega
  have e2:(j:Int)<(ds.length:Int):=by omega
  have hB:=hbel.size;have hal:=aB wr (.cells (dZ d s) 49);have bx:=lf d s wr 49;have z0:=bx.c0;have z6:=bx.c6;have z7:=bx.c7;have hb1:=hbf.below hal;have lsA:=ls.below hal;have M1:=hbel.trans (hal.mono hB);have hB1:=bt hB hal.size;clear ed es hc ls ea hgs hgl jh HL;go_wp2_with (at_builtin;refine Ry rfl (.tmp 13) (.tmp 16) rfl hb1 d.ino (by rfl) (H:=wr.heap.size+1) (by simp) (by rfl) (by omega) hB1 ?_;intro g5 c5 w5 f5 l5);go_roundw;case rel=>exact ⟨j+1,some ⟨g5,0,none⟩,c5,by omega,by go_num,by rw[HS.out,bY];rfl,by rw[HS.out,bY];exact f5,M1.trans l5⟩
  case measure=>simp[intOf];omega
 obtain rfl:j=ds.length:=by omega
 clear HL;go_wp2;go_ret;exact ⟨a3,c3,rfl,hbf.own,hbf.fits,hbel⟩
theorem acY (a:Option Addr) (c:Nat) (ds:List ak) (ss:Nat->aA) (w:World) (hn:ds.length<=1048576) (ht:ds.length+ft ds ds.length<=1048576) (hR:aZ w a ds ss):Calls prog 41 #[.slice a ds.length c] w (tV (bD (fun d:ak=>d.fr) ds ds.length) w):=by
 have n1:=aB w (.cells #[] 3);have B1:=fq (base:=w.heap.size) w (aq _);have HL:Hid (∀ W,aj w W->aZ W a ds ss):=fun W hb=>hR.below hb;clear hR;go_enter func41,ntmps41;go_wp2;go_loopw [3,9] (fun p i w'=>∃ (j:Nat) (a':Option Addr) (cap':Nat),j<=ds.length/\i=ad j/\p=.slice a' (bD (fun d:ak=>d.fr) ds j).length cap'/\bo w.heap.size w' a' (bD (fun d:ak=>d.fr) ds j).length cap' (bD (fun d:ak=>d.fr) ds j)/\aj w w') (fun _ i _=>ds.length-(intOf i).toNat);case atStart=>exact ⟨0,_,_,aS _,rfl,rfl,B1,n1⟩
 case round=>
 obtain ⟨j,a3,c3,hj,rfl,rfl,hbf,hbel⟩:=hrel;clear B1 n1;by_cases hlt:j<ds.length
 ·have ls:=(HL.out _ hbel).sub j hlt;obtain ⟨b,off,hab,fW,hc⟩:=(HL.out _ hbel).row.get hlt;subst hab;obtain ⟨y0,y1,y2,y3,y4,y5,y6,y7⟩:=hc j hlt;have hgl:=qb (fun d:ak=>d.fr) ds 0 (fun d=>by unfold fD;first | (simp only[dA,fB];omega) | omega) (j+1);have htl:=zx (ds:=ds) (k:=j+1) (n:=ds.length) (by omega);have hgs:bD (fun d:ak=>d.fr) ds (j+1)=bD (fun d:ak=>d.fr) ds j++(fun d:ak=>d.fr) (au ds j):=rfl;obtain ⟨d,ed⟩:∃ d,au ds j=d:=⟨_,rfl⟩;obtain ⟨s,es⟩:∃ s,ss j=s:=⟨_,rfl⟩;rw[ed,es] at ls;rw[ed] at y0 y1 y2 y3 y4 y5 y6 y7 hgs;rw[es] at y4 y6 y7;have jh:=fK List.length hgs;rw[bY] at jh;simp only[dA,fB] at jh;obtain ⟨acc,ea⟩:∃ acc,bD (fun d:ak=>d.fr) ds j=acc:=⟨_,rfl⟩;rw[ea] at hbf hgs jh ⊢;have HS:Hid (bD (fun d:ak=>d.fr) ds (j+1)=acc++d.fr):=hgs;have hle:acc.length+(d.fr).length<=1048576:=by omega
  have e1:(0:Int)<=(j:Int):=by omega
  have e2:(j:Int)<(ds.length:Int):=by omega
  have hB:=hbel.size;have hal:=aB wr (.cells (dZ d s) 49);have bx:=lf d s wr 49;have z0:=bx.c0;have z6:=bx.c6;have z7:=bx.c7;have hb1:=hbf.below hal;have lsA:=ls.below hal;have M1:=hbel.trans (hal.mono hB);have hB1:=bt hB hal.size;clear ed es hc ls ea hgs hgl jh HL;go_wp2_with (at_builtin;refine pP rfl (.tmp 13) (.tmp 15) rfl hb1 s.a3 s.c3 d.fr (by rfl) (by rfl) lsA.r3 (by omega) hB1 ?_;intro a5 c5 w5 f5 l5);go_roundw;case rel=>exact ⟨j+1,a5,c5,by omega,by go_num,by rw[HS.out,bY],by rw[HS.out,bY];exact f5,M1.trans l5⟩
  case measure=>simp[intOf];omega
 obtain rfl:j=ds.length:=by omega
 clear HL;go_wp2;go_ret;exact ⟨a3,c3,rfl,hbf.own,hbf.fits,hbel⟩
theorem acZ (a:Option Addr) (c:Nat) (ds:List ak) (ss:Nat->aA) (w:World) (hn:ds.length<=1048576) (ht:ds.length+ft ds ds.length<=1048576) (hR:aZ w a ds ss):Calls prog 42 #[.slice a ds.length c] w (tV (bD (fun d:ak=>d.po) ds ds.length) w):=by
 have n1:=aB w (.cells #[] 3);have B1:=fq (base:=w.heap.size) w (aq _);have HL:Hid (∀ W,aj w W->aZ W a ds ss):=fun W hb=>hR.below hb;clear hR;go_enter func42,ntmps42;go_wp2;go_loopw [3,9] (fun p i w'=>∃ (j:Nat) (a':Option Addr) (cap':Nat),j<=ds.length/\i=ad j/\p=.slice a' (bD (fun d:ak=>d.po) ds j).length cap'/\bo w.heap.size w' a' (bD (fun d:ak=>d.po) ds j).length cap' (bD (fun d:ak=>d.po) ds j)/\aj w w') (fun _ i _=>ds.length-(intOf i).toNat);case atStart=>exact ⟨0,_,_,aS _,rfl,rfl,B1,n1⟩
 case round=>
 obtain ⟨j,a3,c3,hj,rfl,rfl,hbf,hbel⟩:=hrel;clear B1 n1;by_cases hlt:j<ds.length
 ·have ls:=(HL.out _ hbel).sub j hlt;obtain ⟨b,off,hab,fW,hc⟩:=(HL.out _ hbel).row.get hlt;subst hab;obtain ⟨y0,y1,y2,y3,y4,y5,y6,y7⟩:=hc j hlt;have hgl:=qb (fun d:ak=>d.po) ds 0 (fun d=>by unfold fD;first | (simp only[dA,fB];omega) | omega) (j+1);have htl:=zx (ds:=ds) (k:=j+1) (n:=ds.length) (by omega);have hgs:bD (fun d:ak=>d.po) ds (j+1)=bD (fun d:ak=>d.po) ds j++(fun d:ak=>d.po) (au ds j):=rfl;obtain ⟨d,ed⟩:∃ d,au ds j=d:=⟨_,rfl⟩;obtain ⟨s,es⟩:∃ s,ss j=s:=⟨_,rfl⟩;rw[ed,es] at ls;rw[ed] at y0 y1 y2 y3 y4 y5 y6 y7 hgs;rw[es] at y4 y6 y7;have jh:=fK List.length hgs;rw[bY] at jh;simp only[dA,fB] at jh;obtain ⟨acc,ea⟩:∃ acc,bD (fun d:ak=>d.po) ds j=acc:=⟨_,rfl⟩;rw[ea] at hbf hgs jh ⊢;have HS:Hid (bD (fun d:ak=>d.po) ds (j+1)=acc++d.po):=hgs;have hle:acc.length+(d.po).length<=1048576:=by omega
  have e1:(0:Int)<=(j:Int):=by omega
  have e2:(j:Int)<(ds.length:Int):=by omega
  have hB:=hbel.size;have hal:=aB wr (.cells (dZ d s) 49);have bx:=lf d s wr 49;have z0:=bx.c0;have z6:=bx.c6;have z7:=bx.c7;have hb1:=hbf.below hal;have lsA:=ls.below hal;have M1:=hbel.trans (hal.mono hB);have hB1:=bt hB hal.size;clear ed es hc ls ea hgs hgl jh HL;go_wp2_with (at_builtin;refine pP rfl (.tmp 13) (.tmp 15) rfl hb1 s.a2 s.c2 d.po (by rfl) (by rfl) lsA.r2 (by omega) hB1 ?_;intro a5 c5 w5 f5 l5);go_roundw;case rel=>exact ⟨j+1,a5,c5,by omega,by go_num,by rw[HS.out,bY],by rw[HS.out,bY];exact f5,M1.trans l5⟩
  case measure=>simp[intOf];omega
 obtain rfl:j=ds.length:=by omega
 clear HL;go_wp2;go_ret;exact ⟨a3,c3,rfl,hbf.own,hbf.fits,hbel⟩
theorem Rz (k:aL) (a:Option Addr) (c:Nat) (ss:Nat->aA) (w:World) (hn:k.ds.length<=1048576) (ht:k.ds.length+ft k.ds k.ds.length<=1048576) (hR:aZ w a k.ds ss):Calls prog 29 #[aU k a c] w (tV (bD (fun d:ak=>d.po) k.ds k.ds.length) w):=by
 have x0:=tU w k a c;have n1:=aB (w.alloc (.cells #[.string k.mem,.string k.ay,.slice a k.ds.length c,ad k.ck] 28)) (.cells #[] 3);have e0:(w.alloc (.cells #[.string k.mem,.string k.ay,.slice a k.ds.length c,ad k.ck] 28)).heap.size=w.heap.size+1:=by simp
 have B1:=fq (base:=w.heap.size+1) (w.alloc (.cells #[.string k.mem,.string k.ay,.slice a k.ds.length c,ad k.ck] 28)) (by rw[e0];exact aq _);unfold aj at n1;rw[e0] at n1 B1;have HB:Hid (∀ W,Below (w.heap.size+1) (w.alloc (.cells #[.string k.mem,.string k.ay,.slice a k.ds.length c,ad k.ck] 28)) W->aj w W/\av w.heap.size (cU k a c) W):=fun W hW=>⟨x0.ah.trans (hW.mono (bP _)),fQ x0.arg hW (gn _)⟩;have HL:Hid (∀ W,aj w W->aZ W a k.ds ss):=fun W hb=>hR.below hb;clear hR x0 e0;go_enter func29,ntmps29;go_wp2;go_loopw [3,4] (fun p i w'=>∃ (j:Nat) (a':Option Addr) (cap':Nat),j<=k.ds.length/\i=ad j/\p=.slice a' (bD (fun d:ak=>d.po) k.ds j).length cap'/\bo (w.heap.size+1) w' a' (bD (fun d:ak=>d.po) k.ds j).length cap' (bD (fun d:ak=>d.po) k.ds j)/\Below (w.heap.size+1) (w.alloc (.cells #[.string k.mem,.string k.ay,.slice a k.ds.length c,ad k.ck] 28)) w') (fun _ i _=>k.ds.length-(intOf i).toNat);case atStart=>exact ⟨0,_,_,aS _,rfl,rfl,B1,n1⟩
 case round=>
 obtain ⟨j,a3,c3,hj,rfl,rfl,hbf,hbel⟩:=hrel;clear B1 n1;obtain ⟨M1,kb⟩:=HB.out _ hbel;have c2:=kb.c2;by_cases hlt:j<k.ds.length
 ·have ls:=(HL.out _ M1).sub j hlt;obtain ⟨b,off,hab,fW,hc⟩:=(HL.out _ M1).row.get hlt;obtain ⟨y0,y1,y2,y3,y4,y5,y6,y7⟩:=hc j hlt;have hgl:=qb (fun d:ak=>d.po) k.ds 0 (fun d=>by unfold fD;first | (simp only[dA,fB];omega) | omega) (j+1);have htl:=zx (ds:=k.ds) (k:=j+1) (n:=k.ds.length) (by omega);have hgs:bD (fun d:ak=>d.po) k.ds (j+1)=bD (fun d:ak=>d.po) k.ds j++(au k.ds j).po:=rfl;obtain ⟨d,ed⟩:∃ d,au k.ds j=d:=⟨_,rfl⟩;obtain ⟨s,es⟩:∃ s,ss j=s:=⟨_,rfl⟩;rw[ed,es] at ls;rw[ed] at y0 y1 y2 y3 y4 y5 y6 y7 hgs;rw[es] at y4 y6 y7;rw[hab] at c2;have jh:=fK List.length hgs;rw[bY] at jh;obtain ⟨acc,ea⟩:∃ acc,bD (fun d:ak=>d.po) k.ds j=acc:=⟨_,rfl⟩;rw[ea] at hbf hgs jh ⊢;have HS:Hid (bD (fun d:ak=>d.po) k.ds (j+1)=acc++d.po):=hgs;have hle:acc.length+d.po.length<=1048576:=by omega
  have e1:(0:Int)<=(j:Int):=by omega
  have e2:(j:Int)<(k.ds.length:Int):=by omega
  have hB:w.heap.size+1<=wr.heap.size:=kb.lt;have lr:=ls.r2;clear ed es hc ls ea hgs hgl jh HL hab;go_wp2_with (at_builtin;refine pP rfl (.tmp 13) (.tmp 19) rfl hbf s.a2 s.c2 d.po (by rfl) (by rfl) lr (by omega) hB ?_;intro a5 c5 w5 f5 l5);go_roundw;case rel=>exact ⟨j+1,a5,c5,by omega,by go_num,by rw[HS.out,bY],by rw[HS.out,bY];exact f5,hbel.trans l5⟩
  case measure=>simp[intOf];omega
 obtain rfl:j=k.ds.length:=by omega
 have e9:decide ((k.ds.length:Int)<(k.ds.length:Int))=false:=by simp
 clear HL HB;go_wp2;go_ret;exact ⟨a3,c3,rfl,hbf.own.mono (bP _),hbf.fits,M1⟩
section
variable {w W W' : World} {mem : ByteArray}
theorem RB {ops:Array Oper} {rest:List Oper} {o:Oper} {A:Act} {Q:Exit->Act->World->Prop} {base g n cap:Nat} {xs:List Value} (T e:TypeId) (z:Value) (bytes:Nat) (hu:prog.underlying T=some (.slice e)) (hinfo:(prog.info? e).map (fun i=>(i.zero,i.size,i.bytes))=some (some z,1,bytes)) (hzc:z.cells.size=1) (hby:bytes<=16) (hgd:o.guard=none) (sl y:Operand) (ho:o.op=.call { callee:=.builtin .append,args:=#[sl,y],argTypes:=#[T,T] }) (hbuf:w.ownsRow base e 1 (bg g n cap) n xs) (v:Value) (hv:v.oneCell'=true) (hs:A.eval sl=bg g n cap) {H:Nat} (hH:w.heap.size=H) (hx:A.eval y=bg H 1 1) (hlen:n+1<=1048576) (hb:base<=w.heap.size) (h:∀ g' cap' w',w'.ownsRow base e 1 (bg g' (n+1) cap') (n+1) (xs ++ [v])->w.grownBy w' (some g)->(g'=g\/w.heap.size<=g')->wpList prog ops Q rest (A.put o.dst (bg g' (n+1) cap')) w'):wpList prog ops Q (o :: rest) A (w.alloc (.cells #[v] e)):=by
 subst hH;obtain ⟨i0,hi,hz0,hz1,hz2⟩:=iW hinfo;have hb2:=hbuf.alloc (.cells #[v] e);have hone:∀ u ∈ [v],u.oneCell'=true:=by intro u hu;simp at hu;subst hu;exact hv
 have hbb:(n+1)*bytes<=140737488355328:=bt (Nat.mul_le_mul hlen hby) (by decide);refine rY _ hgd sl y T ho base e i0 z 1 bytes hu hi hz0 hz1 hz2 hzc (by omega) _ n _ hs hb2 ⟨w.heap.size,0,none⟩ 1 1 [v] hx rfl (rZ (pF w _)) hone (by omega) (by unfold maxLen;omega) hbb (by simp;omega) _ rfl ?_;intro g' cap' w' ho' hg' hl' _;refine h g' cap' w' ho' ((tC w _ _).trans hg') ?_;rcases hl' with q | q
 ·left;have e':g=g':=by simpa [Value.ownBlock] using q
  exact e'.symm
 right;rw[q];simp
theorem ac0:(prog.info? 9).map (fun i=>(i.zero,i.size,i.bytes))=some (some (.string ⟨#[]⟩),1,16):=by kernel_rfl
theorem RC {base g n cap:Nat} {e:TypeId} {xs:List Value} (h:w.ownsRow base e 1 (bg g n cap) n xs):av g xs w:=by
 have hl:xs.length=n:=by have:=h.1;omega
 refine ⟨fun j hj=>?_,fun j hj=>h.frozenAt j,(h.lt g rfl).2⟩;rw[h.cellAt j (by omega),gD hj]
def qZ (l:List (Nat × aV)):List Value:=(List.range 8).map fun (x:Nat)=>.int .i64 (de l (x:Int))
def re (l:List (Nat × aV)):List Value:=(List.range 8).map fun (x:Nat)=>.string (sB l (x:Int))
theorem RD (l:List (Nat × aV)):(qZ l).length=8:=by simp[qZ]
theorem RE (l:List (Nat × aV)):(re l).length=8:=by simp[re]
theorem JI {f:Nat->Value} {x:Nat} (v:Value) (hx:x<8):((List.range 8).map f).set x v=(List.range 8).map fun y=>if y=x then v else f y:=by
 apply List.ext_getElem;·simp
 intro k h1 h2;have hk:k<8:=by simpa using h1
 rw[List.getElem_set];by_cases e:x=k
 ·subst e;simp
 have e':¬ k=x:=fun q=>e q.symm;simp[e,e']
theorem ac1 {l:List (Nat × aV)} {i x:Nat} {nm:ByteArray} (hx:x<8) (h:de l (x:Int) = -1):(qZ l).set x (ad (i:Int))=qZ (l ++ [(i,((x:Int),nm))]):=by
 unfold qZ;rw[JI _ hx];apply H8;intro y _;rw[OS];by_cases e:y=x
 ·subst e;rw[aF rfl,aF rfl,aF h]
 have:¬ ((x:Int)=(y:Int)):=by omega
 rw[aG e,aG this]
theorem ac2 {l:List (Nat × aV)} {i x:Nat} {nm:ByteArray} (hx:x<8) (h:¬ de l (x:Int) = -1):(qZ l).set x (ad (-2))=qZ (l ++ [(i,((x:Int),nm))]):=by
 unfold qZ;rw[JI _ hx];apply H8;intro y _;rw[OS];by_cases e:y=x
 ·subst e;rw[aF rfl,aF rfl,aG h]
 have:¬ ((x:Int)=(y:Int)):=by omega
 rw[aG e,aG this]
theorem ac3 {l:List (Nat × aV)} {i x:Nat} {nm:ByteArray} (hx:x<8) (h:de l (x:Int) = -1):(re l).set x (.string nm)=re (l ++ [(i,((x:Int),nm))]):=by
 unfold re;rw[JI _ hx];apply H8;intro y _;rw[OT];by_cases e:y=x
 ·subst e;rw[aF rfl,aF ⟨rfl,h⟩]
 have:¬ ((x:Int)=(y:Int)/\de l (y:Int) = -1):=fun q=>by have:=q.1;omega
 rw[aG e,aG this]
theorem ac4 {l:List (Nat × aV)} {i x:Nat} {nm:ByteArray} (h:¬ de l (x:Int) = -1):re l=re (l ++ [(i,((x:Int),nm))]):=by
 unfold re;apply H8;intro y _;rw[OT];have:¬ ((x:Int)=(y:Int)/\de l (y:Int) = -1):=fun q=>by
  have e:x=y:=by have:=q.1;omega
  subst e;exact h q.2
 rw[aG this]
theorem ac5:qZ []=List.replicate 8 (ad (-1)):=rfl
theorem ac6:re []=List.replicate 8 (.string ⟨#[]⟩):=rfl
theorem xD {a b:Bool} (h:a=b):Ending.returned (.bool a)=.returned (.bool b):=by rw[h]
theorem ac7 (p:Int->Int) (g c:Nat) (i:Int) (w:World) (hp:∀ x,p x<8) (hB:∀ x:Nat,x<8->af w g x (ad (p (x:Int)))) (hi:i<8):Calls prog 83 #[bg g 8 c,ad i] w (dp (.bool (fR p 8 i)) w):=by
 go_enter func83,ntmps83;go_wp2;go_loop [1,5] (fun v n=>∃ (k:Nat) (j:Int),k<=8/\n=ad k/\v=ad j/\j<8/\fR p (8-k) j=fR p 8 i) (fun _ n=>8-(intOf n).toNat)
 case atStart=>exact ⟨0,i,aS _,rfl,rfl,hi,rfl⟩
 case round=>
 obtain ⟨k,j,hk,rfl,rfl,hj,hr⟩:=hrel;have HR:Hid (fR p (8-k) j=fR p 8 i):=hr;clear hr;by_cases hlt:k<8
 ·have e1:(k:Int)<8:=by omega
  by_cases h0:j=0
  ·subst h0;go_wp2;go_ret;exact ⟨xD (by rw[<- HR.out,OU]),rfl⟩
  have h0':(j == 0)=false:=by simpa using h0
  by_cases hn:j<0
  ·go_wp2;go_ret;exact ⟨xD (by rw[<- HR.out,wU _ _ _ hn]),rfl⟩
  obtain ⟨x,rfl⟩:∃ x:Nat,j=(x:Int):=⟨j.toNat,by omega⟩;have hc:=hB x (by omega);have hn':decide ((x:Int)<0)=false:=by simp
  have b1:(0:Int)<=(x:Int):=by omega
  have b2:(x:Int)<8:=by omega
  have hq:=hp (x:Int);have HS:Hid (fR p (8-(k+1)) (p (x:Int))=fR p 8 i):=by
   show _=_
   rw[<- HR.out,show 8-k=(8-(k+1))+1 by omega,zd _ _ _ (by omega)]
  obtain ⟨q,eq⟩:∃ q,p (x:Int)=q:=⟨_,rfl⟩;rw[eq] at hc hq HS;clear eq hB hp;go_wp2;go_round;case rel=>exact ⟨k+1,q,by omega,by go_num,rfl,hq,HS.out⟩
  case measure=>simp[intOf];omega
 obtain rfl:k=8:=by omega
 have hfin:(j == 0)=fR p 8 i:=by rw[<- HR.out];rfl
 clear HR;obtain ⟨r,er⟩:∃ r,fR p 8 i=r:=⟨_,rfl⟩;rw[er] at hfin;have HE:Hid (fR p 8 i=r):=er;clear er;go_wp2;go_ret;exact ⟨xD HE.out.symm,rfl⟩
theorem RF (mem:ByteArray) (w:World) (hms:mem.size<=281474976710656):Calls prog 80 #[.string mem] w fun e w'=>∃ a c,e=.returned (.slice a (dh (dL mem) 8).length c)/\(dh (dL mem) 8).length<=c/\aQ w.heap.size w' a (dh (dL mem) 8)/\aj w w':=by
 have hG:Hid (∀ (k:Nat) W,Calls prog 135 #[.string (ar mem (k:Int))] W (iZ (ar mem (k:Int)) W)):=fun k W=>uX _ W (yX mem _ hms);have hA:Hid (∀ (k:Nat) W e w',iZ (ar mem (k:Int)) W e w'->∃ (q o s:Int) (a:Option Addr) (c:Nat) (b:Bool),e=.returned (.tuple #[.agg (bj q o s a (dL mem k).length c),.bool b])/\aQ W.heap.size w' a (dL mem k)/\aj W w'):=fun k W e w' ⟨a,c,he,ho,hc,hb⟩=>⟨_,_,_,a,c,_,he,ho,hb⟩;have hL:Hid (∀ (k:Nat) W,_):=fun k W=>vo mem k W hms;have hlen:=xu (xC mem);have b0:=fq (base:=w.heap.size) w (aq _);have l0:=aB w (.cells #[] 3);go_enter func80,ntmps80;go_wp2;go_loopw [3,4] (fun v i w'=>∃ (k n c:Nat) (a:Option Addr),k<=8/\i=ad k/\v=.slice a n c/\bo w.heap.size w' a n c (dh (dL mem) k)/\aj w w') (fun _ i _=>8-(intOf i).toNat);case atStart=>exact ⟨0,0,0,_,aS _,rfl,rfl,b0,l0⟩
 case round=>
 obtain ⟨k,n,c,a,hk,rfl,rfl,hbuf,hbel⟩:=hrel;clear b0 l0;by_cases hlt:k<8
 ·have e1:(k:Int)<8:=by omega
  have HS:Hid (dh (dL mem) k++dL mem k=dh (dL mem) (k+1)):=rfl;have hnl:n<=96:=by have:=hlen k;rw[hbuf.1];omega
  have G5:=xC mem k;have hLk:=hL.out k;have oJ:=hG.out k;have hAk:Hid (∀ W e w',iZ (ar mem (k:Int)) W e w'->∃ (q o s:Int) (a:Option Addr) (c:Nat) (b:Bool),e=.returned (.tuple #[.agg (bj q o s a (dL mem k).length c),.bool b])/\aQ W.heap.size w' a (dL mem k)/\aj W w'):=hA.out k;obtain ⟨zk,CV⟩:∃ zk,dL mem k=zk:=⟨_,rfl⟩;obtain ⟨rk,DC⟩:∃ rk,ar mem (k:Int)=rk:=⟨_,rfl⟩;rw[CV] at HS G5 hAk;rw[DC] at hLk oJ hAk;clear CV DC hL hG hA;go_wp2_with (first
   | (go_at_call 85;refine (hLk _).mono ?_;rintro e wq ⟨rfl,rfl⟩)
   | (go_at_call 135;refine (oJ _).mono ?_;intro e w2 hans;obtain ⟨q,o,s,a2,c2,bb,rfl,o2,b2⟩:=hAk.out _ _ _ hans;clear hans;have n2:=aB w2 (.cells (bj q o s a2 zk.length c2) 117);have y3:=(bu [ad q,ad o,ad s,.slice a2 zk.length c2] w2 117).c3;have lJ:=(hbuf.below b2).below n2;have r2:=(o2.row.below n2);have l2:=(hbel.trans (b2.mono hbel.size)).trans (n2.mono (bt hbel.size b2.size)))
   | (at_builtin;refine pP rfl (.tmp 19) (.tmp 21) rfl lJ _ _ zk (by rfl) (by rfl) r2 (by omega) l2.size ?_;intro a3 c3 w3 AN b3))
  go_roundw;case rel=>exact ⟨k+1,n+zk.length,c3,a3,by omega,by go_num,rfl,by rw[<- HS.out];exact AN,l2.trans b3⟩
  case measure=>simp[intOf];omega
 obtain rfl:k=8:=by omega
 have hn:n=(dh (dL mem) 8).length:=hbuf.1;subst hn;go_wp2;go_ret;exact ⟨a,c,rfl,hbuf.fits,hbuf.own,hbel⟩
end
section
variable {w W W' : World} {mem : ByteArray}
structure FU (w:World) (k g1 c1 g2 c2:Nat) (W:World):Prop where
 o1:W.ownsRow w.heap.size 3 1 (.slice (some ⟨g1,0,none⟩) k c1) k (List.replicate k (.int .i64 (-1)))
 o2:W.ownsRow w.heap.size 9 1 (.slice (some ⟨g2,0,none⟩) k c2) k (List.replicate k (.string ⟨#[]⟩))
 ne:g1≠g2
 ah:aj w W
theorem ac8 (w:World):FU w 0 w.heap.size 0 (w.heap.size+1) 0 ((w.alloc (.cells #[] 3)).alloc (.cells #[] 9)):=by have h2:=tu (base:=w.heap.size) (e:=9) (size:=1) (w.alloc (.cells #[] 3)) #[] 0 (by simp) (aS _) rfl;rw[AZ] at h2;exact ⟨(tu w #[] 0 (aq _) (aS _) rfl).alloc _,h2,by omega,((aK _ _).alloc (aq _) _).alloc (by simp) _⟩
structure fh (w:World) (g1 g2:Nat) (l:List (Nat × aV)) (W:World):Prop where
 b1:av g1 (qZ l) W
 b2:av g2 (re l) W
 ne:g1≠g2
 lo:w.heap.size<=g1/\w.heap.size<=g2
 ah:aj w W
variable {g1 g2 : Nat} {l : List (Nat × aV)}
theorem fh.below (h:fh w g1 g2 l W) (hb:aj W W'):fh w g1 g2 l W':=⟨h.b1.below hb,h.b2.below hb,h.ne,h.lo,h.ah.trans (hb.mono h.ah.size)⟩
theorem fh.drew (h:fh w g1 g2 l W):fh w g1 g2 l W.drew:=⟨h.b1.drew,h.b2.drew,h.ne,h.lo,h.ah.drew⟩
theorem fh.drewN (h:fh w g1 g2 l W) (n:Nat):fh w g1 g2 l (W.drewN n):=⟨h.b1.drewN n,h.b2.drewN n,h.ne,h.lo,cL h.ah n⟩
theorem FU.pr {c1 c2:Nat} (h:FU w 8 g1 c1 g2 c2 W):fh w g1 g2 [] W:=by
 refine ⟨?_,?_,h.ne,⟨(h.o1.lt g1 rfl).1,(h.o2.lt g2 rfl).1⟩,h.ah⟩
 ·rw[ac5];exact RC h.o1
 rw[ac6];exact RC h.o2
theorem fh.par (h:fh w g1 g2 l W) {x:Nat} (hx:x<8):W.cell? ⟨g1,x,none⟩=some (.int .i64 (de l (x:Int))):=by rw[h.b1.cell x (by rw[RD];exact hx)];simp[qZ]
theorem fh.nam (h:fh w g1 g2 l W) {x:Nat} (hx:x<8):W.cell? ⟨g2,x,none⟩=some (.string (sB l (x:Int))):=by rw[h.b2.cell x (by rw[RE];exact hx)];simp[re]
theorem fh.first (h:fh w g1 g2 l W) {i x:Nat} {nm:ByteArray} (hx:x<8) (hp:de l (x:Int) = -1):fh w g1 g2 (l ++ [(i,((x:Int),nm))]) ((W.setCell ⟨g1,x,none⟩ (ad (i:Int))).setCell ⟨g2,x,none⟩ (.string nm)):=by
 refine ⟨?_,?_,h.ne,h.lo,(h.ah.setCell (p:=⟨g1,x,none⟩) h.lo.1 _).setCell (p:=⟨g2,x,none⟩) h.lo.2 _⟩
 ·rw[<- ac1 hx hp];exact (h.b1.set x _).aR h.ne.symm x _
 ·rw[<- ac3 hx hp];exact (h.b2.aR h.ne x _).set x _
theorem fh.more (h:fh w g1 g2 l W) {i x:Nat} {nm:ByteArray} (hx:x<8) (hp:¬ de l (x:Int) = -1):fh w g1 g2 (l ++ [(i,((x:Int),nm))]) (W.setCell ⟨g1,x,none⟩ (ad (-2))):=by
 refine ⟨?_,?_,h.ne,h.lo,h.ah.setCell (p:=⟨g1,x,none⟩) h.lo.1 _⟩
 ·rw[<- ac2 hx hp];exact h.b1.set x _
 rw[<- ac4 hp];exact h.b2.aR h.ne x _
theorem JJ (hm:mem.size=768) (i:Int):mF mem i=aX (ar mem i):=by
 unfold mF;cases h:dY mem i with
 | true=>rfl
 | false=>
  unfold dY at h;rw[bF hm,fe] at h;cases hI:bp (ar mem i) with
  | false=>rw[(wM hI).1];rfl
  | true=>
   rw[hI,fe] at h;have h0:aP (ar mem i) 0=0:=by simpa using h
   rw[(yW hI).1,h0];rfl
theorem ac9 (hm:mem.size=768) (i:Int) (h2:aX (ar mem i)=2):qI mem i=eY mem i:=by
 have h:=JJ hm i;rw[h2] at h;cases hL:dY mem i with
 | false=>rw[(En hL).1] at h;exact absurd h (by decide)
 | true=>exact (wO hL).2.2.2.2
def Cq (mem:ByteArray) (w:World) (e:Ending) (w':World):Prop:=∃ a1 c1 a2 c2,e=.returned (.tuple #[.slice a1 8 c1,.slice a2 8 c2,.bool (kf mem)])/\aj w w'/\(kf mem=true->∃ g1 g2,a1=some ⟨g1,0,none⟩/\a2=some ⟨g2,0,none⟩/\fh w g1 g2 (cr (bK mem) 8) w')
theorem ada (mem:ByteArray) (w:World) (hm:mem.size=768):Calls prog 82 #[.string mem] w (Cq mem w):=by
 have hms:mem.size<=281474976710656:=by omega
 have HN:Hid (∀ g1 c1 g2 c2 w',kf mem=false->aj w w'->Cq mem w (.returned (.tuple #[bg g1 8 c1,bg g2 8 c2,.bool false])) w'):=fun g1 c1 g2 c2 w' h hb=>⟨_,_,_,_,by rw[h],hb,fun h'=>by rw[h] at h';cases h'⟩;have HY:Hid (∀ g1 c1 g2 c2 w',kf mem=true->fh w g1 g2 (cr (bK mem) 8) w'->Cq mem w (.returned (.tuple #[bg g1 8 c1,bg g2 8 c2,.bool true])) w'):=fun g1 c1 g2 c2 w' h hp=>⟨_,_,_,_,by rw[h],hp.ah,fun _=>⟨g1,g2,rfl,rfl,hp⟩⟩;have t0:=ac8 w;obtain ⟨R,hR⟩:∃ R,Cq mem w=R:=⟨_,rfl⟩;rw[hR] at HN HY ⊢;clear hR;go_enter func82,ntmps82;go_wp2;go_loopw [5,6,7] (fun v u i w'=>∃ (k g1 c1 g2 c2:Nat),k<=8/\i=ad k/\v=bg g1 k c1/\u=bg g2 k c2/\FU w k g1 c1 g2 c2 w') (fun _ _ i _=>8-(intOf i).toNat);case atStart=>exact ⟨0,_,_,_,_,aS _,rfl,rfl,rfl,t0⟩
 case round=>
 obtain ⟨k,g1,c1,g2,c2,hk,rfl,rfl,rfl,tw⟩:=hrel;clear t0;by_cases hlt:k<8
 ·have e1:(k:Int)<8:=by omega
  have hg1:=tw.o1.lt g1 rfl;have hg2:=tw.o2.lt g2 rfl;have HG:Hid ((w.heap.size<=g1/\g1<wr.heap.size)/\(w.heap.size<=g2/\g2<wr.heap.size)):=⟨hg1,hg2⟩;clear hg1 hg2;go_wp2_with (first
   | (at_builtin;refine RB 120 9 (.string ⟨#[]⟩) 16 underlying120 ac0 rfl (by decide) rfl (.tmp 26) (.tmp 27) rfl o2' (.string ⟨#[]⟩) rfl (by rfl) rfl (by rfl) (by omega) l2.size ?_;intro g4 c4 w4 o4 C6 q4)
   | (at_builtin;refine RB 29 3 (ad 0) 8 underlying29 tL rfl (by decide) rfl (.tmp 23) (.tmp 24) rfl tw.o1 (ad (-1)) rfl (by rfl) rfl (by rfl) (by omega) tw.ah.size ?_;intro g3 c3 w3 o3 uI q3;have o2':=tw.o2.kept uI (Or.inr (by simpa [Value.ownBlock] using tw.ne.symm));have l2:=tw.ah.trans (xf uI (HG.out.1.1) tw.ah.size)))
  have hG:=HG.out;have o3':=o3.kept C6 (Or.inr (by
   simp only[Value.ownBlock,cF,Option.some.injEq];rcases q3 with e | e
   ·rw[e];exact tw.ne
   omega))
  go_roundw;case rel=>
   refine ⟨k+1,g3,c3,g4,c4,by omega,by go_num,rfl,rfl,⟨by rw[List.replicate_succ'];exact o3',by rw[List.replicate_succ'];exact o4,?_,l2.trans (xf C6 hG.2.1 l2.size)⟩⟩;have h3:=(o3.lt g3 rfl).2;rcases q3 with e | e <;> rcases q4 with e' | e'
   ·rw[e,e'];exact tw.ne
   ·omega
   ·omega
   omega
  case measure=>simp[intOf];omega
 obtain rfl:k=8:=by omega
 have p0:=tw.pr;clear tw;go_wp2;go_loopg [8] 8 (fun gk i W=>∃ k:Nat,k+gk=8/\i=ad k/\bC (fun i=>fv mem (i:Int)) k=true/\fh w g1 g2 (cr (bK mem) k) W)
 case atStart=>exact ⟨0,rfl,rfl,rfl,p0⟩
 case round=>
 obtain ⟨k,hk',rfl,hok,pr⟩:=hrel;obtain ⟨go,rfl⟩:∃ go,go=gk:=⟨_,rfl⟩;clear p0;by_cases hlt2:k<8
 ·have e1:(k:Int)<8:=by omega
  have hLk:Hid (∀ W,_):=fun W=>vo mem k W hms;have oJ:Hid (∀ W,Calls prog 135 #[.string (ar mem (k:Int))] W fun e w'=>∃ (q o s:Int) (a:Option Addr) (n c:Nat),e=.returned (.tuple #[.agg (bj q o s a n c),.bool (bp (ar mem (k:Int)))])/\aj W w'):=fun W=>(uX _ W (yX mem _ hms)).mono fun e w' ⟨a,c,he,ho,hc,hb⟩=>⟨_,_,_,a,_,c,he,hb⟩;have hcase:=QW mem (k:Int);have hLo:Hid (∀ W,Calls prog 81 #[.string mem,ad (k:Int)] W fun e w'=>∃ (o s:Int) (a:Option Addr) (n c:Nat) (bb:Bool),e=.returned (.tuple #[.agg (bj (aX (ar mem (k:Int))) o s a n c),.string (qI mem (k:Int)),.bool bb])/\aj W w'):=fun W=>(vw mem (k:Int) W hms).mono fun e w' ⟨a,c,he,ho,hc,hb⟩=>⟨_,_,a,_,c,_,by rw[<- JJ hm];exact he,hb⟩;have yu:=fun h=>ac9 hm (k:Int) h;have DI:bK mem k=dw mem (k:Int):=rfl;have hfl:cr (bK mem) (k+1)=cr (bK mem) k++(bK mem k).map fun e=>(k,e):=rfl;obtain ⟨rk,DC⟩:∃ rk,ar mem (k:Int)=rk:=⟨_,rfl⟩;rw[DC] at hLk oJ hcase hLo yu;obtain ⟨K,hK⟩:∃ K,aX rk=K:=⟨_,rfl⟩;rw[hK] at hcase hLo yu;obtain ⟨ld,hld⟩:∃ ld,qI mem (k:Int)=ld:=⟨_,rfl⟩;rw[hld] at hLo yu;have HBAD:Hid (fv mem (k:Int)=false->kf mem=false):=fun h=>jD hlt2 h;have oX:Hid (fv mem (k:Int)=true->bC (fun i=>fv mem (i:Int)) (k+1)=true):=fun h=>jW hok h;clear DC hK hld hok;rcases hcase with ⟨gI,hp⟩ | ⟨gI,g2',hp,hE⟩ | ⟨gI,g2',hp,hE⟩
  ·rw[gI] at oJ;have HB2:Hid (kf mem=false):=HBAD.out hp;clear gI hp oX yu DI hfl;go_wp2_with (first
    | (go_at_call 85;refine (hLk.out _).mono ?_;rintro e wq ⟨rfl,rfl⟩)
    | (go_at_call 135;refine (oJ.out _).mono ?_;rintro e w2 ⟨q,o,s,a,n,c,rfl,b2⟩;have l2:=(pr.below b2).ah.alloc (pr.below b2).ah.size (.cells (bj q o s a n c) 117)))
   exact HN.out _ _ _ _ _ HB2.out l2
  ·rw[gI] at oJ;have HO:Hid (bC (fun i=>fv mem (i:Int)) (k+1)=true):=oX.out hp;have HFL:Hid (cr (bK mem) (k+1)=cr (bK mem) k):=by
    show _=_
    rw[hfl,DI,hE];simp
   clear gI hp HBAD yu DI hfl hE;go_wp2_with (first
    | (go_at_call 85;refine (hLk.out _).mono ?_;rintro e wq ⟨rfl,rfl⟩)
    | (go_at_call 135;refine (oJ.out _).mono ?_;rintro e w2 ⟨q,o,s,a,n,c,rfl,b2⟩;have p2:=(pr.below b2).below (aB w2 (.cells (bj q o s a n c) 117)))
    | (go_at_call 81;refine (hLo.out _).mono ?_;rintro e w3 ⟨o3,s3,a3,n3,c3,bb3,rfl,b3⟩;have p3:=(p2.below b3).below (aB w3 (.cells (bj K o3 s3 a3 n3 c3) 117));have y0:=(bu [ad K,ad o3,ad s3,.slice a3 n3 c3] w3 117).c0))
   go_roundg (go-1)
   case measure=>omega
   case rel=>exact ⟨k+1,by omega,by go_num,HO.out,by rw[HFL.out];exact p3⟩
  rw[gI] at oJ;have hK2:K=2:=by simpa using g2'
  subst hK2;have hdd:=yu rfl;subst hdd;have WJ:=Ju mem (k:Int) hm;have Au:Hid (∀ W,Calls prog 136 #[.string (eY mem (k:Int))] W fun e w'=>∃ a c,e=.returned (.tuple #[.slice a (bK mem k).length c,.bool (fv mem (k:Int))])/\dK W.heap.size w' a (bK mem k)/\aj W w'):=fun W=>by rw[hp,DI,hE];exact (EI _ W WJ).mono fun e w' ⟨a,c,he,ho,hc,hb⟩=>⟨a,c,he,ho,hb⟩
  obtain ⟨dd,hdd⟩:∃ dd,eY mem (k:Int)=dd:=⟨_,rfl⟩;rw[hdd] at Au hLo;clear gI g2' hp hE DI yu hdd WJ;cases hnk:fv mem (k:Int) with
  | false=>
   rw[hnk] at Au;have HB2:Hid (kf mem=false):=HBAD.out hnk;clear oX HBAD hnk hfl;go_wp2_with (first
    | (go_at_call 85;refine (hLk.out _).mono ?_;rintro e wq ⟨rfl,rfl⟩)
    | (go_at_call 135;refine (oJ.out _).mono ?_;rintro e w2 ⟨q,o,s,a,n,c,rfl,b2⟩;have p2:=(pr.below b2).below (aB w2 (.cells (bj q o s a n c) 117)))
    | (go_at_call 81;refine (hLo.out _).mono ?_;rintro e w3 ⟨o3,s3,a3,n3,c3,bb3,rfl,b3⟩;have p3:=(p2.below b3).below (aB w3 (.cells (bj 2 o3 s3 a3 n3 c3) 117));have y0:=(bu [ad 2,ad o3,ad s3,.slice a3 n3 c3] w3 117).c0)
    | (go_at_call 136;refine (Au.out _).mono ?_;rintro e w4 ⟨a4,c4,rfl,o4,b4⟩;have p4:=p3.below b4))
   exact HN.out _ _ _ _ _ HB2.out p4.ah
  | true=>
   rw[hnk] at Au;have HO:Hid (bC (fun i=>fv mem (i:Int)) (k+1)=true):=oX.out hnk;clear oX HBAD hnk;go_wp2_with (first
    | (go_at_call 85;refine (hLk.out _).mono ?_;rintro e wq ⟨rfl,rfl⟩)
    | (go_at_call 135;refine (oJ.out _).mono ?_;rintro e w2 ⟨q,o,s,a,n,c,rfl,b2⟩;have p2:=(pr.below b2).below (aB w2 (.cells (bj q o s a n c) 117)))
    | (go_at_call 81;refine (hLo.out _).mono ?_;rintro e w3 ⟨o3,s3,a3,n3,c3,bb3,rfl,b3⟩;have p3:=(p2.below b3).below (aB w3 (.cells (bj 2 o3 s3 a3 n3 c3) 117));have y0:=(bu [ad 2,ad o3,ad s3,.slice a3 n3 c3] w3 117).c0)
    | (go_at_call 136;refine (Au.out _).mono ?_;rintro e w4 ⟨a4,c4,rfl,o4,b4⟩;have p4:=p3.below b4;have Ma:=p3.b1.lt;have Uu:=p3.b2.lt))
   obtain ⟨B0,hB0⟩:∃ B0,(w3.alloc (.cells (bj 2 o3 s3 a3 n3 c3) 117)).heap.size=B0:=⟨_,rfl⟩;rw[hB0] at o4 Ma Uu;clear y0 p3 p2 b2 b3 b4 hB0 Au hLo oJ hLk pr;have pp:fh w g1 g2 (mc (bK mem) k 0) w4:=by rw[YW];exact p4
   go_loopg [16] (bK mem k).length (fun gj i W=>∃ j:Nat,j+gj=(bK mem k).length/\i=ad j/\fh w g1 g2 (mc (bK mem) k j) W/\dK B0 W a4 (bK mem k))
   case atStart=>exact ⟨0,by omega,rfl,pp,o4⟩
   case round=>
    obtain ⟨j,hj,rfl,pr,oe⟩:=hrel;clear pp p4 o4;by_cases hjl:j<(bK mem k).length
    ·have G5:(bK mem k).length<=12:=Rv mem (k:Int);have hmem:=BF hjl;have hin:=(sS mem).ino k _ hmem;have hps:=YZ (bK mem) k j hjl;rcases oe with h0 | ⟨gE,ea,hgE,Dt⟩
     ·rw[h0] at hjl;exact absurd hjl (by simp)
     subst ea;have z1:=(Dt.done j hjl).1;have z2:=(Dt.done j hjl).2;obtain ⟨x,hx⟩:∃ x:Nat,(bS (bK mem k) j).1=(x:Int):=⟨(bS (bK mem k) j).1.toNat,by omega⟩;obtain ⟨nm,hnm⟩:∃ nm,(bS (bK mem k) j).2=nm:=⟨_,rfl⟩;have hent:bS (bK mem k) j=((x:Int),nm):=by rw[<- hx,<- hnm]
     have UH:Hid (mc (bK mem) k (j+1)=mc (bK mem) k j ++ [(k,((x:Int),nm))]):=by
      show _=_
      rw[hps,hent]
     rw[hx] at z1 hin;rw[hnm] at z2;have nP:x<8:=by omega
     have u1:=pr.par nP;have u2:=pr.nam nP;have f1:=pr.b1.free x (by rw[RD];exact nP);have f2:=pr.b2.free x (by rw[RE];exact nP);have d1:(0:Int)<=(j:Int):=by omega
     have d2:(j:Int)<((bK mem k).length:Int):=by omega
     have d3:(0:Int)<=(x:Int):=by omega
     have d4:(x:Int)<8:=by omega
     have HE:Hid (dK B0 wr (some ⟨gE,0,none⟩) (bK mem k)):=Or.inr ⟨gE,rfl,hgE,Dt⟩;have hne1:g1≠gE:=by omega
     have hne2:g2≠gE:=by omega
     by_cases wE:de (mc (bK mem) k j) (x:Int) = -1
     ·have hq:=pr.first (i:=k) (nm:=nm) nP wE;have HQ:Hid (fh w g1 g2 (mc (bK mem) k (j+1)) ((wr.setCell ⟨g1,x,none⟩ (ad (k:Int))).setCell ⟨g2,x,none⟩ (.string nm))):=by
       show fh _ _ _ _ _
       rw[UH.out];exact hq
      rw[wE] at u1;have z1':(wr.setCell ⟨g1,x,none⟩ (ad (k:Int))).cell? ⟨gE,j*2,none⟩=some (ad (x:Int)):=by rw[fJ _ _ _ _ (fun q=>hne1 (yM q).1)];exact z1
      have z2':(wr.setCell ⟨g1,x,none⟩ (ad (k:Int))).cell? ⟨gE,j*2+1,none⟩=some (.string nm):=by rw[fJ _ _ _ _ (fun q=>hne1 (yM q).1)];exact z2
      have u2':(wr.setCell ⟨g1,x,none⟩ (ad (k:Int))).cell? ⟨g2,x,none⟩=some (.string (sB (mc (bK mem) k j) (x:Int))):=by rw[fJ _ _ _ _ (fun q=>pr.ne (yM q).1)];exact u2
      clear pr hq wE hps hent hx hnm hmem hin Dt hfl;go_wp2;go_region
      go_wp2;go_roundg (gk-1)
      case measure=>omega
      case rel=>exact ⟨j+1,by omega,by go_num,HQ.out.drew,(gg (gg HE.out Ma x _) Uu x _).below ((aK _ _).drew)⟩
     have hq:=pr.more (i:=k) (nm:=nm) nP wE;have HQ:Hid (fh w g1 g2 (mc (bK mem) k (j+1)) (wr.setCell ⟨g1,x,none⟩ (ad (-2)))):=by
      show fh _ _ _ _ _
      rw[UH.out];exact hq
     have hpar':(de (mc (bK mem) k j) (x:Int) == -1)=false:=by simpa using wE
     clear pr hq wE hps hent hx hnm hmem hin Dt hfl;go_wp2;go_roundg (gk-1)
     case measure=>omega
     case rel=>exact ⟨j+1,by omega,by go_num,HQ.out,gg HE.out Ma x _⟩
    have hj0:¬ ((j:Int)<((bK mem k).length:Int)):=by omega
    have ahx:fh w g1 g2 (cr (bK mem) (k+1)) wr:=by rw[<- YY,show (bK mem k).length=j by omega];exact pr
    clear pr oe;go_wp2;go_roundg (go-1)
    case measure=>omega
    case rel=>exact ⟨k+1,by omega,by go_num,HO.out,ahx⟩
 obtain rfl:k=8:=by omega
 have HO:Hid (kf mem=true):=hok;clear hok;go_wp2;exact HY.out _ _ _ _ _ HO.out pr
end
section
variable {B : Nat} {N : Nat → cW} {F : Nat → Nat} {P : Nat → ByteArray} {w W W' : World} {mem : ByteArray}
theorem RG (mem:ByteArray) (w:World) (hms:mem.size<=281474976710656):Calls prog 44 #[.string mem] w (zR mem w):=by
 have HN:Hid (∀ w',cv mem=false->aj w w'->zR mem w (.returned (.tuple #[.pointer none,.bool false])) w'):=fun w' h hb=>acT h hb;by_cases hm:mem.size=768
 ·have hz:cv mem=(vH mem && (kf mem && ((bZ mem 0 == 2) && (decide (dh (dL mem) 8).Nodup && gU (bK mem) (bZ mem))))):=by
   unfold cv;rw[bF hm,fe]
  have hpt:Hid (∀ W,Calls prog 90 #[.string mem,ad 0,ad 32] W (aT (.string (aO mem 0 32)) W)):=fun W=>sn _ _ _ _ hms;have nL:Hid (∀ W,_):=fun W=>Bf 32 W;have hwt:Hid (∀ W,Calls prog 97 #[.string (bB 32),ad 0,.string ⟨#[84,78,82,49]⟩] W (aT (.string qX) W)):=fun W=>by have:=yQ (bB 32) 0 ⟨#[84,78,82,49]⟩ W (by decide +kernel) (show 4<=281474976710656 by omega);rw[acM] at this;exact this
  have hho:vH mem=((aO mem 0 32).toList == qX.toList):=rfl;obtain ⟨Q,hQ⟩:∃ Q,aO mem 0 32=Q:=⟨_,rfl⟩;obtain ⟨zz,hzz⟩:∃ zz,bB 32=zz:=⟨_,rfl⟩;obtain ⟨hh,Dn⟩:∃ hh,qX=hh:=⟨_,rfl⟩;rw[hQ] at hpt hho;rw[Dn] at hwt hho;rw[hzz] at nL hwt;have LY:((mem.size:Int) != 768)=false:=by simp;omega
  clear hQ hzz Dn;cases hH:vH mem with
  | false=>
   rw[hH] at hho;rw[hH,dH] at hz;have hne:(Q.toList == hh.toList)=false:=hho.symm;clear hho hH;go_enter func44,ntmps44;go_wp2_with (first
    | (go_at_call 90;refine (hpt.out _).mono ?_;rintro e w1 ⟨rfl,b1⟩)
    | (go_at_call 98;refine (nL.out _).mono ?_;rintro e w2 ⟨rfl,b2⟩)
    | (go_at_call 97;refine (hwt.out _).mono ?_;rintro e w3 ⟨rfl,b3⟩))
   go_ret2;exact HN.out _ hz ((b1.trans (b2.mono b1.size)).trans (b3.mono (bt b1.size b2.size)))
  | true=>
   rw[hH] at hho;rw[hH,fe] at hz;have hne:(Q.toList == hh.toList)=true:=hho.symm;have hz0:=(zero_of_info acI).1;have Mm:Hid (∀ W:World,jL mem W 0 (fun _=>sR) (W.alloc (.cells nI.toArray 136))):=fun W=>acS mem W;obtain ⟨ZC,Wu⟩:∃ ZC,nI.toArray=ZC:=⟨_,rfl⟩;rw[Wu] at hz0 Mm;have HZ:Hid (cv mem=(kf mem && ((bZ mem 0 == 2) && (decide (dh (dL mem) 8).Nodup && gU (bK mem) (bZ mem))))):=hz;clear hho hH Wu hz;go_enter func44,ntmps44;go_wp2_with (first
    | (go_at_call 90;refine (hpt.out _).mono ?_;rintro e w1 ⟨rfl,b1⟩)
    | (go_at_call 98;refine (nL.out _).mono ?_;rintro e w2 ⟨rfl,b2⟩)
    | (go_at_call 97;refine (hwt.out _).mono ?_;rintro e w3 ⟨rfl,b3⟩))
   have l3:aj w w3:=(b1.trans (b2.mono b1.size)).trans (b3.mono (bt b1.size b2.size));have r0:=Mm.out w3;clear b1 b2 b3 hpt nL hwt hz0 Mm hne;go_loopw [20] (fun i W=>∃ (k:Nat) (N:Nat->cW),k<=8/\i=ad k/\bC (fun i=>fv mem (i:Int)) k=true/\jL mem w3 k N W) (fun i _=>8-(intOf i).toNat);case atStart=>exact ⟨0,_,aS _,rfl,rfl,r0⟩
   case round=>
    obtain ⟨k,N,hk,rfl,hok,rd⟩:=hrel;clear r0;by_cases hlt:k<8
    ·have e1:(0:Int)<=(k:Int):=by omega
     have e2:(k:Int)<8:=by omega
     have hrn:Hid (∀ W,Calls prog 99 #[.string mem,ad (k:Int)] W fun e w'=>∃ (q o t:Int) (a:Option Addr) (n c:Nat) (x:ByteArray) (ae:Option Addr) (ne ce:Nat),e=.returned (.tuple #[.agg #[ad q,ad o,ad t,.slice a n c,.string x,.slice ae ne ce],.bool (fv mem (k:Int))])/\aj W w'/\(fv mem (k:Int)=true->∀ B,B<W.heap.size->lB mem B k ⟨q,o,t,a,n,c,x,ae,ne,ce⟩ w')):=fun W=>
      (acF mem (k:Int) W hm).mono fun e w' ⟨q,o,t,a,n,c,x,ae,ne,ce,he,hb,hy⟩=>⟨q,o,t,a,n,c,x,ae,ne,ce,he,hb,fun h B hB=>by obtain ⟨h1,h2,h3,h4,h5,h6,h7,h8,h9⟩:=hy h;exact ⟨h1,h2,h3,h4,h5.mono hB,h6,h7,h8.mono hB,h9⟩⟩
     cases hnk:fv mem (k:Int) with
     | false=>
      rw[hnk] at hrn;have HR:Hid (cv mem=false):=by
       show cv mem=false
       rw[HZ.out,kf,jD hlt hnk,dH]
      clear hnk hok hm;go_wp2_with (go_at_call 99;refine (hrn.out _).mono ?_;rintro e w4 ⟨q,o,t,a,n,c,x,ae,ne,ce,rfl,b4,-⟩);go_ret2;exact HN.out _ HR.out (l3.trans ((((rd.below b4).ah).alloc (bt rd.ah.size b4.size) _).mono l3.size))
     | true=>
      rw[hnk] at hrn;have HO:Hid (bC (fun i=>fv mem (i:Int)) (k+1)=true):=jW hok hnk;clear hnk hok hm;go_wp2_with (go_at_call 99;refine (hrn.out _).mono ?_;rintro e w4 ⟨q,o,t,a,n,c,x,ae,ne,ce,rfl,b4,hy⟩);have uB:=(rd.below b4).below (aB w4 (.cells #[ad q,ad o,ad t,.slice a n c,.string x,.slice ae ne ce] 131));have Ws:lB mem w3.heap.size k ⟨q,o,t,a,n,c,x,ae,ne,ce⟩ (w4.alloc (.cells #[ad q,ad o,ad t,.slice a n c,.string x,.slice ae ne ce] 131)):=(hy (by trivial) w3.heap.size (rd.tb.lt)).below (aB w4 _);have VF:=uB.step hlt Ws;have nb:=bu [ad q,ad o,ad t,.slice a n c,.string x,.slice ae ne ce] w4 131;obtain ⟨v0,v1,v2,v3,v4,v5⟩:=vC nb;have hany:=fun j hj=>uB.tb.any (k*6+j) (by omega:k*6+j<64);obtain ⟨y0,u0⟩:=hany 0 (by omega);obtain ⟨y1,u1⟩:=hany 1 (by omega);obtain ⟨y2,u2⟩:=hany 2 (by omega);obtain ⟨y3,u3⟩:=hany 3 (by omega);obtain ⟨y4,u4⟩:=hany 4 (by omega);obtain ⟨y5,u5⟩:=hany 5 (by omega);have f0:=uB.tb.free (k*6) (by omega);have f1:=uB.tb.free (k*6+1) (by omega);have f2:=uB.tb.free (k*6+2) (by omega);have f3:=uB.tb.free (k*6+3) (by omega);have f4:=uB.tb.free (k*6+4) (by omega);have f5:=uB.tb.free (k*6+5) (by omega);rw[mZ] at u0;have HD:Hid (jL mem w3 (k+1) (vG N k ⟨q,o,t,a,n,c,x,ae,ne,ce⟩) (zQ (w4.alloc (.cells #[ad q,ad o,ad t,.slice a n c,.string x,.slice ae ne ce] 131)) w3.heap.size k ⟨q,o,t,a,n,c,x,ae,ne,ce⟩)):=VF;clear uB Ws VF nb hany hy rd b4 hrn;go_region
      go_wp2;go_roundw;case rel=>exact ⟨k+1,_,by omega,by go_num,HO.out,HD.out.drew⟩
      case measure=>simp[intOf];omega
    obtain rfl:k=8:=by omega
    have hz:cv mem=((bZ mem 0 == 2) && (decide (dh (dL mem) 8).Nodup && gU (bK mem) (bZ mem))):=by rw[HZ.out,kf,hok,fe]
    have x0:=rd.tb.kind (i:=0) (by decide);rw[(rd.nd 0 (by decide)).k,Nat.zero_mul] at x0;have jy:=acH wr rd.tb rd.ps;have HR:Hid (jL mem w3 8 N wr):=rd;have e88:decide ((8:Int)<8)=false:=by decide
    have hbl:=rd.ah;by_cases hk2:bZ mem 0=2
    ·have HW:Hid (∀ W,aj wr W->Calls prog 101 #[aD w3.heap.size 0] W fun e w'=>W.grownBy w' (some w3.heap.size)/\((e=.returned (.bool false)/\gU (bK mem) (bZ mem)=false)\/(e=.returned (.bool true)/\∃ F P,dN w3.heap.size N F P w'/\fM (bK mem) (bZ mem) [] F P/\∀ x,F x<=281474976710656))):=fun W hb=>by
      have rd':=rd.below hb;have:=aag W rd'.tb rd'.ns ((rd.nd 0 (by decide)).k.trans hk2);rw[rd.kinds] at this;exact this
     have HF:Hid (∀ W F P,dN w3.heap.size N F P W->(∀ x,F x<=281474976710656)->Calls prog 102 #[aD w3.heap.size 0] W (dp (.bool (qQ F (bZ mem))) W)):=fun W F P h hF=>by have:=Zi W h (fun i _=>hF i);rw[rd.kinds] at this;exact this
     rw[hk2] at x0;rw[hk2,show ((2:Int) == 2)=true from rfl,fe] at hz
     have HK:Hid (bZ mem 0=2):=hk2;clear rd hok hk2;cases hnd:decide (dh (dL mem) 8).Nodup with
     | false=>
      rw[hnd] at jy;rw[hnd,dH] at hz;clear hnd;go_wp2_with (go_at_call 100;refine jy.mono ?_;rintro e w5 ⟨rfl,b5⟩);go_ret2;exact HN.out _ hz (l3.trans ((hbl.trans (b5.mono hbl.size)).mono l3.size))
     | true=>
      rw[hnd] at jy;rw[hnd,fe] at hz;have HZ2:Hid (cv mem=gU (bK mem) (bZ mem)):=hz;clear hnd hz;have HB:Hid (∀ w5 w6,aj wr w5->w5.grownBy w6 (some w3.heap.size)->aj w w6):=fun w5 w6 b5 g6=>l3.trans (((hbl.trans (b5.mono hbl.size)).trans (xf g6 (aq _) (bt hbl.size b5.size))).mono l3.size);cases hto:gU (bK mem) (bZ mem) with
      | true=>
       have HS:Hid (cv mem=true):=HZ2.out.trans hto;go_wp2_with (first
        | (go_at_call 100;refine jy.mono ?_;rintro e w5 ⟨rfl,b5⟩)
        | (go_at_call 101;refine (HW.out _ b5).mono ?_;rintro e w6 ⟨g6,h6⟩;have h7:=h6.resolve_left (fun q=>by rw[hto] at q;exact absurd q.2 (by simp));obtain ⟨rfl,F,P,t6,i6,Lh⟩:=h7;have hfo:=HF.out w6 F P t6 Lh;rw[i6.done (sS mem) HK.out,hto] at hfo)
        | (go_at_call 102;refine hfo.mono ?_;rintro e w7 ⟨rfl,rfl⟩))
       go_ret2;refine acU HS.out (HB.out _ _ b5 g6) l3.size ⟨t6,fun i hi=>((HR.out.nd i hi).below b5).gr g6,i6⟩
      | false=>
       have HS:Hid (cv mem=false):=HZ2.out.trans hto;have HW2:Hid (∀ W,aj wr W->Calls prog 101 #[aD w3.heap.size 0] W fun e w'=>W.grownBy w' (some w3.heap.size)/\((e=.returned (.bool false)/\gU (bK mem) (bZ mem)=false)\/(e=.returned (.bool true)/\∃ F P,dN w3.heap.size N F P w'/\fM (bK mem) (bZ mem) [] F P/\∀ x,F x<=281474976710656))):=HW.out;go_wp2_with (first
        | (go_at_call 100;refine jy.mono ?_;rintro e w5 ⟨rfl,b5⟩)
        | (go_at_call 101;refine (HW2.out _ b5).mono ?_;rintro e w6 ⟨g6,h6⟩;rcases h6 with ⟨rfl,ht⟩ | ⟨rfl,F,P,t6,i6,Lh⟩))
       ·go_ret2;exact HN.out _ HS.out (HB.out _ _ b5 g6)
       ·have hfo:=HF.out w6 F P t6 Lh;rw[i6.done (sS mem) HK.out,hto] at hfo;go_wp2_with (go_at_call 102;refine hfo.mono ?_;rintro e w7 ⟨rfl,rfl⟩);go_ret2;exact HN.out _ HS.out (HB.out _ _ b5 g6)
    have agj:(bZ mem 0 != 2)=true:=by simpa using hk2
    rw[show (bZ mem 0 == 2)=false by simpa using hk2,dH] at hz;clear rd jy hok;go_wp2;go_ret2;exact HN.out _ hz (l3.trans (hbl.mono l3.size))
 have hz:cv mem=false:=by unfold cv;rw[bq hm,dH]
 have LY:((mem.size:Int) != 768)=true:=by simp;omega
 clear hm;go_enter func44,ntmps44;go_wp2;go_ret2;exact HN.out _ hz (aK _ _)
end
def gl (zs:List Int) (x:Int):List Int:=zs.takeWhile (fun z=>decide (z<x))++x :: zs.dropWhile (fun z=>decide (z<x))
theorem adb {zs:List Int} {x:Int} {k:Nat} (hk:k<=zs.length) (h1:∀ j,j<k->zs.getD j 0<x) (h2:k<zs.length->¬ zs.getD k 0<x):gl zs x=zs.take k++x :: zs.drop k:=by
 induction zs generalizing k with
 | nil=>cases k <;> rfl
 | cons z zs ih=>
  cases k with
  | zero=>
   have h:=h2 (by simp);have h':¬ z<x:=by simpa using h
   simp[gl,NH,NI,h']
  | succ k=>
   have h:=h1 0 (by omega);have h':z<x:=by simpa using h
   have hi:=ih (k:=k) (by simpa using hk) (fun j hj=>by simpa using h1 (j+1) (by omega)) (fun hl=>by simpa using h2 (by simpa using hl));unfold gl at hi ⊢;simp only[NH,NI,bF h',if_true,nS,List.take_succ_cons,List.drop_succ_cons];rw[hi]
theorem ade (zs:List Int) (x:Int):(gl zs x).length=zs.length+1:=by unfold gl;have:=fK List.length (Xi (p:=fun z=>decide (z<x)) (l:=zs));simp only[bY,dA] at this ⊢;omega
theorem RH (zs:List Int) (x:Int):(gl zs x).Perm (x :: zs):=by unfold gl;refine (List.perm_middle).trans ?_;rw[Xi]
theorem adf {zs:List Int} (x:Int) (h:zs.Pairwise (·<=·)):(gl zs x).Pairwise (·<=·):=by
 induction zs with
 | nil=>simp[gl]
 | cons z zs ih=>
  have hz:=uN.1 h;by_cases hx:z<x
  ·have:gl (z :: zs) x=z :: gl zs x:=by simp[gl,NH,NI,hx]
   rw[this,uN];refine ⟨fun y hy=>?_,ih hz.2⟩;rcases iY.1 ((RH zs x).mem_iff.1 hy) with rfl | hm;·omega
   exact hz.1 y hm
  ·have:gl (z :: zs) x=x :: z :: zs:=by simp[gl,NH,NI,hx]
   rw[this,uN];refine ⟨fun y hy=>?_,h⟩;rcases iY.1 hy with rfl | hm;·omega
   have:=hz.1 y hm;omega
theorem adg {a:Option Addr} {c n m:Nat} (h:n=m):Ending.returned (.slice a n c)=.returned (.slice a m c):=by rw[h]
theorem adh {W:World} {g off k:Nat} {zs:List Int} (h:aI W (some ⟨g,off,none⟩) zs) (hk:k<=zs.length):aI W (some ⟨g,off+k,none⟩) (zs.drop k):=by
 rcases h with h | ⟨b,o,e,hlt,hc⟩
 ·subst h;exact Or.inl (by simp)
 cases e;refine Or.inr ⟨g,off+k,rfl,hlt,fun j hj=>?_⟩;rw[jC] at hj;have:=hc (k+j) (by omega);rw[show off+k+j=off+(k+j) by omega,this,eS _ _ (by omega),eS _ _ (by rw[jC];omega),List.getElem_drop]
theorem adi {W:World} {g off k:Nat} {zs:List Int} (h:aI W (some ⟨g,off,none⟩) zs) (hk:k<=zs.length):aI W (some ⟨g,off,none⟩) (zs.take k):=by
 rcases h with h | ⟨b,o,e,hlt,hc⟩
 ·subst h;exact Or.inl (by simp)
 cases e;refine Or.inr ⟨g,off,rfl,hlt,fun j hj=>?_⟩;rw[fO] at hj;rw[hc j (by omega),eS _ _ (by omega),eS _ _ (by rw[fO];omega),Nk]
theorem RI (g off c:Nat) (zs:List Int) (x:Int) (w:World) (hn:zs.length<=1048576) (hc:zs.length<=c) (hR:aI w (some ⟨g,off,none⟩) zs):Calls prog 84 #[.slice (some ⟨g,off,none⟩) zs.length c,ad x] w fun e w'=>∃ a' c',e=.returned (.slice a' (zs.length+1) c')/\bo w.heap.size w' a' (zs.length+1) c' (gl zs x)/\aj w w':=by
 go_enter func84,ntmps84;go_wp2;go_loop [5] (fun i=>∃ k:Nat,k<=zs.length/\(∀ j,j<k->zs.getD j 0<x)/\i=ad k) (fun i=>zs.length-(intOf i).toNat)
 case atStart=>exact ⟨0,aS _,fun j hj=>absurd hj (by omega),rfl⟩
 case round=>
 obtain ⟨k,hk,hless,rfl⟩:=hrel;have hgo:(k<zs.length/\zs.getD k 0<x)\/((k<zs.length->¬ zs.getD k 0<x)):=by
  by_cases h1:k<zs.length
  ·by_cases h2:zs.getD k 0<x;·exact Or.inl ⟨h1,h2⟩
   exact Or.inr fun _=>h2
  exact Or.inr fun h=>absurd h h1
 rcases hgo with ⟨hlt,x2⟩ | hend
 ·obtain ⟨b,xY,hab,_,hcl⟩:=hR.get hlt;cases hab;have x1:=hcl k hlt;have HL:Hid (∀ j,j<k+1->zs.getD j 0<x):=fun j hj=>by
   by_cases h:j=k;·subst h;exact x2
   exact hless j (by omega)
  obtain ⟨z,ez⟩:∃ z,zs.getD k 0=z:=⟨_,rfl⟩;rw[ez] at x1 x2;have e1:(0:Int)<=(k:Int):=by omega
  have e2:(k:Int)<(zs.length:Int):=by omega
  clear ez hcl hR hless;go_wp2;go_round;case rel=>exact ⟨k+1,by omega,HL.out,by go_num⟩
  case measure=>simp[intOf];omega
 have HI:Hid (gl zs x=zs.take k++x :: zs.drop k):=adb hk hless hend;have e1:(0:Int)<=(k:Int):=by omega
 have e2:(k:Int)<=(c:Int):=by omega
 have e3:(k:Int)<=(zs.length:Int):=by omega
 have L0:aj w w.drew:=(aK _ _).drew;have L1:=L0.alloc L0.size (.cells #[] 3);have L2:=L1.alloc L1.size (.cells #[ad x] 3);have M1:=L0.alloc L0.size (.cells #[ad x] 3);have L3:=M1.alloc M1.size (.cells #[] 3);have B1:=fq w.drew L0.size;have B2:=B1.alloc (.cells #[ad x] 3);have B3:=fq (w.drew.alloc (.cells #[ad x] 3)) M1.size;have X2:=qW (w.drew.alloc (.cells #[] 3)) x;have X3:=(qW w.drew x).alloc (.cells #[] 3);have hTr:=adi (k:=k) hR hk;have Ng:=adh (k:=k) hR hk;have ji:(zs.take k).length=k:=by rw[fO];omega
 have hDl:(zs.drop k).length=zs.length-k:=jC;have hsum:k+(zs.length-k)=zs.length:=by omega
 have ahC:(k=zs.length)\/(k<zs.length/\∃ z,af w g (off+k) (ad z)/\decide (z<x)=false):=by
  by_cases h:k<zs.length
  ·right;obtain ⟨b,xY,hab,_,hcl⟩:=hR.get h;cases hab;exact ⟨h,_,hcl k h,by simpa using hend h⟩
  left;omega
 obtain ⟨T,hT⟩:∃ T,zs.take k=T:=⟨_,rfl⟩;obtain ⟨D,hD⟩:∃ D,zs.drop k=D:=⟨_,rfl⟩;rw[hT] at HI hTr ji;rw[hD] at HI Ng hDl;clear hT hD hless hend hR;rcases ahC with hkn | ⟨hkn,z,hz,hzx⟩
 ·subst hkn;obtain rfl:D=[]:=mW (by omega);have e9:decide ((zs.length:Int)<(zs.length:Int))=false:=by simp
  clear Ng hDl hsum;by_cases hcn:c=zs.length
  ·subst c;clear hk hc;go_wp2;go_region_law (first
    | (refine fx rfl (.tmp 27) (.tmp 30) rfl f8 (some ⟨g,off,none⟩) (0) [] (by simp[Act.eval,Act.put,ji]) (by simp[Act.eval,Act.put,ji]) (Or.inl rfl) (by simp only[dA,fB];omega) l8.size ?_;intro a9 c9 w9 f9 g9;have l9:=l8.trans (eK f8 l8.size g9))
    | (refine fx rfl (.tmp 24) (.tmp 26) rfl f7 _ _ [x] (by simp[Act.eval,Act.put,ji]) (by simp[Act.eval,Act.put];rfl) x7 (by simp only[dA,fB];omega) l7.size ?_;intro a8 c8 w8 f8 g8;have l8:=l7.trans (eK f7 l7.size g8))
    | (refine fx rfl (.tmp 24) (.tmp 26) rfl (f7.alloc (.cells #[ad x] 3)) (some ⟨w7.heap.size,0,none⟩) 1 [x] (by simp[Act.eval,Act.put,ji]) (by simp[Act.eval,Act.put]) (qW w7 x) (by simp only[dA,fB];omega) (l7.alloc l7.size _).size ?_;intro a8 c8 w8 f8 g8;have l8:=(l7.alloc l7.size (.cells #[ad x] 3)).trans (eK (f7.alloc (.cells #[ad x] 3)) (l7.alloc l7.size (.cells #[ad x] 3)).size g8))
    | (refine fx rfl (.tmp 20) (.tmp 23) rfl B1 (some ⟨g,off,none⟩) zs.length T (by simp[Act.eval,Act.put]) (by simp[Act.eval,Act.put,ji]) (hTr.below L1) (by omega) L1.size ?_;intro a7 c7 w7 f7 g7;have l7:=L1.trans (eK B1 L1.size g7))
    | (refine fx rfl (.tmp 20) (.tmp 23) rfl B2 (some ⟨g,off,none⟩) zs.length T (by simp[Act.eval,Act.put]) (by simp[Act.eval,Act.put,ji]) (hTr.below L2) (by omega) L2.size ?_;intro a7 c7 w7 f7 g7;have l7:=L2.trans (eK B2 L2.size g7);have x7:=sQ X2 g7 (by rintro p ⟨⟩ h;simp[Value.ownBlock] at h))
    | (refine fx rfl (.tmp 20) (.tmp 23) rfl B3 (some ⟨g,off,none⟩) zs.length T (by simp[Act.eval,Act.put]) (by simp[Act.eval,Act.put,ji]) (hTr.below L3) (by omega) L3.size ?_;intro a7 c7 w7 f7 g7;have l7:=L3.trans (eK B3 L3.size g7);have x7:=sQ X3 g7 (by rintro p ⟨⟩ h;simp[Value.ownBlock] at h)))
   all_goals
    have f9:bo w.heap.size w9 a9 (zs.length+1) c9 (gl zs x):=by rw[HI.out];have hf:=f9;simp only[iX,jQ,nS,tA] at hf;rw[show 0+T.length + [x].length+([]:List Int).length=zs.length+1 by simp only[dA,fB];omega] at hf;exact hf
    go_wp2;go_ret;exact ⟨a9,c9,by rfl,f9,l9⟩
  clear hk;go_wp2;go_region_law (first
   | (refine fx rfl (.tmp 27) (.tmp 30) rfl f8 (some ⟨g,off+zs.length,none⟩) (c-zs.length) [] (by simp[Act.eval,Act.put,ji]) (by simp[Act.eval,Act.put,ji]) (Or.inl rfl) (by simp only[dA,fB];omega) l8.size ?_;intro a9 c9 w9 f9 g9;have l9:=l8.trans (eK f8 l8.size g9))
   | (refine fx rfl (.tmp 24) (.tmp 26) rfl f7 _ _ [x] (by simp[Act.eval,Act.put,ji]) (by simp[Act.eval,Act.put];rfl) x7 (by simp only[dA,fB];omega) l7.size ?_;intro a8 c8 w8 f8 g8;have l8:=l7.trans (eK f7 l7.size g8))
   | (refine fx rfl (.tmp 24) (.tmp 26) rfl (f7.alloc (.cells #[ad x] 3)) (some ⟨w7.heap.size,0,none⟩) 1 [x] (by simp[Act.eval,Act.put,ji]) (by simp[Act.eval,Act.put]) (qW w7 x) (by simp only[dA,fB];omega) (l7.alloc l7.size _).size ?_;intro a8 c8 w8 f8 g8;have l8:=(l7.alloc l7.size (.cells #[ad x] 3)).trans (eK (f7.alloc (.cells #[ad x] 3)) (l7.alloc l7.size (.cells #[ad x] 3)).size g8))
   | (refine fx rfl (.tmp 20) (.tmp 23) rfl B1 (some ⟨g,off,none⟩) c T (by simp[Act.eval,Act.put]) (by simp[Act.eval,Act.put,ji]) (hTr.below L1) (by omega) L1.size ?_;intro a7 c7 w7 f7 g7;have l7:=L1.trans (eK B1 L1.size g7))
   | (refine fx rfl (.tmp 20) (.tmp 23) rfl B2 (some ⟨g,off,none⟩) c T (by simp[Act.eval,Act.put]) (by simp[Act.eval,Act.put,ji]) (hTr.below L2) (by omega) L2.size ?_;intro a7 c7 w7 f7 g7;have l7:=L2.trans (eK B2 L2.size g7);have x7:=sQ X2 g7 (by rintro p ⟨⟩ h;simp[Value.ownBlock] at h))
   | (refine fx rfl (.tmp 20) (.tmp 23) rfl B3 (some ⟨g,off,none⟩) c T (by simp[Act.eval,Act.put]) (by simp[Act.eval,Act.put,ji]) (hTr.below L3) (by omega) L3.size ?_;intro a7 c7 w7 f7 g7;have l7:=L3.trans (eK B3 L3.size g7);have x7:=sQ X3 g7 (by rintro p ⟨⟩ h;simp[Value.ownBlock] at h)))
  all_goals
   have f9:bo w.heap.size w9 a9 (zs.length+1) c9 (gl zs x):=by rw[HI.out];have hf:=f9;simp only[iX,jQ,nS,tA] at hf;rw[show 0+T.length + [x].length+([]:List Int).length=zs.length+1 by simp only[dA,fB];omega] at hf;exact hf
   go_wp2;go_ret;exact ⟨a9,c9,by rfl,f9,l9⟩
 have e4:(k:Int)<(zs.length:Int):=by omega
 have hck:¬ c=k:=by omega
 go_wp2;go_region_law (first
  | (refine fx rfl (.tmp 27) (.tmp 30) rfl f8 (some ⟨g,off+k,none⟩) (c-k) D (by simp[Act.eval,Act.put,ji,hDl]) (by simp[Act.eval,Act.put,ji,hDl]) (Ng.below l8) (by simp only[dA,fB];omega) l8.size ?_;intro a9 c9 w9 f9 g9;have l9:=l8.trans (eK f8 l8.size g9))
  | (refine fx rfl (.tmp 24) (.tmp 26) rfl f7 _ _ [x] (by simp[Act.eval,Act.put,ji,hDl]) (by simp[Act.eval,Act.put];rfl) x7 (by simp only[dA,fB];omega) l7.size ?_;intro a8 c8 w8 f8 g8;have l8:=l7.trans (eK f7 l7.size g8))
  | (refine fx rfl (.tmp 24) (.tmp 26) rfl (f7.alloc (.cells #[ad x] 3)) (some ⟨w7.heap.size,0,none⟩) 1 [x] (by simp[Act.eval,Act.put,ji,hDl]) (by simp[Act.eval,Act.put]) (qW w7 x) (by simp only[dA,fB];omega) (l7.alloc l7.size _).size ?_;intro a8 c8 w8 f8 g8;have l8:=(l7.alloc l7.size (.cells #[ad x] 3)).trans (eK (f7.alloc (.cells #[ad x] 3)) (l7.alloc l7.size (.cells #[ad x] 3)).size g8))
  | (refine fx rfl (.tmp 20) (.tmp 23) rfl B1 (some ⟨g,off,none⟩) c T (by simp[Act.eval,Act.put]) (by simp[Act.eval,Act.put,ji,hDl]) (hTr.below L1) (by omega) L1.size ?_;intro a7 c7 w7 f7 g7;have l7:=L1.trans (eK B1 L1.size g7))
  | (refine fx rfl (.tmp 20) (.tmp 23) rfl B2 (some ⟨g,off,none⟩) c T (by simp[Act.eval,Act.put]) (by simp[Act.eval,Act.put,ji,hDl]) (hTr.below L2) (by omega) L2.size ?_;intro a7 c7 w7 f7 g7;have l7:=L2.trans (eK B2 L2.size g7);have x7:=sQ X2 g7 (by rintro p ⟨⟩ h;simp[Value.ownBlock] at h))
  | (refine fx rfl (.tmp 20) (.tmp 23) rfl B3 (some ⟨g,off,none⟩) c T (by simp[Act.eval,Act.put]) (by simp[Act.eval,Act.put,ji,hDl]) (hTr.below L3) (by omega) L3.size ?_;intro a7 c7 w7 f7 g7;have l7:=L3.trans (eK B3 L3.size g7);have x7:=sQ X3 g7 (by rintro p ⟨⟩ h;simp[Value.ownBlock] at h)))
 all_goals
  have f9:bo w.heap.size w9 a9 (zs.length+1) c9 (gl zs x):=by rw[HI.out];have hf:=f9;simp only[iX,jQ,nS,tA] at hf;rw[show 0+T.length + [x].length+D.length=zs.length+1 by simp only[dA,fB];omega] at hf;exact hf
  go_wp2;go_ret;exact ⟨a9,c9,by refine adg ?_;omega,f9,l9⟩
end Go.Proofs.YtidmmopnkjbjoaaGreatDoor
