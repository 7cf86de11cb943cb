/- Joined texts. -/
import Derived.Test.YtgpfmgaidbjcpaaGreatDoorJhN
import Derived.Test.YtgpfmgaidbjcpaaGreatDoorJhO
import Derived.Test.YtgpfmgaidbjcpaaGreatDoorJhP
set_option linter.unusedVariables false
set_option linter.unusedSimpArgs false
set_option maxRecDepth 10000
set_option maxHeartbeats 16000000
namespace Go.Proofs.YtgpfmgaidbjcpaaGreatDoor
open ChangeShapes WideShapes ChangeAt RowKit
open Go.Proofs.Tryz
def cY (al:List Int) (a:Int) (n:Nat):Nat->List Int
 | 0=>[]
 | k+1=>if (cY al a n k).length<n/\bC al (a+(k:Int))=false then cY al a n k ++ [a+(k:Int)] else cY al a n k
theorem xA (al:List Int) (a:Int) (n:Nat):∀ k,(cY al a n k).length<=n/\(cY al a n k).length<=k
 | 0=>⟨bh _,av _⟩
 | k+1=>by
  have:=xA al a n k;rw[cY];split
  ·rename_i h;rw[de,Zi];omega
  ·omega
theorem J2 {al:List Int} {a:Int} {n k:Nat} (h:¬ (cY al a n k).length<n):∀ j,cY al a n (k+j)=cY al a n k
 | 0=>rfl
 | j+1=>by have ih:=J2 h j;rw[<- wK,cY,ih,aM (fun x=>h x.1)]
theorem FV {al:List Int} {a z:Int} {n:Nat}:∀ {k:Nat},z ∈ cY al a n k->a<=z/\z<a+(k:Int)/\bC al z=false
 | 0,h=>by simp[cY] at h
 | k+1,h=>by
  rw[cY] at h;split at h
  ·rename_i hc;rcases mr.1 h with h | h
   ·have:=FV h;exact ⟨this.1,by omega,this.2.2⟩
   obtain rfl:=pK.1 h;exact ⟨by omega,by omega,hc.2⟩
  ·have:=FV h;exact ⟨this.1,by omega,this.2.2⟩
theorem Sa (a b:Int) (at_:Option Addr) (ct:Nat) (al:List Int) (n:Nat) (w:World) (ha:0<=a) (hab:a<=b+1) (hb:b<=100) (hn:n<=100) (h2:al.length<=281474976710656) (hT:aK w at_ al):Calls prog 85 #[.int .i64 a,.int .i64 b,.slice at_ al.length ct,.int .i64 (n:Int)] w fun e w'=>∃ a' c,e=.returned (.slice a' (cY al a n (b+1-a).toNat).length c)/\aR w.heap.size w' a' (cY al a n (b+1-a).toNat)/\(cY al a n (b+1-a).toNat).length<=c/\Below w.heap.size w w':=by
 obtain ⟨m,hm⟩:∃ m:Nat,(b+1-a).toNat=m:=⟨_,rfl⟩;have qD:b=a+(m:Int)-1:=by omega
 have hm1:m<=101:=by omega
 rw[hm];clear hm;subst b;have n1:=aA w (.cells #[] 3);have B1:=lP (base:=w.heap.size) w (av _);have HR:Hid (∀ W,Below w.heap.size w W->aK W at_ al):=fun W hW=>hT.below hW;clear hT;go_enter func85,ntmps85;go_wp2;go_loopw [9,10] (fun p i w'=>∃ (k:Nat) (a':Option Addr) (cap':Nat),k<=m/\i=.int .i64 (a+(k:Int))/\p=.slice a' (cY al a n k).length cap'/\bH w.heap.size w' a' (cY al a n k).length cap' (cY al a n k)/\Below w.heap.size w w') (fun _ i _=>(a+(m:Int)-intOf i).toNat);case atStart=>exact ⟨0,_,_,bh _,by simp,rfl,B1,n1⟩
 case round=>
 obtain ⟨k,a1,dO,hk,rfl,rfl,hbf,hbel⟩:=hrel;clear B1 n1;have hl:=xA al a n k;by_cases hlt:k<m
 ·have e1:a+(k:Int)<=a+(m:Int)-1:=by omega
  by_cases hln:(cY al a n k).length<n
  ·have rT:=HR.out _ hbel;have hsu:cY al a n (k+1)=if bC al (a+(k:Int))=false then cY al a n k ++ [a+(k:Int)] else cY al a n k:=by
    rw[cY];by_cases hx:bC al (a+(k:Int))=false;·rw[aN ⟨hln,hx⟩,aN hx]
    rw[aM (fun h=>hx h.2),aM hx]
   have e2:((cY al a n k).length:Int)<(n:Int):=by omega
   obtain ⟨acc,ea⟩:∃ acc,cY al a n k=acc:=⟨_,rfl⟩;rw[ea] at hbf hsu hl e2 ⊢;obtain ⟨z,ez⟩:∃ z,a+(k:Int)=z:=⟨_,rfl⟩;have hz0:0<=z:=by omega
   have hz1:z<=202:=by omega
   have HZ:Hid (a+((k+1:Nat):Int)=z+1):=by show _=_;omega
   rw[ez] at hsu e1 ⊢;have hB:=hbel.size;clear hln;by_cases hb:bC al z=true
   ·have hc2:Hid (∀ W,aK W at_ al->Calls prog 81 #[.slice at_ al.length ct,.int .i64 z] W fun e w'=>e=.returned (.bool true)/\w'=W):=fun W hW=>by
     have:=Je at_ ct al z W h2 hW;rwa [hb] at this
    rw[hb,aM (by decide)] at hsu;have HS:Hid (cY al a n (k+1)=acc):=hsu;clear hb hsu ez ea;go_wp2_with (go_at_call 81;refine (hc2.out _ rT).mono ?_;rintro e w4 ⟨rfl,hw4⟩;subst w4);go_roundw;case rel=>exact ⟨k+1,a1,dO,by omega,by rw[HZ.out],by rw[HS.out],by rw[HS.out];exact hbf,hbel⟩
    case measure=>simp[intOf];omega
   have hb':bC al z=false:=by simpa using hb
   have hc2:Hid (∀ W,aK W at_ al->Calls prog 81 #[.slice at_ al.length ct,.int .i64 z] W fun e w'=>e=.returned (.bool false)/\w'=W):=fun W hW=>by have:=Je at_ ct al z W h2 hW;rwa [hb'] at this
   rw[hb',aN rfl] at hsu;have HS:Hid (cY al a n (k+1)=acc ++ [z]):=hsu;clear hb hb' hsu ez ea;go_wp2_with (first
    | (go_at_call 81;refine (hc2.out _ rT).mono ?_;rintro e w4 ⟨rfl,hw4⟩;subst w4)
    | (at_builtin;refine BA rfl (.tmp 28) (.tmp 30) rfl hbf z (by rfl) (by rfl) (by omega) hB ?_;intro g5 c5 w5 f5 l5))
   go_roundw;case rel=>exact ⟨k+1,some ⟨g5,0,none⟩,c5,by omega,by rw[HZ.out],by rw[HS.out];simp,by rw[HS.out,de];exact f5,hbel.trans l5⟩
   case measure=>simp[intOf];omega
  have HE:Hid (cY al a n m=cY al a n k):=by have:=J2 hln (m-k);rwa [show k+(m-k)=m by omega] at this
  have e2:¬ ((cY al a n k).length:Int)<(n:Int):=by omega
  obtain ⟨acc,ea⟩:∃ acc,cY al a n k=acc:=⟨_,rfl⟩;rw[ea] at hbf HE e2 ⊢;clear ea hln hl;go_wp2;go_ret;exact ⟨a1,dO,by rw[HE.out];rfl,by rw[HE.out];exact hbf.own,by rw[HE.out];exact hbf.fits,hbel⟩
 obtain rfl:k=m:=by omega
 have e1:¬ a+(k:Int)<=a+(k:Int)-1:=by omega
 clear hlt hl;go_wp2;go_ret;exact ⟨a1,dO,rfl,hbf.own,hbf.fits,hbel⟩
def iF (m:ByteArray):Nat->List Int
 | 0=>[]
 | k+1=>if cI m (k:Int)=true then iF m k ++ [(k:Int)] else iF m k
theorem J3 (m:ByteArray):∀ k,(iF m k).length<=k
 | 0=>av _
 | k+1=>by
  have:=J3 m k;rw[iF];split
  ·rw[de,Zi];omega
  ·omega
theorem aeN (m:ByteArray) (w:World) (hms:m.size<=281474976710656):Calls prog 88 #[.string m] w fun e w'=>∃ a' c,e=.returned (.slice a' (iF m 8).length c)/\aR w.heap.size w' a' (iF m 8)/\(iF m 8).length<=c/\Below w.heap.size w w':=by
 have n1:=aA w (.cells #[] 3);have B1:=lP (base:=w.heap.size) w (av _);go_enter func88,ntmps88;go_wp2;go_loopw [3,4] (fun p i w'=>∃ (k:Nat) (a':Option Addr) (cap':Nat),k<=8/\i=.int .i64 (k:Int)/\p=.slice a' (iF m k).length cap'/\bH w.heap.size w' a' (iF m k).length cap' (iF m k)/\Below w.heap.size w w') (fun _ i _=>8-(intOf i).toNat);case atStart=>exact ⟨0,_,_,bh _,rfl,rfl,B1,n1⟩
 case round=>
 obtain ⟨k,a1,dO,hk,rfl,rfl,hbf,hbel⟩:=hrel;clear B1 n1;have hl:=J3 m k;by_cases hlt:k<8
 ·have e1:(k:Int)<8:=by omega
  have e0:(0:Int)<=(k:Int):=by omega
  have HL:Hid (∀ W,Calls prog 80 #[.string m,.int .i64 (k:Int)] W fun e w'=>∃ a c,e=.returned (.tuple #[aO (bO m (k:Int)) (cB m (k:Int)) (cX m (k:Int)) a (bV m (k:Int)).length c,.string (dj m (k:Int)),.bool (cI m (k:Int))])/\aR W.heap.size w' a (bV m (k:Int))/\(bV m (k:Int)).length<=c/\Below W.heap.size W w'):=fun W=>Fw m (k:Int) W hms;have hB:=hbel.size;have HN:Hid (∀ (a3:Option Addr) (c3:Nat) (w3:World),Below wr.heap.size wr w3->bH w.heap.size (w3.alloc (.cells #[.int .i64 (bO m (k:Int)),.int .i64 (cB m (k:Int)),.int .i64 (cX m (k:Int)),.slice a3 (bV m (k:Int)).length c3] 35)) a1 (iF m k).length dO (iF m k)/\Below w.heap.size w (w3.alloc (.cells #[.int .i64 (bO m (k:Int)),.int .i64 (cB m (k:Int)),.int .i64 (cX m (k:Int)),.slice a3 (bV m (k:Int)).length c3] 35))):=fun a3 c3 w3 b3=>⟨(hbf.below b3).below (aA _ _),(hbel.trans (b3.mono hB)).trans ((aA _ _).mono (br hB b3.size))⟩;cases hx:cI m (k:Int) with
  | true=>
   have HS:Hid (iF m (k+1)=iF m k ++ [(k:Int)]):=by show _=_;rw[iF,aN hx]
   rw[hx] at HL;obtain ⟨acc,ea⟩:∃ acc,iF m k=acc:=⟨_,rfl⟩;rw[ea] at HN HS hl ⊢;clear ea hbf hbel;go_wp2_with (first
    | (go_at_call 80;refine (HL.out _).mono ?_;rintro e w3 ⟨a3,c3,rfl,o3,q3,b3⟩;obtain ⟨f4,l4⟩:=HN.out a3 c3 w3 b3;have hB4:=l4.size)
    | (at_builtin;go_loud (refine BA rfl (.tmp 21) (.tmp 23) rfl f4 (k:Int) (by rfl) (by simp[Act.eval]) (by omega) hB4 ?_;intro g5 c5 w5 f5 l5)))
   go_roundw;case rel=>exact ⟨k+1,some ⟨g5,0,none⟩,c5,by omega,by go_num,by rw[HS.out];simp,by rw[HS.out,de];exact f5,l4.trans l5⟩
   case measure=>simp[intOf];omega
  | false=>
   have HS:Hid (iF m (k+1)=iF m k):=by show _=_;rw[iF,aM (by rw[hx];decide)]
   rw[hx] at HL;obtain ⟨acc,ea⟩:∃ acc,iF m k=acc:=⟨_,rfl⟩;rw[ea] at HN HS hl ⊢;clear ea hbf hbel;go_wp2_with (go_at_call 80;refine (HL.out _).mono ?_;rintro e w3 ⟨a3,c3,rfl,o3,q3,b3⟩;obtain ⟨f4,l4⟩:=HN.out a3 c3 w3 b3;have hB4:=l4.size);go_roundw;case rel=>exact ⟨k+1,a1,dO,by omega,by go_num,by rw[HS.out],by rw[HS.out];exact f4,l4⟩
   case measure=>simp[intOf];omega
 obtain rfl:k=8:=by omega
 go_wp2;go_ret;exact ⟨a1,dO,rfl,hbf.own,hbf.fits,hbel⟩
theorem aeO (p q r:Option Addr) (w:World):CallsD prog 207 #[.pointer p,.pointer q,.pointer r] .returning w fun e u' w'=>e=.returned (.tuple #[])/\u'=.returning/\w'=w:=by refine callsD_of_wpS func207 rfl fun c₀ cs hu=>?_;apply wpS_seq;apply wpS_region;simp[wpOpsS,go_sem,recoverD,hu,ntmps207,Exit.thenS];apply wpS_seq;apply wpS_region;simp[wpOpsS,go_sem,Exit.thenS,Array.replicate];refine wpS_cond (t:=false) (by simp[Act.eval,Array.replicate]) ?_;simp only[Bool.false_eq_true,if_false];refine wpS_of_wp (wp_skip ?_);cases c₀;simp_all [bodyPostS,results,results207]
theorem aeP (w:World):Calls prog 208 #[.nilIface] w (el (aa 0) w):=by go_enter func208,ntmps208;go_wp2;go_ret;exact ⟨rfl,rfl⟩
def nW:List bJ->List Int
 | []=>[]
 | r :: t=>r.1 :: r.2 :: nW t
theorem FW:∀ l m:List bJ,nW (l++m)=nW l++nW m
 | [],m=>rfl
 | r :: t,m=>by simp[nW,FW t m]
theorem FY (f:Int->bJ):∀ zs:List Int,nW (zs.map f)=zs.flatMap fun z=>[(f z).1,(f z).2]
 | []=>rfl
 | z :: t=>by simp[nW,FY f t]
theorem Sc:∀ (l:List bJ) (i:Nat),i<l.length->(nW l)[i*2]? = some (bB l i).1/\(nW l)[i*2+1]? = some (bB l i).2
 | [],i,h=>by simp at h
 | r :: t,0,_=>by simp[nW,bB]
 | r :: t,i+1,h=>by
  have:=Sc t i (by simpa using h);have e:bB (r :: t) (i+1)=bB t i:=by simp[bB]
  rw[e,show (i+1)*2=i*2+1+1 by omega,show i*2+1+1+1=(i*2+1)+1+1 by omega];simpa [nW] using this
theorem J4:∀ l:List bJ,(nW l).length=l.length*2
 | []=>rfl
 | r :: t=>by simp[nW,J4 t];omega
def bD (d:ai):List bJ:=if bZ d then [(aZ d.ino,16)]++d.pg.map (fun p=>(p*32,32))++d.po.map (fun p=>(p*32,32))++d.fr.map (fun f=>(aZ f,16)) else []
theorem Sd (d:ai):nW (bD d)=lR d:=by
 unfold bD lR;split
 ·rw[FW,FW,FW,FY,FY,FY];unfold ft pZ;rw[nC,nC,nC];rfl
 rfl
theorem Se (d:ai):(bD d).length=sO d:=by
 unfold bD sO;split
 ·simp;omega
 rfl
theorem Sf (d:ai):(bD d).length<=13:=by
 unfold bD;cases h:bZ d with
 | false=>simp
 | true=>
  obtain ⟨-,-,-,-,-,-,rL,pA,hf2,-,-,-,-⟩:=jt h;simp;omega
theorem FZ (d:ai):∀ r ∈ bD d,0<=r.1/\16<=r.2/\r.1+r.2<=768:=by
 unfold bD;cases h:bZ d with
 | false=>simp
 | true=>
  obtain ⟨-,-,-,-,hi,-,-,-,-,kc,hfr,-,-⟩:=jt h;have gY:=(nM.1 kc).1;have hrec:∀ z:Int,0<=z->z<=7->aZ z=32+z*16:=by intro z h0 h7;unfold aZ;rw[aN (nK.2 ⟨h0,h7⟩)]
  intro r hr;simp only[if_true,mr,sq,pK] at hr;rcases hr with ((hr | ⟨p,hp,hr⟩) | ⟨p,hp,hr⟩) | ⟨f,hf,hr⟩
  ·subst hr;rw[hrec _ hi.1 hi.2];simp;omega
  ·subst hr;have:=gY p (List.mem_append_left _ hp);simp;omega
  ·subst hr;have:=gY p (DU _ hp);simp;omega
  ·subst hr;have:=hfr f hf;rw[hrec f (by omega) (by omega)];simp;omega
theorem aeQ (d:ai) {i:Nat} (h:i<(bD d).length):0<=(bB (bD d) i).1/\16<=(bB (bD d) i).2/\(bB (bD d) i).1+(bB (bD d) i).2<=768:=by rw[oK _ _ h];exact FZ d _ (ny h)
def tX (d:ai) (i n:Int):Bool:=decide (1<=n/\n<=768/\0<=i/\i<=768-n) && sL (bD d) i n.toNat
theorem aeR (d:ai) (i n:Int) (h:0<=i/\i<768/\1<=n/\n<=768):tX d i n=sL (bD d) i n.toNat:=by
 unfold tX;by_cases e:i<=768-n;·rw[bK (by omega),fJ]
 rw[bA (by omega),dC];cases hc:sL (bD d) i n.toNat with
 | false=>rfl
 | true=>
  exfalso;obtain ⟨r,hr,h1,h2⟩:=Fi.1 (Fj.1 hc 768 (by omega) (by omega));have:=FZ d r hr;omega
theorem aeS (d:ai) (i n:Int) (h:¬ (0<=i/\i<768/\1<=n/\n<=768)):tX d i n=false:=by unfold tX;rw[bA (by omega),dC]
def aeT (d:ai) (a:Option Addr) (lo:Nat) (W:World):Prop:=bD d=[]\/∃ G,a=some ⟨G,0,none⟩/\lo<=G/\az G (cR (lR d)) W
theorem Sg {d:ai} {a:Option Addr} {lo:Nat} {W:World} (h:aR lo W a (lR d)):aeT d a lo W:=by
 rcases h with h | h
 ·left;have:=J4 (bD d);rw[Sd,h] at this;simp at this;exact sn (by omega)
 exact Or.inr h
theorem Sh {d:ai} {G:Nat} {W:World} (h:az G (cR (lR d)) W) {i:Nat} (hi:i<(bD d).length):W.cell? ⟨G,i*2,none⟩=some (.int .i64 (bB (bD d) i).1)/\W.cell? ⟨G,i*2+1,none⟩=some (.int .i64 (bB (bD d) i).2):=by
 obtain ⟨h1,h2⟩:=Sc (bD d) i hi;have hl:=J4 (bD d);rw[Sd] at h1 h2 hl;have c1:=h.cell (i*2) (by simp[cR];omega);have c2:=h.cell (i*2+1) (by simp[cR];omega);rw[c1,c2];obtain ⟨q1,e1⟩:=qI.1 h1;obtain ⟨q2,e2⟩:=qI.1 h2;constructor;·simp[cR,e1]
 simp[cR,e2]
section
structure jT (g:Nat) (b:Nat->Nat) (n:Nat) (D:Nat->ai) (ss:Nat->aI) (L:List Value) (W:World):Prop where
 len:L.length=n*8
 aF:az g L W
 at_:∀ j,j<n->oM L (j*8) (D j) (ss j)
 sub:∀ j,j<n->∃ m1 m2,iA (b j) m1 m2 (b (j+1)) (ss j) (D j).pg (D j).po (D j).fr W
 gb:g<b 0
 hi:b n<=W.heap.size
variable {g n k : Nat} {b : Nat → Nat} {D : Nat → ai} {ss : Nat → aI} {L : List Value} {w W W' : World}
theorem aeU {ds:List ai} (h:zR g b ds ss L W):jT g b ds.length (aJ ds) ss L W:=⟨h.len,h.aF,h.at_,h.sub,h.gb,h.hi⟩
theorem jT.below (h:jT g b n D ss L W) (hb:ah W W'):jT g b n D ss L W':=⟨h.len,h.aF.below hb,h.at_,fun j hj=>by obtain ⟨m1,m2,q⟩:=h.sub j hj;exact ⟨m1,m2,q.below hb⟩,h.gb,br h.hi hb.size⟩
theorem jT.step1 (h:jT g b n D ss L W) (j:Nat) (hj:j<n):b j<=b (j+1):=by obtain ⟨m1,m2,q⟩:=h.sub j hj;have:=q.le;omega
theorem jT.mono (h:jT g b n D ss L W) (i:Nat):∀ d,i+d<=n->b i<=b (i+d)
 | 0,_=>av _
 | d+1,hd=>br (h.mono i d (by omega)) (h.step1 (i+d) (by omega))
theorem jT.le (h:jT g b n D ss L W) {i j:Nat} (hij:i<=j) (hj:j<=n):b i<=b j:=by have:=h.mono i (j-i) (by omega);rwa [show i+(j-i)=j by omega] at this
variable {s : aI} {n1 n2 n3 : Nat}
end
section
def mW (lo hi:Nat) (a:Option Addr) (ds:List ai) (W:World):Prop:=ds=[]\/∃ g b ss L,a=some ⟨g,0,none⟩/\lo<=g/\b ds.length<=hi/\jT g b ds.length (aJ ds) ss L W
variable {lo hi lo' hi' g n : Nat} {a : Option Addr} {ds : List ai} {w W W' : World} {b : Nat → Nat} {D : Nat → ai} {ss : Nat → aI} {L : List Value}
theorem J5 (h:mV lo a ds W):mW lo W.heap.size a ds W:=h.imp id fun ⟨g,b,ss,L,e,h1,h2⟩=>⟨g,b,ss,L,e,h1,h2.hi,aeU h2⟩
theorem mW.below (h:mW lo hi a ds W) (hb:ah W W'):mW lo hi a ds W':=h.imp id fun ⟨g,b,ss,L,e,h1,h2,h3⟩=>⟨g,b,ss,L,e,h1,h2,h3.below hb⟩
theorem aeV (h:jT g b n D ss L W) (hb:cM lo' hi' W W') (hx:hi'<=g\/b n<=lo'):jT g b n D ss L W':=by have h0:=h.gb;have h1:=h.le (bh n) (av _);refine ⟨h.len,Cq h.aF hb (by omega),h.at_,fun j hj=>?_,h.gb,br h.hi hb.size⟩;obtain ⟨m1,m2,q⟩:=h.sub j hj;have h2:=h.le (i:=0) (j:=j) (bh _) (by omega);have h3:=h.le (i:=j+1) (j:=n) (by omega) (av _);exact ⟨m1,m2,q.mL hb (by omega)⟩
theorem mW.Yl (h:mW lo hi a ds W):∃ ss,cN W a ds ss:=by
 rcases h with rfl | ⟨g,b,ss,L,rfl,h1,h2,h3⟩;·exact ⟨fun _=>eV,Or.inl rfl,fun j hj=>by simp at hj⟩
 refine ⟨ss,Or.inr ⟨g,0,rfl,h3.aF.lt,fun j hj=>?_⟩,fun j hj=>?_⟩
 ·rw[dW];exact Cm h3.aF (h3.at_ j hj)
 obtain ⟨m1,m2,q⟩:=h3.sub j hj;exact q.lists
end
theorem Si (a b:ByteArray) (i n:Int) (w:World) (ha:a.size<=281474976710656) (hb:b.size<=281474976710656):Calls prog 145 #[.agg #[.string a,.string b],aa i,aa n] w (aV (.agg #[.string a,.string (fC a b i n)]) w):=by
 have hm:a.size<=maxLen:=by unfold maxLen;omega
 by_cases hgo:oR a b i n=true
 ·obtain ⟨⟨Hn,rR⟩,hi,hn,hin⟩:=JQ hgo;have e:fC a b i n=⟨(dZ a.data.toList b.data.toList (nT (i.toNat / 8) ((i.toNat+n.toNat-1) / 8))).toArray⟩:=aN hgo;rw[e];exact RD a b i n w Hn rR hi hn hin
 have e:fC a b i n=b:=aM hgo;rw[e];have hF:=xi a b w;by_cases hok:dY a b=true
 ·by_cases rW:dq a.size i n=true
  ·have hn0:n=0:=by
    by_cases h:n=0;·exact h
    exact absurd (by rw[oR,hok,rW,bA h];rfl) hgo
   subst hn0;clear hgo e;go_enter func145,ntmps145;go_wp2_with (first
    | (go_at_call 47;refine (zI _ _ ha hb hF).mono ?_;rintro e w1 ⟨rfl,h1⟩;have c0:=h1.c0;have c1:=h1.c1)
    | (go_at_call 37;refine ((pL _ _ _ _ hm).mono fun _ _ h=>(⟨h.1,h.2.symm⟩:_/\_=_)).mono ?_;rintro e w' ⟨rfl,rfl⟩)
    | (go_at_call 45;refine (E9 _ _ ha hb h1).mono ?_;rintro e w2 ⟨rfl,h2⟩;obtain ⟨d0,d1,d2,d3,d4,d5,d6,d7,d8,d9⟩:=id h2))
   have q:=oJ (a:=a) (b:=b) d2 d3;exact bF (v:=.agg #[.string a,.string b]) (by simp[results,results145,go_sem,q.1,q.2]) rfl ⟨rfl,h2.done _ _⟩
  have LU:dq a.size i n=false:=by simpa using rW
  clear hgo e rW;go_enter func145,ntmps145;go_wp2_with (first
   | (go_at_call 47;refine (zI _ _ ha hb hF).mono ?_;rintro e w1 ⟨rfl,h1⟩;have c0:=h1.c0;have c1:=h1.c1)
   | (go_at_call 37;refine ((pL _ _ _ _ hm).mono fun _ _ h=>(⟨h.1,h.2.symm⟩:_/\_=_)).mono ?_;rintro e w' ⟨rfl,rfl⟩)
   | (go_at_call 45;refine (E9 _ _ ha hb h1).mono ?_;rintro e w2 ⟨rfl,h2⟩;obtain ⟨d0,d1,d2,d3,d4,d5,d6,d7,d8,d9⟩:=id h2))
  have q:=oJ (a:=a) (b:=b) d2 d3;exact bF (v:=.agg #[.string a,.string b]) (by simp[results,results145,go_sem,q.1,q.2]) rfl ⟨rfl,h2.done _ _⟩
 have hok':dY a b=false:=by simpa using hok
 clear hgo e hok;go_enter func145,ntmps145;go_wp2_with (first
  | (go_at_call 47;refine (zI _ _ ha hb hF).mono ?_;rintro e w1 ⟨rfl,h1⟩;have c0:=h1.c0;have c1:=h1.c1)
  | (go_at_call 37;refine ((pL _ _ _ _ hm).mono fun _ _ h=>(⟨h.1,h.2.symm⟩:_/\_=_)).mono ?_;rintro e w' ⟨rfl,rfl⟩)
  | (go_at_call 45;refine (E9 _ _ ha hb h1).mono ?_;rintro e w2 ⟨rfl,h2⟩;obtain ⟨d0,d1,d2,d3,d4,d5,d6,d7,d8,d9⟩:=id h2))
 have q:=oJ (a:=a) (b:=b) d2 d3;exact bF (v:=.agg #[.string a,.string b]) (by simp[results,results145,go_sem,q.1,q.2]) rfl ⟨rfl,h2.done _ _⟩
def CA (a b:ByteArray) (i:Int) (t:ByteArray):ByteArray:=dV a b i t
def CB (a b:ByteArray) (i:Int) (t:ByteArray):ByteArray:=fC (dV a b i t) b i (t.size:Int)
theorem aeW (a b:ByteArray) (i:Int) (t:ByteArray) (w:World) (ha:a.size<=281474976710656) (hb:b.size<=281474976710656) (ht:t.size<=1000) (wi:(Lit.int .i64 i).wf=true) (hs:(dV a b i t).size<=281474976710656):Calls prog 89 #[.agg #[.string a,.string b],aa i,.string t] w (aV (.agg #[.string (CA a b i t),.string (CB a b i t)]) w):=by
 have n0:=aA w (.cells #[.string a,.string b] 25);have k0:=aY [.string a,.string b] w 25;have n1:=aA (w.alloc (.cells #[.string a,.string b] 25)) (.cells #[.string ⟨#[]⟩,.string ⟨#[]⟩] 25);have k1:az (w.heap.size+1) [.string ⟨#[]⟩,.string ⟨#[]⟩] ((w.alloc (.cells #[.string a,.string b] 25)).alloc (.cells #[.string ⟨#[]⟩,.string ⟨#[]⟩] 25)):=dR (B:=w.heap.size+1) [.string ⟨#[]⟩,.string ⟨#[]⟩] _ 25 (by simp);have b1:=n0.trans (n1.mono n0.size);have j0:=k0.below n1;have wt:(Lit.int .i64 (t.size:Int)).wf=true:=by simp[Lit.wf,IntKind.min,IntKind.max,IntKind.signed,IntKind.bits];omega
 have HS:Hid (∀ W,Calls prog 132 #[.agg #[.string a,.string b],aa i,.string t] W (aV (.agg #[.string (CA a b i t),.string b]) W)):=fun W=>abv a b i t W ha hb (by omega);have HF:Hid (∀ W,Calls prog 131 #[.agg #[.string (CA a b i t),.string b],aa i,aa (t.size:Int)] W (aV (.agg #[.string (CA a b i t),.string (CB a b i t)]) W)):=fun W=>adq (dV a b i t) b i t.size W hs hb wi wt;generalize CA a b i t=x at HS HF ⊢;generalize CB a b i t=y at HF ⊢;have c0:=j0.c0;have c1:=j0.c1;clear wt hs wi n0 n1 k0;go_enter func89,ntmps89;go_wp2_with (first
  | (go_at_call 132;refine (HS.out _).mono ?_;rintro e w2 ⟨rfl,b2⟩;have k2:=k1.below b2;have l2:=b1.trans (b2.mono b1.size))
  | (go_at_call 131;refine (HF.out _).mono ?_;rintro e w3 ⟨rfl,b3⟩;have k3:=k2.below b3;have l3:=l2.trans (b3.mono l2.size);have e0:=k3.c0;have e1:=k3.c1;have f0:=k3.f0;have f1:=k3.f1))
 have q:=(k3.set 0 (.string x)).set 1 (.string y);simp only[gx,gL] at q;have r0:=q.c0;have r1:=q.c1;have bE:=(l3.setCell (p:=⟨w.heap.size+1,0,none⟩) (bS _) (.string x)).setCell (p:=⟨w.heap.size+1,1,none⟩) (bS _) (.string y);refine bF (v:=.agg #[.string x,.string y]) (by simp[results,results89,go_sem,r0,r1]) rfl ?_;exact ⟨rfl,bE⟩
theorem F5 {P:Program} {md:Region.Mode} {ops:Array Oper} {Q:Exit->Act->World->Prop} {S:World->Prop} {n:Nat} {a:Act} {w:World} {i f:Nat} {o:Oper} {listed:Array Bool} {fuel:Nat} (hr:Region.ready md ops listed=[i]) (ho:ops[i]? = some o) (hw:Region.wanted o (yielded ops a.tmps)=true) (x y z:Operand) (ts:Array TypeId) (hop:o.op=.call { callee:=.value (.func f),args:=#[x,y,z],argTypes:=ts }) (v u1 u2:Value) (hx0:a.eval x=v) (hx1:a.eval y=u1) (hx2:a.eval z=u2) (eg:∀ args w,(callFunc f args).run P w=.ok (.enter f args) w) (hc:Calls P f #[v,u1,u2] w fun e w'=>∃ u,e=.returned u/\S w'/\ik P md ops Q S n fuel (listed.setIfInBounds i true) (a.put o.dst u) w'):ik P md ops Q S n (fuel+1) listed a w:=by
 refine zP hr (by simp) ?_;intro j hj;obtain rfl:j=i:=by simpa using hj
 unfold wpOp;rw[ho];refine iU hw (.inl ?_);have he:(execOp a.eval o).run P w=.ok (.enter f #[v,u1,u2]) w:=by subst hx0 hx1 hx2;simp[execOp,hop,resolve,go_sem,invoke,eg]
 unfold Oper.wp;rw[he];refine kZ hc ?_;rintro e w' ⟨u,rfl,hS,h⟩;exact ⟨fun _=>hS,h⟩
theorem qi {P:Program} {md:Region.Mode} {ops:Array Oper} {Q:Exit->Act->World->Prop} {S:World->Prop} {n:Nat} {a:Act} {w w':World} {u:Value} {i:Nat} {o:Oper} {listed:Array Bool} {fuel:Nat} (hr:Region.ready md ops listed=[i]) (ho:ops[i]? = some o) (hw:Region.wanted o (yielded ops a.tmps)=true) (he:(execOp a.eval o).run P w=.ok (.value u) w') (hS:S w') (h:ik P md ops Q S n fuel (listed.setIfInBounds i true) (a.put o.dst u) w'):ik P md ops Q S n (fuel+1) listed a w:=by
 refine zP hr (by simp) ?_;intro j hj;obtain rfl:j=i:=by simpa using hj
 unfold wpOp;rw[ho];refine iU hw (.inl ?_);unfold Oper.wp;rw[he];exact ⟨fun _=>hS,h⟩
theorem Sj (P:Nat) (x0 x1 x4 x5:Value) (a b:ByteArray) (i n:Int) (w:World) (hk:az P [x0,x1,.string a,.string b,x4,x5] w) (ha:a.size<=281474976710656) (hb:b.size<=281474976710656) (hz:(bG n).size<=281474976710656) (hs:(dV a b i (bG n)).size<=281474976710656):Calls prog 211 #[ao P 0,aa i,aa n] w fun e w'=>e=.returned (.tuple #[])/\az P [x0,x1,.string (dV a b i (bG n)),.string (fC (dV a b i (bG n)) b i n),x4,x5] w'/\∃ V,ah w V/\w'=(V.setCell ⟨P,2,none⟩ (.string (dV a b i (bG n)))).setCell ⟨P,3,none⟩ (.string (fC (dV a b i (bG n)) b i n)):=by
 have HZ:Hid (∀ W,_):=fun W=>wR n W;have HS:Hid (∀ W,_):=fun W=>Qe a b i (bG n) W ha hb hz;have HF:Hid (∀ W,_):=fun W=>Si (dV a b i (bG n)) b i n W hs hb;generalize fC (dV a b i (bG n)) b i n=y at HF ⊢;generalize dV a b i (bG n)=x at HS HF hs ⊢;generalize bG n=z at HZ HS hz;have kd:=hk.drew;have s0:w.drew.cell? ⟨P,2,none⟩=some (.string a)/\w.drew.cell? ⟨P,3,none⟩=some (.string b):=⟨kd.c2,kd.c3⟩;go_enter func211,ntmps211;go_wp2;refine Cp (n:=16) (S:=fun W=>ad W P 2 (.string a)/\ad W P 3 (.string b)) (by kernel_rfl) ?_;refine mz 0 (ao P 0) s0 ?_;refine mz 1 (ao P 0) s0 ?_;refine jc 2 (ao P 0) s0 ?_;refine jc 3 (ao P 2) s0 ?_;refine jc 4 (ao P 2) s0 ?_;refine jc 5 (.agg #[.string a,.string b]) s0 ?_;refine mz 6 (aa i) s0 ?_;refine mz 7 (aa n) s0 ?_;refine mz 10 (aa i) s0 ?_;refine mz 11 (aa n) s0 ?_;refine Fy (i:=8) (by kernel_rfl) rfl (by rfl) (.tmp 13) _ rfl (aa n) (by rfl) (bo func42 (by kernel_rfl) rfl) ((HZ.out _).mono ?_);rintro e w1 ⟨rfl,b1⟩;have k1:=kd.below b1;refine ⟨_,rfl,⟨k1.c2,k1.c3⟩,?_⟩;simp only[ar,Act.put,Nat.reduceAdd];refine F5 (i:=9) (by kernel_rfl) rfl (by rfl) (.tmp 11) (.tmp 12) (.tmp 14) _ rfl (.agg #[.string a,.string b]) (aa i) (.string z) (by rfl) (by rfl) (by rfl) (bo func153 (by kernel_rfl) rfl) ((HS.out _).mono ?_);rintro e w2 ⟨rfl,b2⟩;have k2:=k1.below b2;refine ⟨_,rfl,⟨k2.c2,k2.c3⟩,?_⟩;simp only[ar,Act.put,Nat.reduceAdd];refine F5 (i:=12) (by kernel_rfl) rfl (by rfl) (.tmp 15) (.tmp 16) (.tmp 17) _ rfl (.agg #[.string x,.string b]) (aa i) (aa n) (by rfl) (by rfl) (by rfl) (bo func145 (by kernel_rfl) rfl) ((HF.out _).mono ?_);rintro e w3 ⟨rfl,b3⟩;have k3:=k2.below b3;refine ⟨_,rfl,⟨k3.c2,k3.c3⟩,?_⟩;simp only[ar,Act.put,Nat.reduceAdd];refine qi (i:=13) (u:=ao P 0) (w':=w3) (by kernel_rfl) rfl (by rfl) ?_ ⟨k3.c2,k3.c3⟩ ?_;·go_simp
 simp only[ar,Act.put,Nat.reduceAdd];refine qi (i:=14) (u:=ao P 2) (w':=w3) (by kernel_rfl) rfl (by rfl) ?_ ⟨k3.c2,k3.c3⟩ ?_;·go_simp
 simp only[ar,Act.put,Nat.reduceAdd];refine qi (i:=15) (u:=ao P 2) (w':=w3) (by kernel_rfl) rfl (by rfl) ?_ ⟨k3.c2,k3.c3⟩ ?_;·go_simp
 simp only[ar,Act.put,Nat.reduceAdd];have e2:=k3.c2;have e3:=k3.c3;have f2:=k3.f2;have f3:=k3.f3;have q:=(k3.set 2 (.string x)).set 3 (.string y);simp only[gx,gL] at q;refine xt (i:=16) (w':=(w3.setCell ⟨P,2,none⟩ (.string x)).setCell ⟨P,3,none⟩ (.string y)) (by kernel_rfl) rfl (by decide) (by rfl) ?_ ?_;·go_simp
 simp only[ar,Act.put,Nat.reduceAdd];refine Co (by kernel_rfl) ?_ _;have d0:ah w w.drew:=(aQ _ _).drew;have l1:=d0.trans (b1.mono d0.size);have l2:=l1.trans (b2.mono l1.size);have l3:=l2.trans (b3.mono l2.size);try go_wp2
 refine mu (v:=.tuple #[]) (by simp[results,results211,go_sem]) rfl ?_;exact ⟨rfl,q,w3,l3,rfl⟩
section
def sR (c i:Int):List ai->Option ai
 | []=>none
 | d :: r=>if d.cl=c/\d.ino=i then some d else sR c i r
theorem J6 (d:ai) (r:List ai):aJ (d :: r) 0=d:=rfl
theorem J7 (d:ai) (r:List ai) (k:Nat):aJ (d :: r) (k+1)=aJ r k:=rfl
theorem Sk (c i:Int):∀ (ds:List ai) (k:Nat),k<ds.length->(∀ j,j<k->¬ ((aJ ds j).cl=c/\(aJ ds j).ino=i))->(aJ ds k).cl=c/\(aJ ds k).ino=i->sR c i ds=some (aJ ds k)
 | [],k,hk,_,_=>by simp at hk
 | d :: r,0,_,_,h=>by rw[J6] at h ⊢;rw[sR,aN h]
 | d :: r,k+1,hk,hn,h=>by have h0:=hn 0 (Nat.succ_pos _);rw[J6] at h0;rw[J7] at h ⊢;rw[sR,aM h0];exact Sk c i r k (by simpa using hk) (fun j hj=>by have:=hn (j+1) (by omega);rwa [J7] at this) h
theorem Sn (c i:Int):∀ (ds:List ai),(∀ j,j<ds.length->¬ ((aJ ds j).cl=c/\(aJ ds j).ino=i))->sR c i ds=none
 | [],_=>rfl
 | d :: r,h=>by have h0:=h 0 (by simp);rw[J6] at h0;rw[sR,aM h0];exact Sn c i r (fun j hj=>by have:=h (j+1) (by simpa using hj);rwa [J7] at this)
def xC (c i:Int) (ds:List ai):ai:=(sR c i ds).getD fh
def xG (c i:Int) (ds:List ai):Bool:=(sR c i ds).isSome
def CC (D:ai) (ok:Bool) (w:World) (e:Ending) (w':World):Prop:=∃ s' m1 m2 hi,e=.returned (.tuple #[bL D s',.bool ok])/\iA w.heap.size m1 m2 hi s' D.pg D.po D.fr w'/\hi<=w'.heap.size/\ah w w'
variable {w W W' : World} {k : bz} {a : Option Addr} {c : Nat}
structure CD (w:World) (k:bz) (a:Option Addr) (c:Nat) (W:World):Prop where
 box:az w.heap.size (iZ k a c) W
 res:az (w.heap.size+1) EF W
 au:ah w W
theorem CD.below (h:CD w k a c W) (hb:ah W W'):CD w k a c W':=⟨h.box.below hb,h.res.below hb,h.au.trans (hb.mono h.au.size)⟩
abbrev J8 (k:bz) (a:Option Addr) (c:Nat):Obj:=.cells #[.string k.mem,.string k.aL,.slice a k.ds.length c,.int .i64 k.ck] 28
theorem aeX (w:World) (k:bz) (a:Option Addr) (c:Nat):CD w k a c ((w.alloc (J8 k a c)).alloc Cr):=⟨(aY (iZ k a c) w 28).alloc _,dR EF _ 31 (by simp),((aQ _ _).alloc (av _) _).alloc (by simp) _⟩
theorem Sq {d:ai} {s:aI} {m1 m2 hi:Nat} (h:CD w k a c W) (hl:iA (w.heap.size+2) m1 m2 hi s d.pg d.po d.fr W) (hh:hi<=W.heap.size) (ok:Bool) (W':World) (hW:(((((((W.setCell ⟨w.heap.size+1,0,none⟩ (aa d.ino)).setCell ⟨w.heap.size+1,1,none⟩ (aa d.cl)).setCell ⟨w.heap.size+1,2,none⟩ (aa d.un)).setCell ⟨w.heap.size+1,3,none⟩ (.string d.rc)).setCell ⟨w.heap.size+1,4,none⟩ (.slice s.a1 d.pg.length s.c1)).setCell ⟨w.heap.size+1,5,none⟩ (.string d.aU)).setCell ⟨w.heap.size+1,6,none⟩ (.slice s.a2 d.po.length s.c2)).setCell ⟨w.heap.size+1,7,none⟩ (.slice s.a3 d.fr.length s.c3)=W'):az (w.heap.size+1) (jG d s) W'/\CC d ok w (.returned (.tuple #[bL d s,.bool ok])) W':=by
 have q:=PG (y0:=aa d.ino) (y1:=aa d.cl) (y2:=aa d.un) (y3:=.string d.rc) (y4:=.slice s.a1 d.pg.length s.c1) (y5:=.string d.aU) (y6:=.slice s.a2 d.po.length s.c2) (y7:=.slice s.a3 d.fr.length s.c3) h.res;have hlt:=h.res.lt;have t:cM (w.heap.size+1) (w.heap.size+2) W W':=by rw[<- hW];exact ((((((((cM.refl _ _ W).set (p:=⟨w.heap.size+1,0,none⟩) (av _) (cm _) _).set (p:=⟨w.heap.size+1,1,none⟩) (av _) (cm _) _).set (p:=⟨w.heap.size+1,2,none⟩) (av _) (cm _) _).set (p:=⟨w.heap.size+1,3,none⟩) (av _) (cm _) _).set (p:=⟨w.heap.size+1,4,none⟩) (av _) (cm _) _).set (p:=⟨w.heap.size+1,5,none⟩) (av _) (cm _) _).set (p:=⟨w.heap.size+1,6,none⟩) (av _) (cm _) _).set (p:=⟨w.heap.size+1,7,none⟩) (av _) (cm _) _
 rw[hW] at q;have hl':=hl.mL t (Or.inr (av _));exact ⟨q,s,m1,m2,hi,rfl,⟨hl'.p1.mono (by omega) (av _),hl'.p2,hl'.p3,by have:=hl'.le;omega⟩,br hh t.size,h.au.trans (t.below (by omega) (by omega))⟩
theorem aeY {lo m:Nat} (W:World) (h:lo<=m):iA lo m m m eV fh.pg fh.po fh.fr W:=⟨Or.inl rfl,Or.inl rfl,Or.inl rfl,h,av _,av _⟩
def aeZ (ds:List ai):Prop:=∀ j,j<ds.length->(aJ ds j).pg.length<=1048576/\(aJ ds j).po.length<=1048576/\(aJ ds j).fr.length<=1048576/\(aJ ds j).rc.size<=1048576/\(aJ ds j).aU.size<=1048576
end
def jJ (cl ino:Int) (d:ai):Bool:=decide (d.ino=ino) && decide (d.cl=cl)
theorem ae0 (d:ai) (s:aI) (cl ino:Int) (bi bc:Nat) (w:World) (hi:ad w bi 0 (aa ino)) (hc:ad w bc 0 (aa cl)) (hi':bi<w.heap.size) (hc':bc<w.heap.size):Calls prog 102 #[bL d s,ao bi 0,ao bc 0] w (aV (.bool (jJ cl ino d)) w):=by
 have bx:=jP d s w 31;have n0:=aA w (ri d s);have c0:=bx.c0;have c1:=bx.c1;have i0:=(n0.cell (p:=⟨bi,0,none⟩) hi').trans hi;have i1:=(n0.cell (p:=⟨bc,0,none⟩) hc').trans hc;clear hi hc hi' hc';by_cases h1:d.ino=ino
 ·by_cases h2:d.cl=cl
  ·have e:jJ cl ino d=true:=by simp[jJ,h1,h2]
   rw[e];clear e;subst h1 h2;go_enter func102,ntmps102;go_wp2;go_ret;exact ⟨rfl,n0⟩
  have e:jJ cl ino d=false:=by simp[jJ,h2]
  rw[e];clear e;subst h1;have q:(d.cl == cl)=false:=by simpa using h2
  go_enter func102,ntmps102;go_wp2;go_ret;exact ⟨rfl,n0⟩
 have e:jJ cl ino d=false:=by simp[jJ,h1]
 rw[e];clear e;go_enter func102,ntmps102;go_wp2;go_ret;exact ⟨rfl,n0⟩
def oS (cl ino:Int) (ds:List ai) (x:Int):Prop:=(x = -1/\∀ j,j<ds.length->jJ cl ino (aJ ds j)=false)\/∃ j,j<ds.length/\x=(j:Int)/\jJ cl ino (aJ ds j)=true/\∀ y,y<j->jJ cl ino (aJ ds y)=false
theorem ae1 (a:Option Addr) (c:Nat) (ds:List ai) (ss:Nat->aI) (cl ino:Int) (bi bc:Nat) (w:World) (hn:ds.length<=1048576) (hR:sM w a ds ss) (hi:ad w bi 0 (aa ino)) (hc:ad w bc 0 (aa cl)) (hi':bi<w.heap.size) (hc':bc<w.heap.size):Calls prog 101 #[.slice a ds.length c,.func (.func 102) #[] #[ao bi 0,ao bc 0]] w fun e w'=>(∃ x,e=.returned (aa x)/\oS cl ino ds x)/\ah w w':=by
 have HC:Hid (∀ W d s,ah w W->_):=fun W d s hb=>ae0 d s cl ino bi bc W ((hb.cell (p:=⟨bi,0,none⟩) hi').trans hi) ((hb.cell (p:=⟨bc,0,none⟩) hc').trans hc) (cv hi' hb.size) (cv hc' hb.size);have HR:Hid (∀ W,ah w W->sM W a ds ss):=fun W hb=>hR.below hb;clear hi hc hi' hc' hR;go_enter func101,ntmps101;go_wp2;go_loopw [8] (fun i w'=>∃ j:Nat,j<=ds.length/\i=aa j/\Hid (∀ y,y<j->jJ cl ino (aJ ds y)=false)/\ah w w') (fun i _=>ds.length-(intOf i).toNat);case atStart=>exact ⟨0,bh _,rfl,fun x hx=>absurd hx (uW _),aQ _ _⟩
 case round=>
 obtain ⟨j,hj,rfl,HN,hbel⟩:=hrel;by_cases hlt:j<ds.length
 ·obtain ⟨b,off,rfl,im,hc⟩:=(HR.out _ hbel).get hlt;obtain ⟨y0,y1,y2,y3,y4,y5,y6,y7⟩:=hc j hlt;have e1:(0:Int)<=(j:Int):=by omega
  have e2:(j:Int)<(ds.length:Int):=by omega
  have hB:=hbel.size;have HY:Hid (jJ cl ino (aJ ds j)=true->oS cl ino ds (j:Int)):=fun h=>Or.inr ⟨j,hlt,rfl,h,HN.out⟩;have HM:Hid (jJ cl ino (aJ ds j)=false->∀ y,y<j+1->jJ cl ino (aJ ds y)=false):=fun h y hy=>by
   rcases Zj (Zk hy) with h1 | h1;·exact HN.out y h1
   rw[h1];exact h
  obtain ⟨d,ed⟩:∃ d,aJ ds j=d:=⟨_,rfl⟩;obtain ⟨s,es⟩:∃ s,ss j=s:=⟨_,rfl⟩;rw[ed] at y0 y1 y2 y3 y4 y5 y6 y7 HY HM;rw[es] at y4 y6 y7;have hcl:=HC.out wr d s hbel;clear ed es hc HR HN HC;cases hq:jJ cl ino d with
  | true=>
   rw[hq] at hcl HY HM;have yH:Hid (oS cl ino ds (j:Int)):=HY.out rfl;clear HY HM hq;go_wp2_with (go_at_call 102;refine hcl.mono ?_;rintro e w1 ⟨rfl,b1⟩);go_ret;exact ⟨⟨_,rfl,yH.out⟩,hbel.trans (b1.mono hB)⟩
  | false=>
   rw[hq] at hcl HY HM;have uA:Hid (∀ y,y<j+1->jJ cl ino (aJ ds y)=false):=HM.out rfl;clear HY HM hq;go_wp2_with (go_at_call 102;refine hcl.mono ?_;rintro e w1 ⟨rfl,b1⟩);go_roundw;case rel=>exact ⟨j+1,by omega,by go_num,uA,hbel.trans (b1.mono hB)⟩
   case measure=>simp[intOf];omega
 obtain rfl:j=ds.length:=by omega
 have HY:Hid (oS cl ino ds (-1)):=Or.inl ⟨rfl,HN.out⟩;clear HC HR HN;go_wp2;go_ret;exact ⟨⟨_,rfl,HY.out⟩,hbel⟩
theorem ae3:∀ (fn:Fn) (first cap:Array Value) (w:World),(Instr.makeFunc fn first cap).run prog w=.ok (.func fn first cap) w:=fun _ _ _ _=>rfl
theorem Sr (a:Option Addr) (c:Nat) (ds:List ai) (ss:Nat->aI) (cl ino:Int) (w:World) (hn:ds.length<=1048576) (hR:sM w a ds ss):Calls prog 56 #[.slice a ds.length c,aa cl,aa ino] w fun e w'=>(∃ x,e=.returned (aa x)/\oS cl ino ds x)/\ah w w':=by have l1:ah w ((w.alloc (.cells #[aa cl] 3)).alloc (.cells #[aa ino] 3)):=((aQ _ _).alloc (av _) _).alloc (by simp) _;have k0:=(aY [aa cl] w 3).alloc (.cells #[aa ino] 3);have k1:=dR (B:=w.heap.size+1) [aa ino] (w.alloc (.cells #[aa cl] 3)) 3 (by simp);have hx:=ae1 a c ds ss cl ino (w.heap.size+1) w.heap.size _ hn (hR.below l1) k1.c0 k0.c0 k1.lt k0.lt;have hm0:=ae3;clear hR k0 k1;go_enter func56,ntmps56;go_wp2_with (go_at_call 101;refine hx.mono ?_;rintro e w1 ⟨⟨x,rfl,hA⟩,b1⟩);go_ret;exact ⟨⟨x,rfl,hA⟩,l1.trans (b1.mono l1.size)⟩
theorem Ss (p:Nat->Bool):∀ n,(∀ j,j<n->p j=false)\/∃ j,j<n/\p j=true/\∀ y,y<j->p y=false
 | 0=>Or.inl fun j hj=>absurd hj (uW _)
 | n+1=>by
  rcases Ss p n with h | ⟨j,hj,h1,h2⟩
  ·cases hp:p n with
   | true=>exact Or.inr ⟨n,cm _,hp,h⟩
   | false=>
    refine Or.inl fun j hj=>?_;rcases Zj (Zk hj) with h' | h';·exact h j h'
    ·rw[h'];exact hp
  ·exact Or.inr ⟨j,by omega,h1,h2⟩
theorem ae4 (cl ino:Int) (ds:List ai):∃ x,oS cl ino ds x:=by
 rcases Ss (fun j=>jJ cl ino (aJ ds j)) ds.length with h | ⟨j,hj,h1,h2⟩;·exact ⟨-1,Or.inl ⟨rfl,h⟩⟩
 exact ⟨j,Or.inr ⟨j,hj,rfl,h1,h2⟩⟩
theorem ae5 {cl ino:Int} {ds:List ai} {x y:Int} (h:oS cl ino ds x) (k:oS cl ino ds y):x=y:=by
 rcases h with ⟨rfl,h⟩ | ⟨j,hj,rfl,h1,h2⟩
 ·rcases k with ⟨rfl,k⟩ | ⟨i,hi,rfl,k1,k2⟩;·rfl
  rw[h i hi] at k1;cases k1
 rcases k with ⟨rfl,k⟩ | ⟨i,hi,rfl,k1,k2⟩;·rw[k j hj] at h1;cases h1
 rcases Nat.lt_trichotomy i j with q | q | q;·rw[h2 i q] at k1;cases k1
 ·rw[q]
 rw[k2 j q] at h1;cases h1
theorem ae6 (k:bz) (a:Option Addr) (c:Nat) (ss:Nat->aI) (cl ino:Int) (w:World) (hn:k.ds.length<=1048576) (hz:aeZ k.ds) (hR:cN w a k.ds ss):Calls prog 25 #[bP k a c,aa cl,aa ino] w (CC (xC cl ino k.ds) (xG cl ino k.ds) w):=by
 have t0:=aeX w k a c;have c2:=t0.box.c2;have rK:Hid (∀ W,ah w W->cN W a k.ds ss):=fun W hb=>hR.below hb;obtain ⟨x0,hx0⟩:=ae4 cl ino k.ds;have hp:=(Sr a c k.ds ss cl ino _ hn (rK.out _ t0.au).row).mono (R':=fun e w'=>e=.returned (aa x0)/\ah ((w.alloc (J8 k a c)).alloc Cr) w') fun e w' ⟨⟨x,he,hA⟩,hb⟩=>⟨by rw[he,ae5 hA hx0],hb⟩;obtain ⟨W0,hW0⟩:∃ W0,(w.alloc (J8 k a c)).alloc Cr=W0:=⟨_,rfl⟩;rw[hW0] at t0 c2 hp;have hlt1:=t0.res.lt;clear hR;have conv:∀ y,jJ cl ino (aJ k.ds y)=false->¬ ((aJ k.ds y).cl=cl/\(aJ k.ds y).ino=ino):=fun y hy hh=>by simp[jJ,hh.1,hh.2] at hy
 rcases hx0 with ⟨rfl,hA⟩ | ⟨j,hj,rfl,hA,hB⟩
 ·have e:=Sn cl ino k.ds (fun y hy=>conv y (hA y hy));rw[xC,xG,e];clear conv hA hz rK e;show Calls prog 25 #[bP k a c,aa cl,aa ino] w (CC fh false w)
  go_enter func25,ntmps25;go_wp2_with (go_at_call 56;refine hp.mono ?_;rintro e w1 ⟨rfl,b1⟩;have t1:=t0.below b1;have j0:=t1.res.cell 0 (by simp);have j1:=t1.res.cell 1 (by simp);have j2:=t1.res.cell 2 (by simp);have j3:=t1.res.cell 3 (by simp);have j4:=t1.res.cell 4 (by simp);have j5:=t1.res.cell 5 (by simp);have j6:=t1.res.cell 6 (by simp);have j7:=t1.res.cell 7 (by simp);simp only[dK,eT] at j0 j1 j2 j3 j4 j5 j6 j7;have n0:=t1.res.free 0 (by simp);have n1:=t1.res.free 1 (by simp);have n2:=t1.res.free 2 (by simp);have n3:=t1.res.free 3 (by simp);have n4:=t1.res.free 4 (by simp);have n5:=t1.res.free 5 (by simp);have n6:=t1.res.free 6 (by simp);have n7:=t1.res.free 7 (by simp));obtain ⟨q,ha⟩:=Sq (d:=fh) (s:=eV) t1 (aeY w1 (br hlt1 b1.size)) (av _) false _ rfl;have v0:=q.cell 0 (by simp);have v1:=q.cell 1 (by simp);have v2:=q.cell 2 (by simp);have v3:=q.cell 3 (by simp);have v4:=q.cell 4 (by simp);have v5:=q.cell 5 (by simp);have v6:=q.cell 6 (by simp);have v7:=q.cell 7 (by simp);simp only[dK,eT,fh,eV,gv] at v0 v1 v2 v3 v4 v5 v6 v7;exact bF (v:=.tuple #[bL fh eV,.bool false]) (by simp[results,results25,go_sem,v0,v1,v2,v3,v4,v5,v6,v7,fh,eV]) rfl ha
 have hm:(aJ k.ds j).cl=cl/\(aJ k.ds j).ino=ino:=by simp[jJ] at hA;exact ⟨hA.2,hA.1⟩
 have e:=Sk cl ino k.ds j hj (fun y hy=>conv y (hB y hy)) hm;rw[xC,xG,e];show Calls prog 25 #[bP k a c,aa cl,aa ino] w (CC (aJ k.ds j) true w)
 obtain ⟨b,off,rfl,-,-⟩:=(rK.out _ t0.au).row.get hj;have HC:Hid (∀ W,ah w W->kh W b (off+j*8) (aJ k.ds j) (ss j)/\cJ W (aJ k.ds j) (ss j)):=fun W hb=>by obtain ⟨b',off',he,im,hc⟩:=(rK.out _ hb).row.get hj;cases he;exact ⟨hc j hj,(rK.out _ hb).sub j hj⟩
 obtain ⟨z1,z2,z3,z4,z5⟩:=hz j hj;obtain ⟨d,ed⟩:∃ d,aJ k.ds j=d:=⟨_,rfl⟩;obtain ⟨s,es⟩:∃ s,ss j=s:=⟨_,rfl⟩;rw[ed,es] at HC;rw[ed] at z1 z2 z3 z4 z5;rw[ed];have HK:Hid (∀ W,cJ W d s->_):=fun W h=>Q4 d s W z1 z2 z3 (by omega) (by omega) h;have e1:(0:Int)<=(j:Int):=by omega
 have e2:(j:Int)<(k.ds.length:Int):=by omega
 clear conv hA hB hz rK e hm ed es;go_enter func25,ntmps25;go_wp2_with (first
  | (go_at_call 56;refine hp.mono ?_;rintro e w1 ⟨rfl,b1⟩;have t1:=t0.below b1;have c2b:=t1.box.c2;obtain ⟨⟨y0,y1,y2,y3,y4,y5,y6,y7⟩,ls⟩:=HC.out _ t1.au)
  | (go_at_call 44;refine (HK.out _ ls).mono ?_;rintro e w2 ⟨s1,m1,m2,hi,rfl,hl,hh,b2⟩;have t2:=t1.below b2;have j0:=t2.res.cell 0 (by simp);have j1:=t2.res.cell 1 (by simp);have j2:=t2.res.cell 2 (by simp);have j3:=t2.res.cell 3 (by simp);have j4:=t2.res.cell 4 (by simp);have j5:=t2.res.cell 5 (by simp);have j6:=t2.res.cell 6 (by simp);have j7:=t2.res.cell 7 (by simp);simp only[dK,eT] at j0 j1 j2 j3 j4 j5 j6 j7;have n0:=t2.res.free 0 (by simp);have n1:=t2.res.free 1 (by simp);have n2:=t2.res.free 2 (by simp);have n3:=t2.res.free 3 (by simp);have n4:=t2.res.free 4 (by simp);have n5:=t2.res.free 5 (by simp);have n6:=t2.res.free 6 (by simp);have n7:=t2.res.free 7 (by simp)))
 have hle:=hl.le;have hb1:=b1.size;obtain ⟨q,ha⟩:=Sq t2 ⟨hl.p1.mono (lo':=w.heap.size+2) (by omega) (av _),hl.p2,hl.p3,by omega,by omega,by omega⟩ hh true _ rfl;have v0:=q.cell 0 (by simp);have v1:=q.cell 1 (by simp);have v2:=q.cell 2 (by simp);have v3:=q.cell 3 (by simp);have v4:=q.cell 4 (by simp);have v5:=q.cell 5 (by simp);have v6:=q.cell 6 (by simp);have v7:=q.cell 7 (by simp);simp only[dK,eT] at v0 v1 v2 v3 v4 v5 v6 v7;exact bF (v:=.tuple #[bL d s1,.bool true]) (by simp[results,results25,go_sem,v0,v1,v2,v3,v4,v5,v6,v7]) rfl ha
section
section
variable {P : Program} {ops : Array Oper} {Q : Exit → Act → World → Prop} {md : Region.Mode} {S : World → Prop} {n : Nat}
def ko (n:Nat) (listed:Array Bool):Bool:=(List.range listed.size).all fun j=>decide (j<n) || !listed.getD j true
theorem Ac {i:Nat} {listed:Array Bool} (hi:i<n) (h:ko n listed=true):ko n (listed.setIfInBounds i true)=true:=by
 simp only[ko,oz,kY,nx,dp] at h ⊢;intro j hj;rw[Array.size_setIfInBounds] at hj;by_cases e:i=j
 ·subst e;exact Or.inl hi
 rw[D4 true e];exact h j hj
def eI (P:Program) (md:Region.Mode) (ops:Array Oper) (Q:Exit->Act->World->Prop) (S:World->Prop) (n:Nat):Nat->Array Bool->Act->World->Prop
 | 0,listed,a,w=>Region.ready md ops listed=[]/\Q .normal a w
 | fuel+1,listed,a,w=>
  (Region.ready md ops listed=[]->Q .normal a w)/\
  ∀ i ∈ Region.ready md ops listed,wpOp P ops Q i (fun a' w'=>(i<n->ko n listed=true->S w')/\eI P md ops Q S n fuel (listed.setIfInBounds i true) a' w') a w
theorem Su:∀ (fuel:Nat) (listed:Array Bool) (a:Act) (w:World),eI P md ops Q S n fuel listed a w->wpAny P md ops Q fuel listed a w
 | 0,_,_,_,h=>h
 | fuel+1,_,_,_,h=>⟨h.1,fun i hi=>It (fun a' w' h'=>Su fuel _ a' w' h'.2) (h.2 i hi)⟩
theorem ae7 {i:Nat} {oi:Oper} {v:Value} (hi:ops[i]? = some oi) (hin:i<n) (Dp:∀ (j:Nat) (o:Oper),ops[j]? = some o->n<=j->∃ e ∈ o.after,Region.binds md e=true/\e.on=i) (hsel:∀ (j:Nat) (o:Oper) cs b,ops[j]? = some o->o.op ≠ .select cs b) (hQ:∀ c a w,Q (.panic c) (a.put oi.dst v) w->Q (.panic c) a w):∀ (fuel:Nat) (listed:Array Bool) (a:Act) (w:World),(∀ j oj,ops[j]? = some oj->j≠i->listed.getD j true=false->(∀ e ∈ oj.after,Region.binds md e=true->e.on≠i)->oi.apart ops oj=true)->i ∈ Region.ready md ops listed->ko n listed=true->YieldsIf P ops S oi v a->S w->eI P md ops Q S n fuel (listed.setIfInBounds i true) (a.put oi.dst v) w->eI P md ops Q S n (fuel+1) listed a w:=by
 intro fuel;induction fuel with
 | zero=>
  intro listed a w _ hr hE hy hS H;refine ⟨fun h=>(by rw[h] at hr;cases hr),fun j hj=>?_⟩;by_cases hji:j=i;·subst hji;exact hy.wpOp hi hS ⟨fun _ _=>hS,H⟩
  ·have:=wM hj hji;rw[H.1] at this;cases this
 | succ fuel ih=>
  intro listed a w hfree hr hE hy hS H;refine ⟨fun h=>(by rw[h] at hr;cases hr),fun j hj=>?_⟩;by_cases hji:j=i;·subst hji;exact hy.wpOp hi hS ⟨fun _ _=>hS,H⟩
  ·have h1:=H.2 j (wM hj hji);obtain ⟨hjun,oj,hoj,hall⟩:=za.1 hj;have hnot:∀ e ∈ oj.after,Region.binds md e=true->e.on≠i:=fun e he hb heq=>by
    have h1:=hall e he hb;have h0:=(za.1 hr).1;rw[heq] at h1;rcases tL i listed.size with h' | h';·simp[h'] at h0 h1;rw[h0] at h1;cases h1
    simp[zc h'] at h1
   have hjn:j<n:=by
    rcases tL j n with h' | h';·exact h'
    obtain ⟨e,he,hb,ho⟩:=Dp j oj hoj h';exact absurd ho (hnot e he hb)
   have h2:=wpOp_putIf hoj (hfree j oj hoj hji hjun hnot) (fun cs b=>hsel i oi cs b hi) (fun cs b=>hsel j oj cs b hoj) hQ hy h1;have hfree':∀ k ok,ops[k]? = some ok->k≠i->(listed.setIfInBounds j true).getD k true=false->
     (∀ e ∈ ok.after,Region.binds md e=true->e.on≠i)->oi.apart ops ok=true:=fun k ok hk hki hun hno=>by
    refine hfree k ok hk hki ?_ hno;by_cases hjk:j=k;·subst hjk;exact hjun
    rw[D4 true hjk] at hun;exact hun
   refine It (fun a' w' h3=>⟨fun x _=>h3.2.1 x (Ac hin hE),ih (listed.setIfInBounds j true) a' w' hfree' (wM hr (D8 hji)) (Ac hjn hE) h3.1 (h3.2.1 hjn (Ac hin hE)) ?_⟩) h2;rw[Zd _ _ hji];exact h3.2.2
theorem Sy {i:Nat} {oi:Oper} {v:Value} {fuel:Nat} {listed:Array Bool} {a:Act} {w:World} (hi:ops[i]? = some oi) (hin:i<n) (hl:vu md ops n i=true) (hs:Region.noSelect ops=true) (hf:Region.free md ops listed i=true) (hr:(Region.ready md ops listed).contains i=true) (hQ:∀ c a w,Q (.panic c) (a.put oi.dst v) w->Q (.panic c) a w) (hy:YieldsIf P ops S oi v a) (hS:S w) (hE:ko n listed=true) (h:eI P md ops Q S n fuel (listed.setIfInBounds i true) (a.put oi.dst v) w):eI P md ops Q S n (fuel+1) listed a w:=ae7 hi hin (QY hl) (Ze hs) hQ fuel listed a w (Zf hi hf) (by simpa using hr) hE hy hS h
theorem SA {rs:List Nat} {fuel:Nat} {listed:Array Bool} {a:Act} {w:World} (hr:Region.ready md ops listed=rs) (hne:rs ≠ []) (h:∀ i ∈ rs,wpOp P ops Q i (fun a' w'=>(i<n->ko n listed=true->S w')/\eI P md ops Q S n fuel (listed.setIfInBounds i true) a' w') a w):eI P md ops Q S n (fuel+1) listed a w:=⟨fun h0=>absurd (hr ▸ h0) hne,hr ▸ h⟩
theorem je {listed:Array Bool} {a:Act} {w:World} (hr:Region.ready md ops listed=[]) (h:Q .normal a w):∀ fuel,eI P md ops Q S n fuel listed a w
 | 0=>⟨hr,h⟩
 | _+1=>⟨fun _=>h,by rw[hr];simp⟩
theorem mD {id:Nat} {a:Act} {w:World} (hm:P.follows .mixedOrders=true) (h:eI P .any ops Q S n ops.size (Array.replicate ops.size false) a w.drew):(Code.region id ops true).wp P Q a w:=wp_region_any hm (Su _ _ _ _ h)
theorem vC {a:Act} {w:World} {i j:Nat} {listed:Array Bool} {fuel:Nat} (hr:Region.ready md ops listed=[i,j]) (h1:wpOp P ops Q i (fun a' w'=>(i<n->ko n listed=true->S w')/\eI P md ops Q S n fuel (listed.setIfInBounds i true) a' w') a w) (h2:wpOp P ops Q j (fun a' w'=>(j<n->ko n listed=true->S w')/\eI P md ops Q S n fuel (listed.setIfInBounds j true) a' w') a w):eI P md ops Q S n (fuel+1) listed a w:=by
 refine SA hr (by simp) ?_;intro x hx;rcases jC.1 hx with rfl | hx;·exact h1
 obtain rfl:=pK.1 hx;exact h2
theorem dF {a:Act} {w:World} {i:Nat} {listed:Array Bool} {fuel:Nat} (hr:Region.ready md ops listed=[i]) (h1:wpOp P ops Q i (fun a' w'=>(i<n->ko n listed=true->S w')/\eI P md ops Q S n fuel (listed.setIfInBounds i true) a' w') a w):eI P md ops Q S n (fuel+1) listed a w:=by refine SA hr (by simp) ?_;intro x hx;obtain rfl:=pK.1 hx;exact h1
theorem eD {a a':Act} {w w':World} {u:Value} {i:Nat} {o:Oper} {listed l':Array Bool} {fuel:Nat} (ho:ops[i]? = some o) (hw:Region.wanted o (yielded ops a.tmps)=true) (he:(execOp a.eval o).run P w=.ok (.value u) w') (hS:i<n->ko n listed=true->S w') (ha:a.put o.dst u=a') (hl:listed.setIfInBounds i true=l') (h:eI P md ops Q S n fuel l' a' w'):wpOp P ops Q i (fun a' w'=>(i<n->ko n listed=true->S w')/\eI P md ops Q S n fuel (listed.setIfInBounds i true) a' w') a w:=by subst ha hl;unfold wpOp;rw[ho];refine iU hw (.inl ?_);unfold Oper.wp;rw[he];exact ⟨hS,h⟩
theorem lA {a a':Act} {w w':World} {i:Nat} {o:Oper} {listed l':Array Bool} {fuel:Nat} (ho:ops[i]? = some o) (hw:Region.wanted o (yielded ops a.tmps)=true) (he:(execOp a.eval o).run P w=.ok .skip w') (hS:i<n->ko n listed=true->S w') (ha:a.put o.dst undef=a') (hl:listed.setIfInBounds i true=l') (h:eI P md ops Q S n fuel l' a' w'):wpOp P ops Q i (fun a' w'=>(i<n->ko n listed=true->S w')/\eI P md ops Q S n fuel (listed.setIfInBounds i true) a' w') a w:=by subst ha hl;unfold wpOp;rw[ho];refine iU hw (.inl ?_);unfold Oper.wp;rw[he];exact ⟨hS,h⟩
theorem rr {a:Act} {w:World} {i f:Nat} {o:Oper} {listed:Array Bool} {fuel:Nat} (hr:Region.ready md ops listed=[i]) (ho:ops[i]? = some o) (hw:Region.wanted o (yielded ops a.tmps)=true) (x:Operand) (ts:Array TypeId) (hop:o.op=.call { callee:=.value (.func f),args:=#[x],argTypes:=ts }) (v0:Value) (h0:a.eval x=v0) (eg:∀ args w,(callFunc f args).run P w=.ok (.enter f args) w) (hc:Calls P f #[v0] w fun e w'=>∃ u,e=.returned u/\S w'/\eI P md ops Q S n fuel (listed.setIfInBounds i true) (a.put o.dst u) w'):eI P md ops Q S n (fuel+1) listed a w:=by
 refine dF hr ?_;unfold wpOp;rw[ho];refine iU hw (.inl ?_);have he:(execOp a.eval o).run P w=.ok (.enter f #[v0]) w:=by subst h0;simp[execOp,hop,resolve,go_sem,invoke,eg]
 unfold Oper.wp;rw[he];refine kZ hc ?_;rintro e w' ⟨u,rfl,hS,h⟩;exact ⟨fun _ _=>hS,h⟩
theorem ae8 {a:Act} {w:World} {i f:Nat} {o:Oper} {listed:Array Bool} {fuel:Nat} (hr:Region.ready md ops listed=[i]) (ho:ops[i]? = some o) (hw:Region.wanted o (yielded ops a.tmps)=true) (x y:Operand) (ts:Array TypeId) (hop:o.op=.call { callee:=.value (.func f),args:=#[x,y],argTypes:=ts }) (v0 v1:Value) (h0:a.eval x=v0) (h1:a.eval y=v1) (eg:∀ args w,(callFunc f args).run P w=.ok (.enter f args) w) (hc:Calls P f #[v0,v1] w fun e w'=>∃ u,e=.returned u/\S w'/\eI P md ops Q S n fuel (listed.setIfInBounds i true) (a.put o.dst u) w'):eI P md ops Q S n (fuel+1) listed a w:=by
 refine dF hr ?_;unfold wpOp;rw[ho];refine iU hw (.inl ?_);have he:(execOp a.eval o).run P w=.ok (.enter f #[v0,v1]) w:=by subst h0 h1;simp[execOp,hop,resolve,go_sem,invoke,eg]
 unfold Oper.wp;rw[he];refine kZ hc ?_;rintro e w' ⟨u,rfl,hS,h⟩;exact ⟨fun _ _=>hS,h⟩
theorem CE {a:Act} {w:World} {i f:Nat} {o:Oper} {listed:Array Bool} {fuel:Nat} (hr:Region.ready md ops listed=[i]) (ho:ops[i]? = some o) (hw:Region.wanted o (yielded ops a.tmps)=true) (x y z:Operand) (ts:Array TypeId) (hop:o.op=.call { callee:=.value (.func f),args:=#[x,y,z],argTypes:=ts }) (v0 v1 v2:Value) (h0:a.eval x=v0) (h1:a.eval y=v1) (h2:a.eval z=v2) (eg:∀ args w,(callFunc f args).run P w=.ok (.enter f args) w) (hc:Calls P f #[v0,v1,v2] w fun e w'=>∃ u,e=.returned u/\S w'/\eI P md ops Q S n fuel (listed.setIfInBounds i true) (a.put o.dst u) w'):eI P md ops Q S n (fuel+1) listed a w:=by
 refine dF hr ?_;unfold wpOp;rw[ho];refine iU hw (.inl ?_);have he:(execOp a.eval o).run P w=.ok (.enter f #[v0,v1,v2]) w:=by subst h0 h1 h2;simp[execOp,hop,resolve,go_sem,invoke,eg]
 unfold Oper.wp;rw[he];refine kZ hc ?_;rintro e w' ⟨u,rfl,hS,h⟩;exact ⟨fun _ _=>hS,h⟩
theorem tY {a:Act} {w:World} {i f:Nat} {o:Oper} {listed:Array Bool} {fuel:Nat} (hr:Region.ready md ops listed=[i]) (ho:ops[i]? = some o) (hw:Region.wanted o (yielded ops a.tmps)=true) (x y z q:Operand) (ts:Array TypeId) (hop:o.op=.call { callee:=.value (.func f),args:=#[x,y,z,q],argTypes:=ts }) (v0 v1 v2 v3:Value) (h0:a.eval x=v0) (h1:a.eval y=v1) (h2:a.eval z=v2) (h3:a.eval q=v3) (eg:∀ args w,(callFunc f args).run P w=.ok (.enter f args) w) (hc:Calls P f #[v0,v1,v2,v3] w fun e w'=>∃ u,e=.returned u/\S w'/\eI P md ops Q S n fuel (listed.setIfInBounds i true) (a.put o.dst u) w'):eI P md ops Q S n (fuel+1) listed a w:=by
 refine dF hr ?_;unfold wpOp;rw[ho];refine iU hw (.inl ?_);have he:(execOp a.eval o).run P w=.ok (.enter f #[v0,v1,v2,v3]) w:=by subst h0 h1 h2 h3;simp[execOp,hop,resolve,go_sem,invoke,eg]
 unfold Oper.wp;rw[he];refine kZ hc ?_;rintro e w' ⟨u,rfl,hS,h⟩;exact ⟨fun _ _=>hS,h⟩
end
variable {P : Program} {ops : Array Oper} {Q : Exit → Act → World → Prop} {md : Region.Mode} {S : World → Prop} {oi : Oper} {n fuel : Nat} {listed l' : Array Bool} {a a' : Act} {w : World}
theorem kr (i:Nat) (v:Value) (hS:S w) (h:eI P md ops Q S n fuel l' a' w) (hi:ops[i]? = some oi:=by exact rfl) (hin:i<n:=by decide) (hb:vu md ops n i=true:=by kernel_rfl) (hl:listed.setIfInBounds i true=l':=by (try simp only[ar]);exact rfl) (ha:a.put oi.dst v=a':=by (try simp only[ar,Act.put,Nat.reduceAdd]);exact rfl) (hE:ko n listed=true:=by kernel_rfl) (hs:Region.noSelect ops=true:=by kernel_rfl) (hf:Region.free md ops listed i=true:=by kernel_rfl) (hr:(Region.ready md ops listed).contains i=true:=by kernel_rfl) (hQ:∀ c a w,Q (.panic c) (a.put oi.dst v) w->Q (.panic c) a w:=by exact fun _ _ _ h=>h) (hw:Region.wanted oi (yielded ops a.tmps)=true:=by rfl) (hy:∀ w,S w->(execOp a.eval oi).run P w=.ok (.value v) w:=by exact fun w' hS'=>by rfl):eI P md ops Q S n (fuel+1) listed a w:=by subst hl ha;exact Sy hi hin hb hs hf hr hQ (Or.inl ⟨hw,hy⟩) hS hE h
theorem cA (i:Nat) (v:Value) (hS:S w) (h:eI P md ops Q S n fuel l' a' w) (hi:ops[i]? = some oi:=by exact rfl) (hin:i<n:=by decide) (hb:vu md ops n i=true:=by kernel_rfl) (hl:listed.setIfInBounds i true=l':=by (try simp only[ar]);exact rfl) (ha:a.put oi.dst v=a':=by (try simp only[ar,Act.put,Nat.reduceAdd]);exact rfl) (hE:ko n listed=true:=by kernel_rfl) (hs:Region.noSelect ops=true:=by kernel_rfl) (hf:Region.free md ops listed i=true:=by kernel_rfl) (hr:(Region.ready md ops listed).contains i=true:=by kernel_rfl) (hQ:∀ c a w,Q (.panic c) (a.put oi.dst v) w->Q (.panic c) a w:=by exact fun _ _ _ h=>h) (hw:Region.wanted oi (yielded ops a.tmps)=true:=by rfl) (hy:∀ w,S w->(execOp a.eval oi).run P w=.ok (.value v) w:=by intro w' hS';(try dsimp only at hS');go_split_ands;go_simp):eI P md ops Q S n (fuel+1) listed a w:=by subst hl ha;exact Sy hi hin hb hs hf hr hQ (Or.inl ⟨hw,hy⟩) hS hE h
end
section
section
variable {P : Program} {ops : Array Oper} {Q : Exit → Act → World → Prop} {md : Region.Mode} {S : World → Prop} {n : Nat}
def ua (md:Region.Mode) (ops:Array Oper) (i:Nat):Nat->Nat->Bool
 | 0,_=>false
 | k+1,j=>match ops[j]? with
  | some o=>o.after.any fun e=>Region.binds md e && (e.on == i || ua md ops i k e.on)
  | none=>false
def sS (md:Region.Mode) (ops:Array Oper) (listed:Array Bool):Bool:=(List.range ops.size).all fun j=>!listed.getD j false || match ops[j]? with
 | some o=>o.after.all fun e=>!Region.binds md e || listed.getD e.on false
 | none=>true
theorem SB {listed:Array Bool} (h:sS md ops listed=true) {j:Nat} {o:Oper} (ho:ops[j]? = some o) (hj:listed.getD j false=true):∀ e ∈ o.after,Region.binds md e=true->listed.getD e.on false=true:=by simp only[sS,oz,kY] at h;have h1:=h j (nz.1 ho).1;simp only[ho,hj,tG,DT] at h1;intro e he hb;have h2:=amh.1 h1 e he;simpa [hb] using h2
theorem SC {listed:Array Bool} (h:sS md ops listed=true) {i:Nat}:∀ (k j:Nat) (o:Oper),ops[j]? = some o->(∀ e ∈ o.after,Region.binds md e=true->listed.getD e.on false=true)->ua md ops i k j=true->listed.getD i false=true
 | 0,_,_,_,_,hd=>by simp[ua] at hd
 | k+1,j,o,ho,ha,hd=>by
  rw[ua,ho] at hd;obtain ⟨e,he,hb⟩:=Array.any_eq_true'.1 hd;simp only[ca,nx,tH] at hb;have h1:=ha e he hb.1;rcases hb.2 with h2 | h2
  ·rw[<- h2];exact h1
  ·cases ho2:ops[e.on]? with
   | none=>
    cases k with
    | zero=>simp[ua] at h2
    | succ k=>rw[ua,ho2] at h2;cases h2
   | some o2=>exact SC h k e.on o2 ho2 (SB h ho2 h1) h2
theorem SD {listed:Array Bool} {j m:Nat} (h:listed.getD m false=true):(listed.setIfInBounds j true).getD m false=true:=by
 by_cases e:j=m
 ·subst e;have hl:j<listed.size:=by
   rcases tL j listed.size with h' | h';·exact h'
   simp[zc h'] at h
  simp[hl]
 rw[D4 false e];exact h
theorem ae9 {listed:Array Bool} (h:sS md ops listed=true) {j:Nat} (hj:j ∈ Region.ready md ops listed):sS md ops (listed.setIfInBounds j true)=true:=by
 obtain ⟨-,oj,hoj,hall⟩:=za.1 hj;simp only[sS,oz,kY];intro m hm;cases hl:(listed.setIfInBounds j true).getD m false with
 | false=>rfl
 | true=>
  cases ho:ops[m]? with
  | none=>rfl
  | some o=>
   simp only[tG,DT];refine amh.2 fun e he=>?_;cases hb:Region.binds md e with
   | false=>rfl
   | true=>
    simp only[tG,DT];by_cases ej:j=m
    ·subst ej;rw[hoj] at ho;cases ho;exact SD (hall e he hb)
    ·rw[D4 false ej] at hl;exact SD (SB h ho hl e he hb)
theorem afa {i:Nat} {oi:Oper} {v:Value} (hi:ops[i]? = some oi) (hin:i<n) (Dp:∀ (j:Nat) (o:Oper),ops[j]? = some o->n<=j->∃ k,ua md ops i k j=true) (hsel:∀ (j:Nat) (o:Oper) cs b,ops[j]? = some o->o.op ≠ .select cs b) (hQ:∀ c a w,Q (.panic c) (a.put oi.dst v) w->Q (.panic c) a w):∀ (fuel:Nat) (listed:Array Bool) (a:Act) (w:World),(∀ j oj,ops[j]? = some oj->j≠i->listed.getD j true=false->(∀ e ∈ oj.after,Region.binds md e=true->e.on≠i)->oi.apart ops oj=true)->i ∈ Region.ready md ops listed->ko n listed=true->sS md ops listed=true->YieldsIf P ops S oi v a->S w->eI P md ops Q S n fuel (listed.setIfInBounds i true) (a.put oi.dst v) w->eI P md ops Q S n (fuel+1) listed a w:=by
 intro fuel;induction fuel with
 | zero=>
  intro listed a w _ hr hE hC hy hS H;refine ⟨fun h=>(by rw[h] at hr;cases hr),fun j hj=>?_⟩;by_cases hji:j=i;·subst hji;exact hy.wpOp hi hS ⟨fun _ _=>hS,H⟩
  ·have:=wM hj hji;rw[H.1] at this;cases this
 | succ fuel ih=>
  intro listed a w hfree hr hE hC hy hS H;refine ⟨fun h=>(by rw[h] at hr;cases hr),fun j hj=>?_⟩;by_cases hji:j=i;·subst hji;exact hy.wpOp hi hS ⟨fun _ _=>hS,H⟩
  ·have h1:=H.2 j (wM hj hji);obtain ⟨hjun,oj,hoj,hall⟩:=za.1 hj;have hnot:∀ e ∈ oj.after,Region.binds md e=true->e.on≠i:=fun e he hb heq=>by
    have h1:=hall e he hb;have h0:=(za.1 hr).1;rw[heq] at h1;rcases tL i listed.size with h' | h';·simp[h'] at h0 h1;rw[h0] at h1;cases h1
    simp[zc h'] at h1
   have hjn:j<n:=by
    rcases tL j n with h' | h';·exact h'
    obtain ⟨k,hd⟩:=Dp j oj hoj h';have h1:=SC hC k j oj hoj hall hd;have h0:=(za.1 hr).1;rcases tL i listed.size with h' | h';·simp[h'] at h0 h1;rw[h0] at h1;cases h1
    simp[zc h'] at h1
   have h2:=wpOp_putIf hoj (hfree j oj hoj hji hjun hnot) (fun cs b=>hsel i oi cs b hi) (fun cs b=>hsel j oj cs b hoj) hQ hy h1;have hfree':∀ k ok,ops[k]? = some ok->k≠i->(listed.setIfInBounds j true).getD k true=false->
     (∀ e ∈ ok.after,Region.binds md e=true->e.on≠i)->oi.apart ops ok=true:=fun k ok hk hki hun hno=>by
    refine hfree k ok hk hki ?_ hno;by_cases hjk:j=k;·subst hjk;exact hjun
    rw[D4 true hjk] at hun;exact hun
   refine It (fun a' w' h3=>⟨fun x _=>h3.2.1 x (Ac hin hE),ih (listed.setIfInBounds j true) a' w' hfree' (wM hr (D8 hji)) (Ac hjn hE) (ae9 hC hj) h3.1 (h3.2.1 hjn (Ac hin hE)) ?_⟩) h2;rw[Zd _ _ hji];exact h3.2.2
def CF (md:Region.Mode) (ops:Array Oper) (n i:Nat):Bool:=(List.range ops.size).all fun j=>decide (j<n) || ua md ops i 12 j
theorem afb {i:Nat} (h:CF md ops n i=true) (j:Nat) (o:Oper) (hj:ops[j]? = some o) (hn:n<=j):∃ k,ua md ops i k j=true:=by
 simp only[CF,oz,kY,nx,dp] at h;rcases h j (nz.1 hj).1 with h1 | h1;·omega
 exact ⟨12,h1⟩
theorem SE {i:Nat} {oi:Oper} {v:Value} {fuel:Nat} {listed:Array Bool} {a:Act} {w:World} (hi:ops[i]? = some oi) (hin:i<n) (hl:CF md ops n i=true) (hs:Region.noSelect ops=true) (hf:Region.free md ops listed i=true) (hr:(Region.ready md ops listed).contains i=true) (hQ:∀ c a w,Q (.panic c) (a.put oi.dst v) w->Q (.panic c) a w) (hy:YieldsIf P ops S oi v a) (hS:S w) (hE:ko n listed=true) (hC:sS md ops listed=true) (h:eI P md ops Q S n fuel (listed.setIfInBounds i true) (a.put oi.dst v) w):eI P md ops Q S n (fuel+1) listed a w:=afa hi hin (afb hl) (Ze hs) hQ fuel listed a w (Zf hi hf) (by simpa using hr) hE hC hy hS h
theorem CG {a:Act} {w:World} {i f:Nat} {o:Oper} {listed:Array Bool} {fuel:Nat} (hr:Region.ready md ops listed=[i]) (hn:n<=i) (ho:ops[i]? = some o) (hw:Region.wanted o (yielded ops a.tmps)=true) (x y z:Operand) (ts:Array TypeId) (hop:o.op=.call { callee:=.value (.func f),args:=#[x,y,z],argTypes:=ts }) (v0 v1 v2:Value) (h0:a.eval x=v0) (h1:a.eval y=v1) (h2:a.eval z=v2) (eg:∀ args w,(callFunc f args).run P w=.ok (.enter f args) w) (hc:Calls P f #[v0,v1,v2] w fun e w'=>∃ u,e=.returned u/\eI P md ops Q S n fuel (listed.setIfInBounds i true) (a.put o.dst u) w'):eI P md ops Q S n (fuel+1) listed a w:=by
 refine dF hr ?_;unfold wpOp;rw[ho];refine iU hw (.inl ?_);have he:(execOp a.eval o).run P w=.ok (.enter f #[v0,v1,v2]) w:=by subst h0 h1 h2;simp[execOp,hop,resolve,go_sem,invoke,eg]
 unfold Oper.wp;rw[he];refine kZ hc ?_;rintro e w' ⟨u,rfl,h⟩;exact ⟨fun x _=>absurd x (by omega),h⟩
end
variable {P : Program} {ops : Array Oper} {Q : Exit → Act → World → Prop} {md : Region.Mode} {S : World → Prop} {oi : Oper} {n fuel : Nat} {listed l' : Array Bool} {a a' : Act} {w : World}
theorem ee (i:Nat) (v:Value) (hS:S w) (h:eI P md ops Q S n fuel l' a' w) (hi:ops[i]? = some oi:=by exact rfl) (hin:i<n:=by decide) (hb:CF md ops n i=true:=by kernel_rfl) (hl:listed.setIfInBounds i true=l':=by (try simp only[ar]);exact rfl) (ha:a.put oi.dst v=a':=by (try simp only[ar,Act.put,Nat.reduceAdd]);exact rfl) (hE:ko n listed=true:=by kernel_rfl) (hC:sS md ops listed=true:=by kernel_rfl) (hs:Region.noSelect ops=true:=by kernel_rfl) (hf:Region.free md ops listed i=true:=by kernel_rfl) (hr:(Region.ready md ops listed).contains i=true:=by kernel_rfl) (hQ:∀ c a w,Q (.panic c) (a.put oi.dst v) w->Q (.panic c) a w:=by exact fun _ _ _ h=>h) (hw:Region.wanted oi (yielded ops a.tmps)=true:=by rfl) (hy:∀ w,S w->(execOp a.eval oi).run P w=.ok (.value v) w:=by exact fun w' hS'=>by rfl):eI P md ops Q S n (fuel+1) listed a w:=by subst hl ha;exact SE hi hin hb hs hf hr hQ (Or.inl ⟨hw,hy⟩) hS hE hC h
theorem bR (i:Nat) (v:Value) (hS:S w) (h:eI P md ops Q S n fuel l' a' w) (hi:ops[i]? = some oi:=by exact rfl) (hin:i<n:=by decide) (hb:CF md ops n i=true:=by kernel_rfl) (hl:listed.setIfInBounds i true=l':=by (try simp only[ar]);exact rfl) (ha:a.put oi.dst v=a':=by (try simp only[ar,Act.put,Nat.reduceAdd]);exact rfl) (hE:ko n listed=true:=by kernel_rfl) (hC:sS md ops listed=true:=by kernel_rfl) (hs:Region.noSelect ops=true:=by kernel_rfl) (hf:Region.free md ops listed i=true:=by kernel_rfl) (hr:(Region.ready md ops listed).contains i=true:=by kernel_rfl) (hQ:∀ c a w,Q (.panic c) (a.put oi.dst v) w->Q (.panic c) a w:=by exact fun _ _ _ h=>h) (hw:Region.wanted oi (yielded ops a.tmps)=true:=by rfl) (hy:∀ w,S w->(execOp a.eval oi).run P w=.ok (.value v) w:=by intro w' hS';(try dsimp only at hS');go_split_ands;go_simp):eI P md ops Q S n (fuel+1) listed a w:=by subst hl ha;exact SE hi hin hb hs hf hr hQ (Or.inl ⟨hw,hy⟩) hS hE hC h
end
end Go.Proofs.YtgpfmgaidbjcpaaGreatDoor
