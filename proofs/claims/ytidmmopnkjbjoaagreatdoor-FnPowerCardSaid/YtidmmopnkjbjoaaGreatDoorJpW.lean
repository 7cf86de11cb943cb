/- Joined texts. -/
import Derived.Test.YtidmmopnkjbjoaaGreatDoorJpV
set_option linter.unusedVariables false
set_option linter.unusedSimpArgs false
set_option maxRecDepth 10000
set_option maxHeartbeats 16000000
namespace Go.Proofs.YtidmmopnkjbjoaaGreatDoor
open ChangeShapes WideShapes ChangeAt RowKit
open Go.Proofs.Tryz
theorem RJ (a1 a2:Option Addr) (c1 c2:Nat) (zs al:List Int) (w:World) (h1:zs.length<=281474976710656) (h2:al.length<=281474976710656) (R1:aI w a1 zs) (R2:aI w a2 al):Calls prog 93 #[.slice a1 zs.length c1,.slice a2 al.length c2] w (dp (.bool (jn al zs)) w):=by
 have hH:Hid (∀ x,_):=fun x=>Ye a2 c2 al x w h2 R2;clear R2;go_enter func93,ntmps93;go_wp2;go_loop [9] (fun i=>∃ k:Nat,k<=zs.length/\bC (qK al zs) k=true/\i=ad k) (fun i=>zs.length-(intOf i).toNat)
 case atStart=>exact ⟨0,aS _,rfl,rfl⟩
 case round=>
 obtain ⟨k,hk,hok,rfl⟩:=hrel;by_cases hlt:k<zs.length
 ·obtain ⟨b,off,hab,_,hc⟩:=R1.get hlt;have x1:=hc k hlt;have hat:qK al zs k=!(bN al (zs.getD k 0)):=rfl;obtain ⟨z,ez⟩:∃ z,zs.getD k 0=z:=⟨_,rfl⟩;rw[ez] at x1 hat;rw[hab];have e1:(0:Int)<=(k:Int):=by omega
  have e2:(k:Int)<(zs.length:Int):=by omega
  cases h:bN al z with
  | false=>
   have HO:Hid (bC (qK al zs) (k+1)=true):=jW hok (by rw[hat,h];rfl);clear hat hok ez hc;go_wp2_with (go_at_call 131;refine (hH.out _).mono ?_;rintro e w' ⟨rfl,rfl⟩);go_round;case rel=>exact ⟨k+1,by omega,HO.out,by go_num⟩
   case measure=>simp[intOf];omega
  | true=>
   have HR:Hid (jn al zs=false):=jD hlt (by rw[hat,h];rfl);clear hat hok ez hc;go_wp2_with (go_at_call 131;refine (hH.out _).mono ?_;rintro e w' ⟨rfl,rfl⟩);go_ret;exact ⟨bQ HR.out.symm,rfl⟩
 obtain rfl:k=zs.length:=by omega
 have HR:Hid (jn al zs=true):=hok;clear hok R1;go_wp2;go_ret;exact ⟨bQ HR.out.symm,rfl⟩
def zT (zs:List Int) (i:Nat):Bool:=!(bN (zs.take i) (zs.getD i 0))
def dM (zs:List Int):Bool:=bC (zT zs) zs.length
theorem JK (zs:List Int):dM zs=true ↔ zs.Nodup:=by
 unfold dM;rw[iN];constructor
 ·intro h;rw[List.Nodup,sc];intro i j hi hj hij e;have hh:=h j hj;have h2:bN (zs.take j) (zs.getD j 0)=false:=by simpa [zT] using hh
  have h3:=Ih (zs:=zs) (k:=i) (n:=j) hij (by omega);rw[eS _ _ hi,e,<- eS _ _ hj] at h3;rw[h3] at h2;cases h2
 intro h i hi;rw[List.Nodup,sc] at h;cases hb:bN (zs.take i) (zs.getD i 0) with
 | false=>rw[zT,hb];rfl
 | true=>
  have hm:=uU.1 hb;obtain ⟨j,hj,e⟩:=uK.1 hm;have hj':j<i:=by simp at hj;omega
  rw[Nk,eS _ _ hi] at e;exact absurd e (h j i (by omega) hi hj')
theorem RM (a:Option Addr) (c:Nat) (zs:List Int) (w:World) (hbig:zs.length<=281474976710656) (hcap:zs.length<=c) (hR:aI w a zs):Calls prog 28 #[.slice a zs.length c] w fun e w'=>e=.returned (.bool (!(dM zs)))/\∃ n,w'=w.drewN n:=by
 go_enter func28,ntmps28;go_wp2;go_loopw [3] (fun i w'=>∃ k n:Nat,k<=zs.length/\bC (zT zs) k=true/\i=ad k/\w'=w.drewN n) (fun i _=>zs.length-(intOf i).toNat);case atStart=>exact ⟨0,0,aS _,rfl,rfl,rfl⟩
 case round=>
 obtain ⟨k,n,hk,hok,rfl,hW⟩:=hrel;have HW:Hid (∀ m,∃ m',wr.drewN m=w.drewN m'):=fun m=>⟨n+m,by rw[hW,tp]⟩;by_cases hlt:k<zs.length
 ·have hR':aI wr a zs:=by rw[hW];exact hR.drewN n
  obtain ⟨b,off,rfl,hb,hc⟩:=hR'.get hlt;have hH:Hid (∀ m x,Calls prog 70 #[.slice (some ⟨b,off,none⟩) k c,ad x] (wr.drewN m) fun e w'=>e=.returned (.bool (bN (zs.take k) x))/\w'=wr.drewN m):=fun m x=>Ii b off k c zs x _ (by omega) (by omega) (fun j hj=>hc j hj);have x1:=hc k hlt;have hat:zT zs k=!(bN (zs.take k) (zs.getD k 0)):=rfl;obtain ⟨z,ez⟩:∃ z,zs.getD k 0=z:=⟨_,rfl⟩;rw[ez] at x1 hat;have e1:(0:Int)<=(k:Int):=by omega
  have e2:(k:Int)<(zs.length:Int):=by omega
  have e3:(k:Int)<=(c:Int):=by omega
  by_cases h2:bN (zs.take k) z=true
  ·have HR:Hid ((!(dM zs))=true):=by
    show (!(dM zs))=true
    rw[dM,jD hlt (by rw[hat,h2];rfl)];rfl
   clear hat hok ez hc hR hR' hW;go_wp2;go_quiet ((go_at_call 70;exact dD (hH.out _ _) h2));go_wp2;go_ret;exact ⟨bQ HR.out.symm,HW.out _⟩
  have h2':bN (zs.take k) z=false:=by simpa using h2
  have HO:Hid (bC (zT zs) (k+1)=true):=jW hok (by rw[hat,h2'];rfl);clear hat hok ez hc hR hR' hW h2;go_wp2;go_quiet ((go_at_call 70;exact dD (hH.out _ _) h2'));go_wp2;obtain ⟨m',hm'⟩:=HW.out nq;go_roundw;case rel=>exact ⟨k+1,m',by omega,HO.out,by go_num,hm'⟩
  case measure=>simp[intOf];omega
 obtain rfl:k=zs.length:=by omega
 have HR:Hid ((!(dM zs))=false):=by
  show (!(dM zs))=false
  rw[dM,hok];rfl
 have HW0:Hid (wr=w.drewN n):=hW;clear hok hR hW;go_wp2;go_ret;exact ⟨bQ HR.out.symm,n,HW0.out⟩
theorem adj (c:Nat) (w:World):Calls prog 95 #[.slice none 0 c] w (aT (.tuple #[]) w):=by go_enter func95,ntmps95;go_wp2;refine wp_loop_rounds 1 ?_;rw[rounds_succ];go_wp2;refine wp_loop_rounds 1 ?_;rw[rounds_succ];go_wp2;refine Ny (v:=.tuple #[]) (by simp[results,results95,go_sem]) rfl ?_;exact ⟨rfl,aK _ _⟩
theorem RN (zs:List Int):dJ (fT zs)=dM zs:=by
 have h:dJ (fT zs)=true ↔ dM zs=true:=by
  rw[Er,JK,<- (Jk zs).nodup_iff];constructor
  ·intro h;exact h.imp fun h e=>by omega
  intro h;have hs:=QJ zs;rw[sc] at hs ⊢;rw[List.Nodup,sc] at h;intro i j hi hj hij;have h1:=hs i j hi hj hij;have h2:=h i j hi hj hij;omega
 cases h1:dJ (fT zs) <;> cases h2:dM zs <;> simp_all
theorem adk {base n c:Nat} {a:Option Addr} {zs:List Int} (W:World) (h:bo base W a n c zs) (hb:base<=W.heap.size) (hn:zs.length<=1000):Calls prog 95 #[.slice a zs.length c] W fun e w'=>e=.returned (.tuple #[])/\aI w' a (fT zs)/\Below base W w':=by
 obtain rfl:=h.1;cases a with
 | none=>
  have h0:zs=[]:=by
   rcases h.own with q | ⟨g,q,_⟩;·exact q
   cases q
  subst h0;exact (adj c W).mono fun e w' ⟨he,hw⟩=>⟨he,Or.inl (by simp[fT]),hw.mono hb⟩
 | some p=>
  rcases h.2.2 with ⟨q,_⟩ | ⟨g,c2,cur,hv,hg,hc,_⟩;·cases q
  ·simp at hv;obtain ⟨rfl,-⟩:=hv;have hlt:g<W.heap.size:=(mY.1 hc).1;have hk:av g (bU zs) W:=by
    rcases h.own with h0 | ⟨g',e,_,hk'⟩
    ·rw[h0];exact ⟨fun j hj=>by simp at hj,fun j hj=>by simp at hj,hlt⟩
    cases e;exact hk'
   exact (Tryz.slices_Sort_int g 0 c zs W (Fs hk) hlt (by omega)).mono fun e w' ⟨he,m,os,hw⟩=>⟨he,by
    subst hw;exact wR (QH hk (zI _)),by
    subst hw;exact QI hg hb⟩
theorem RO (a:Option Addr) (c:Nat) (zs:List Int) (w:World) (hn:zs.length<=1000) (hR:aI w a zs):Calls prog 39 #[.slice a zs.length c] w (aT (.bool (dM zs)) w):=by
 have HA:Hid (dJ (fT zs)=dM zs):=RN zs;have hcl:Hid (∀ W,aI W a zs->_):=fun W h=>abZ a c zs W hn h;have hso:Hid (∀ W a' c',bo w.heap.size W a' zs.length c' zs->w.heap.size<=W.heap.size->Calls prog 95 #[.slice a' zs.length c'] W fun e w'=>e=.returned (.tuple #[])/\aI w' a' (fT zs)/\Below w.heap.size W w'):=fun W a' c' h1 h2=>adk W h1 h2 hn;have has:Hid (∀ W a' c',aI W a' (fT zs)->Calls prog 36 #[.slice a' zs.length c'] W fun e w'=>e=.returned (.bool (dM zs))/\∃ n,w'=W.drewN n):=fun W a' c' h=>by have:=Bw a' c' (fT zs) W (by rw[zI];omega) h;rwa [zI,RN] at this
 go_enter func39,ntmps39;go_wp2_with (first
  | (go_at_call 94;refine (hcl.out _ hR).mono ?_;rintro e w1 ⟨a1,c1,rfl,f1,b1⟩)
  | (go_at_call 95;refine (hso.out _ _ _ f1 b1.size).mono ?_;rintro e w2 ⟨rfl,r2,b2⟩)
  | (go_at_call 36;refine (has.out _ _ _ r2).mono ?_;rintro e w3 ⟨rfl,m3,rfl⟩))
 go_ret;exact ⟨rfl,cL (b1.trans b2) m3⟩
theorem JL (k:aL) (a:Option Addr) (c:Nat) (ss:Nat->aA) (w:World) (hn:k.ds.length<=1048576) (ht:k.ds.length+ft k.ds k.ds.length<=1048576) (hR:aZ w a k.ds ss):Calls prog 30 #[aU k a c] w (tV (bD (fun d:ak=>d.ino :: d.fr) k.ds k.ds.length) w):=by
 have x0:=tU w k a c;have n1:=aB (w.alloc (.cells #[.string k.mem,.string k.ay,.slice a k.ds.length c,ad k.ck] 28)) (.cells #[] 3);have e0:(w.alloc (.cells #[.string k.mem,.string k.ay,.slice a k.ds.length c,ad k.ck] 28)).heap.size=w.heap.size+1:=by simp
 have B1:=fq (base:=w.heap.size+1) (w.alloc (.cells #[.string k.mem,.string k.ay,.slice a k.ds.length c,ad k.ck] 28)) (by rw[e0];exact aq _);unfold aj at n1;rw[e0] at n1 B1;have HB:Hid (∀ W,Below (w.heap.size+1) (w.alloc (.cells #[.string k.mem,.string k.ay,.slice a k.ds.length c,ad k.ck] 28)) W->aj w W/\av w.heap.size (cU k a c) W):=fun W hW=>⟨x0.ah.trans (hW.mono (bP _)),fQ x0.arg hW (gn _)⟩;have HL:Hid (∀ W,aj w W->aZ W a k.ds ss):=fun W hb=>hR.below hb;clear hR x0 e0;go_enter func30,ntmps30;go_wp2;go_loopw [3,4] (fun p i w'=>∃ (j:Nat) (a':Option Addr) (cap':Nat),j<=k.ds.length/\i=ad j/\p=.slice a' (bD (fun d:ak=>d.ino :: d.fr) k.ds j).length cap'/\bo (w.heap.size+1) w' a' (bD (fun d:ak=>d.ino :: d.fr) k.ds j).length cap' (bD (fun d:ak=>d.ino :: d.fr) k.ds j)/\Below (w.heap.size+1) (w.alloc (.cells #[.string k.mem,.string k.ay,.slice a k.ds.length c,ad k.ck] 28)) w') (fun _ i _=>k.ds.length-(intOf i).toNat);case atStart=>exact ⟨0,_,_,aS _,rfl,rfl,B1,n1⟩
 case round=>
 obtain ⟨j,a3,c3,hj,rfl,rfl,hbf,hbel⟩:=hrel;clear B1 n1;obtain ⟨M1,kb⟩:=HB.out _ hbel;have c2:=kb.c2;by_cases hlt:j<k.ds.length
 ·have ls:=(HL.out _ M1).sub j hlt;obtain ⟨b,off,hab,fW,hc⟩:=(HL.out _ M1).row.get hlt;obtain ⟨y0,y1,y2,y3,y4,y5,y6,y7⟩:=hc j hlt;have hgl:=qb (fun d:ak=>d.ino :: d.fr) k.ds 0 (fun d=>by unfold fD;simp only[dA];omega) (j+1);have htl:=zx (ds:=k.ds) (k:=j+1) (n:=k.ds.length) (by omega);have hgs:bD (fun d:ak=>d.ino :: d.fr) k.ds (j+1)=bD (fun d:ak=>d.ino :: d.fr) k.ds j++((au k.ds j).ino :: (au k.ds j).fr):=rfl;obtain ⟨d,ed⟩:∃ d,au k.ds j=d:=⟨_,rfl⟩;obtain ⟨s,es⟩:∃ s,ss j=s:=⟨_,rfl⟩;have Mf:Hid (∀ W,aj w W->aI W s.a3 d.fr/\af W b (off+j*8) (ad d.ino)/\af W b (off+j*8+7) (.slice s.a3 d.fr.length s.c3)):=fun W hW=>by
   have h1:=(HL.out W hW).sub j hlt;obtain ⟨b',off',hab',_,hc'⟩:=(HL.out W hW).row.get hlt;rw[hab] at hab';cases hab';obtain ⟨q0,-,-,-,-,-,-,q7⟩:=hc' j hlt;rw[ed] at q0 q7 h1;rw[es] at q7 h1;exact ⟨h1.r3,q0,q7⟩
  rw[ed,es] at ls;rw[ed] at y0 y1 y2 y3 y4 y5 y6 y7 hgs;rw[es] at y4 y6 y7;rw[hab] at c2;have yo:Hid (∀ W,av w.heap.size (cU k a c) W->af W w.heap.size 2 (.slice (some ⟨b,off,none⟩) k.ds.length c)):=fun W h=>by have:=h.c2;rwa [hab] at this
  have jh:=fK List.length hgs;rw[bY,dA] at jh;obtain ⟨acc,ea⟩:∃ acc,bD (fun d:ak=>d.ino :: d.fr) k.ds j=acc:=⟨_,rfl⟩;rw[ea] at hbf hgs jh ⊢;have HS:Hid (bD (fun d:ak=>d.ino :: d.fr) k.ds (j+1)=acc ++ [d.ino]++d.fr):=by
   show bD (fun d:ak=>d.ino :: d.fr) k.ds (j+1)=_
   rw[hgs,jQ];rfl
  have hle:acc.length+1+d.fr.length<=1048576:=by omega
  have e1:(0:Int)<=(j:Int):=by omega
  have e2:(j:Int)<(k.ds.length:Int):=by omega
  have hB:w.heap.size+1<=wr.heap.size:=kb.lt;have S0:wr.drew.cell? ⟨w.heap.size,2,none⟩=some (.slice (some ⟨b,off,none⟩) k.ds.length c)/\wr.drew.cell? ⟨b,off+j*8,none⟩=some (ad d.ino)/\wr.drew.cell? ⟨b,off+j*8+7,none⟩=some (.slice s.a3 d.fr.length s.c3):=⟨c2,y0,y7⟩;have nA:=(aB wr (.cells #[ad d.ino] 3)).drew;have MA:=hbel.trans (nA.mono hB);obtain ⟨MA1,kA⟩:=HB.out _ MA;obtain ⟨rA,pA,qA⟩:=Mf.out _ MA1;have S1:(wr.alloc (.cells #[ad d.ino] 3)).drew.cell? ⟨w.heap.size,2,none⟩=some (.slice (some ⟨b,off,none⟩) k.ds.length c)/\(wr.alloc (.cells #[ad d.ino] 3)).drew.cell? ⟨b,off+j*8,none⟩=some (ad d.ino)/\(wr.alloc (.cells #[ad d.ino] 3)).drew.cell? ⟨b,off+j*8+7,none⟩=some (.slice s.a3 d.fr.length s.c3):=⟨yo.out _ kA,pA,qA⟩;have BA:=(hbf.alloc (.cells #[ad d.ino] 3)).drew;have RA:aI (wr.alloc (.cells #[ad d.ino] 3)).drew (some ⟨wr.heap.size,0,none⟩) [d.ino]:=(qW wr d.ino).drew;have hsA:w.heap.size+1<=(wr.alloc (.cells #[ad d.ino] 3)).drew.heap.size:=bt hB nA.size;clear ed es hc ls ea hgs hgl jh HL hab y1 y2 y3 y4 y5 y6;go_wp2;go_region_held3 (fun W=>af W w.heap.size 2 (.slice (some ⟨b,off,none⟩) k.ds.length c)/\af W b (off+j*8) (ad d.ino)/\af W b (off+j*8+7) (.slice s.a3 d.fr.length s.c3)) (assumption) ((first
   | (have f7':=f7;refine fx rfl (.tmp 21) (.tmp 27) rfl f7 s.a3 s.c3 d.fr (by simp[Act.eval,Act.put]) (by simp[Act.eval,Act.put]) r7 (by simp only[dA,fB];omega) hs7 ?_;intro a8 c8 w8 f8 g8;have M8:=M7.trans (eK f7 hs7 g8);have k8:=(HB.out _ M8).2;have q8:=Mf.out _ (HB.out _ M8).1;have S8:af w8 w.heap.size 2 (.slice (some ⟨b,off,none⟩) k.ds.length c)/\af w8 b (off+j*8) (ad d.ino)/\af w8 b (off+j*8+7) (.slice s.a3 d.fr.length s.c3):=⟨yo.out _ k8,q8.2.1,q8.2.2⟩)
   | (refine fx rfl (.tmp 13) (.tmp 20) rfl BA (some ⟨wr.heap.size,0,none⟩) 1 [d.ino] (by simp[Act.eval,Act.put]) (by simp[Act.eval,Act.put]) RA (by simp only[dA,fB];omega) hsA ?_;intro a7 c7 w7 f7 g7;have M7:=MA.trans (eK BA hsA g7);have k7:=(HB.out _ M7).2;have q7:=Mf.out _ (HB.out _ M7).1;have r7:=q7.1;have hs7:w.heap.size+1<=w7.heap.size:=k7.lt;have S7:af w7 w.heap.size 2 (.slice (some ⟨b,off,none⟩) k.ds.length c)/\af w7 b (off+j*8) (ad d.ino)/\af w7 b (off+j*8+7) (.slice s.a3 d.fr.length s.c3):=⟨yo.out _ k7,q7.2.1,q7.2.2⟩)))
  all_goals
   have f8':bo (w.heap.size+1) w8 a8 (acc ++ [d.ino]++d.fr).length c8 (acc ++ [d.ino]++d.fr):=by rw[bY,bY];exact f8
   go_wp2;go_roundw;case rel=>exact ⟨j+1,a8,c8,by omega,by go_num,by rw[HS.out];simp;omega,by rw[HS.out];exact f8',M8⟩
   case measure=>simp[intOf];omega
 obtain rfl:j=k.ds.length:=by omega
 have e9:decide ((k.ds.length:Int)<(k.ds.length:Int))=false:=by simp
 clear HL HB;go_wp2;go_ret;exact ⟨a3,c3,rfl,hbf.own.mono (bP _),hbf.fits,M1⟩
section
variable {w W W' : World} {mem : ByteArray}
theorem RP {Z:Nat->List Int} {z:Int}:∀ {n:Nat},z ∈ dh Z n->∃ i,i<n/\z ∈ Z i
 | 0,h=>by simp[dh] at h
 | n+1,h=>by
  rw[dh,gP] at h;rcases h with h | h
  ·obtain ⟨i,hi,hz⟩:=RP h;exact ⟨i,by omega,hz⟩
  ·exact ⟨n,by omega,h⟩
theorem adl (mem:ByteArray):dW (dh (dL mem) 8)=decide (dh (dL mem) 8).Nodup:=by
 have hr:∀ z ∈ dh (dL mem) 8,5<=z/\z<=23:=by
  intro z hz;obtain ⟨i,_,hi⟩:=RP hz;unfold dL at hi;cases hI:bp (ar mem (i:Int)) with
  | false=>
   rw[(wM hI).2.2.2] at hi;simp at hi
  | true=>exact (mJ.1 (mH hI).2.2.2.1).1 z hi
 apply qC.2;rw[mJ,dC];exact ⟨fun h=>h.2,fun h=>⟨hr,h⟩⟩
theorem adm (mem:ByteArray):de (cr (bK mem) 8) 0 = -1:=by rw[qP];unfold eJ;rw[Nx];intro p hp;obtain ⟨i,e⟩:=p;have:=(sS mem).ino i e (wT.1 hp).2;simp;omega
theorem adn (mem:ByteArray) (x:Int):de (cr (bK mem) 8) x<8:=by
 rcases BC (cr (bK mem) 8) x with h | h | ⟨p,hp,h⟩;·omega
 ·omega
 have hm:p ∈ eJ (cr (bK mem) 8) x:=by rw[hp];simp
 obtain ⟨i,e⟩:=p;have:=(wT.1 (sg.1 hm).1).1;rw[h];simp only;omega
theorem ado {E:Nat->List aV} {K:Nat->Int} {i:Nat} (h0:0<i) (h8:i<8) (h:lg E K i=false):gU E K=false:=by
 cases h':gU E K with
 | false=>rfl
 | true=>rw[uY.1 h' i h0 h8] at h;cases h
theorem RQ (mem:ByteArray) (w:World) (hms:mem.size<=281474976710656):Calls prog 27 #[.string mem] w (aT (.bool (cv mem)) w):=by
 by_cases hm:mem.size=768
 ·have hz:cv mem=(vH mem && (kf mem && ((bZ mem 0 == 2) && (decide (dh (dL mem) 8).Nodup && gU (bK mem) (bZ mem))))):=by
   unfold cv;rw[bF hm,fe]
  have hpt:Hid (∀ W,Calls prog 78 #[.string mem,ad 0,ad 32] W (dp (.string (aO mem 0 32)) W)):=fun W=>np _ _ _ _ (by unfold maxLen;omega) (by decide) (by decide);have nL:Hid (∀ W,_):=fun W=>nj 28 W;have hzs:(bB 28).size=28:=by decide +kernel
  have hadd:(⟨#[84,78,82,49]⟩:ByteArray)++bB 28=qX:=rfl;have hho:vH mem=((aO mem 0 32).toList == qX.toList):=rfl;obtain ⟨Q,hQ⟩:∃ Q,aO mem 0 32=Q:=⟨_,rfl⟩;obtain ⟨zz,hzz⟩:∃ zz,bB 28=zz:=⟨_,rfl⟩;obtain ⟨hh,Dn⟩:∃ hh,qX=hh:=⟨_,rfl⟩;rw[hQ] at hpt hho;rw[Dn] at hadd hho;rw[hzz] at nL hadd hzs;have LY:((mem.size:Int) != 768)=false:=by simp;omega
  have hsz1:¬ (9223372036854775807<4+zz.size):=by omega
  clear hQ hzz Dn;cases hH:vH mem with
  | false=>
   rw[hH] at hho;rw[hH,dH] at hz;have hne:(Q.toList == hh.toList)=false:=hho.symm;rw[hz];clear hho hH hz;go_enter func27,ntmps27;go_wp2_with (first
    | (go_at_call 78;refine (hpt.out _).mono ?_;rintro e w1 ⟨rfl,rfl⟩)
    | (go_at_call 75;refine (nL.out _).mono ?_;rintro e w2 ⟨rfl,rfl⟩))
   go_ret;exact ⟨rfl,aK _ _⟩
  | true=>
   rw[hH] at hho;rw[hH,fe] at hz;have hne:(Q.toList == hh.toList)=true:=hho.symm;have how:Hid (∀ W,_):=fun W=>RF mem W hms;have hlen:=xu (xC mem) 8;have fN:Hid (∀ W a c,(dh (dL mem) 8).length<=c->aI W a (dh (dL mem) 8)->Calls prog 79 #[.slice a (dh (dL mem) 8).length c] W fun e w'=>e=.returned (.bool (decide (dh (dL mem) 8).Nodup))/\∃ n,w'=W.drewN n):=fun W a c hc hR=>by rw[<- adl];exact Ij a c _ W (by omega) hc hR
   obtain ⟨zs,hzs'⟩:∃ zs,dh (dL mem) 8=zs:=⟨_,rfl⟩;rw[hzs'] at how fN hz;clear hho hH hlen hzs';cases hnd:decide zs.Nodup with
   | false=>
    rw[hnd] at fN;rw[hnd,dH,dU,dU] at hz;rw[hz];clear hnd hz;go_enter func27,ntmps27;go_wp2_with (first
     | (go_at_call 78;refine (hpt.out _).mono ?_;rintro e w1 ⟨rfl,rfl⟩)
     | (go_at_call 75;refine (nL.out _).mono ?_;rintro e w2 ⟨rfl,rfl⟩)
     | (go_at_call 80;refine (how.out _).mono ?_;rintro e w3 ⟨a3,c3,rfl,hc3,o3,b3⟩)
     | (go_at_call 79;refine (fN.out _ _ _ hc3 o3.row).mono ?_;rintro e w4 ⟨rfl,n4,rfl⟩))
    go_ret;exact ⟨rfl,cL b3 n4⟩
   | true=>
    rw[hnd] at fN;rw[hnd,fe] at hz;have jy:Hid (∀ W,_):=fun W=>ada mem W hm;have Ay:Hid (∀ W e w',Cq mem W e w'->∃ a1 c1 a2 c2,e=.returned (.tuple #[.slice a1 8 c1,.slice a2 8 c2,.bool (kf mem)])/\aj W w'/\(kf mem=true->∃ g1 g2,a1=some ⟨g1,0,none⟩/\a2=some ⟨g2,0,none⟩/\fh W g1 g2 (cr (bK mem) 8) w')):=fun W e w' h=>h;have hLo:Hid (∀ (k:Nat) W,Calls prog 81 #[.string mem,ad (k:Int)] W fun e w'=>∃ (o s:Int) (a:Option Addr) (n c:Nat) (x:ByteArray) (bb:Bool),e=.returned (.tuple #[.agg (bj (bZ mem k) o s a n c),.string x,.bool bb])/\aj W w'):=fun k W=>(vw mem (k:Int) W hms).mono fun e w' ⟨a,c,he,ho,hc,hb⟩=>⟨_,_,a,_,c,_,_,by rw[bZ,<- JJ hm];exact he,hb⟩;have hL0:Hid (∀ W,_):=fun W=>hLo.out 0 W;clear hnd;cases hno:kf mem with
    | false=>
     rw[hno] at Ay;rw[hno,dH] at hz;rw[hz];clear hno hz hLo;go_enter func27,ntmps27;go_wp2_with (first
      | (go_at_call 78;refine (hpt.out _).mono ?_;rintro e w1 ⟨rfl,rfl⟩)
      | (go_at_call 75;refine (nL.out _).mono ?_;rintro e w2 ⟨rfl,rfl⟩)
      | (go_at_call 80;refine (how.out _).mono ?_;rintro e w3 ⟨a3,c3,rfl,hc3,o3,b3⟩)
      | (go_at_call 79;refine (fN.out _ _ _ hc3 o3.row).mono ?_;rintro e w4 ⟨rfl,n4,rfl⟩;have l4:=cL b3 n4)
      | (go_at_call 81;refine (hL0.out _).mono ?_;rintro e w5 ⟨o5,s5,a5,n5,c5,x5,Vw,rfl,b5⟩;have l5:=((l4.trans (b5.mono l4.size)).alloc (bt l4.size b5.size) (.cells (bj (bZ mem 0) o5 s5 a5 n5 c5) 117)))
      | (go_at_call 82;refine (jy.out _).mono ?_;intro e w6 hans;obtain ⟨a6,c6,a7,c7,rfl,b6,-⟩:=Ay.out _ _ _ hans;clear hans))
     go_ret;exact ⟨rfl,l5.trans (b6.mono l5.size)⟩
    | true=>
     rw[hno] at Ay;rw[hno,fe] at hz;by_cases hk2:bZ mem 0=2
     ·rw[hk2,show ((2:Int) == 2)=true from rfl,fe] at hz
      rw[hk2] at hL0;have HZ:Hid (cv mem=gU (bK mem) (bZ mem)):=hz;clear hno hz hk2;go_enter func27,ntmps27;go_wp2_with (first
       | (go_at_call 78;refine (hpt.out _).mono ?_;rintro e w1 ⟨rfl,rfl⟩)
       | (go_at_call 75;refine (nL.out _).mono ?_;rintro e w2 ⟨rfl,rfl⟩)
       | (go_at_call 80;refine (how.out _).mono ?_;rintro e w3 ⟨a3,c3,rfl,hc3,o3,b3⟩)
       | (go_at_call 79;refine (fN.out _ _ _ hc3 o3.row).mono ?_;rintro e w4 ⟨rfl,n4,rfl⟩;have l4:=cL b3 n4)
       | (go_at_call 81;refine (hL0.out _).mono ?_;rintro e w5 ⟨o5,s5,a5,n5,c5,x5,Vw,rfl,b5⟩;have l5:=((l4.trans (b5.mono l4.size)).alloc (bt l4.size b5.size) (.cells (bj 2 o5 s5 a5 n5 c5) 117));have y5:=(bu [ad 2,ad o5,ad s5,.slice a5 n5 c5] w5 117))
       | (go_at_call 82;refine (jy.out _).mono ?_;intro e w6 hans;obtain ⟨a6,c6,a7,c7,rfl,b6,Wn⟩:=Ay.out _ _ _ hans;clear hans;obtain ⟨g1,g2,rfl,rfl,MU⟩:=Wn (by trivial);clear Wn;have y6:=(y5.below b6).c0))
      obtain ⟨wa,GV⟩:∃ wa,w5.alloc (.cells (bj 2 o5 s5 a5 n5 c5) 117)=wa:=⟨_,rfl⟩;rw[GV] at MU l5;clear y6 y5 b6 GV b5 l4 fN how hpt nL hL0 jy Ay o3 b3;go_loopg [9] 7 (fun gk v W=>∃ k:Nat,0<k/\k+gk=8/\v=ad k/\(∀ i,0<i->i<k->lg (bK mem) (bZ mem) i=true)/\fh wa g1 g2 (cr (bK mem) 8) W)
      case atStart=>exact ⟨1,by decide,rfl,rfl,fun i h0 h1=>by omega,MU⟩
      case round=>
      obtain ⟨k,hk0,hkg,rfl,hall,pr⟩:=hrel;clear MU;by_cases hlt:k<8
      ·have hLk:Hid (∀ W,_):=fun W=>hLo.out k W;have hone:lg (bK mem) (bZ mem) k=(((bZ mem k == 0) == (de (cr (bK mem) 8) (k:Int) == -1)) && (bZ mem k == 0 || fR (de (cr (bK mem) 8)) 8 (k:Int))):=rfl;have HBAD:Hid (lg (bK mem) (bZ mem) k=false->cv mem=false):=fun h=>by rw[HZ.out];exact ado hk0 hlt h
       have oX:Hid (lg (bK mem) (bZ mem) k=true->∀ i,0<i->i<k+1->lg (bK mem) (bZ mem) i=true):=fun h i h0 h1=>by
        by_cases e:i=k
        ·rw[e];exact h
        exact hall i h0 (by omega)
       have Lu:Hid (∀ W,fh wa g1 g2 (cr (bK mem) 8) W->Calls prog 83 #[bg g1 8 c6,ad (k:Int)] W (dp (.bool (fR (de (cr (bK mem) 8)) 8 (k:Int))) W)):=fun W h=>ac7 _ g1 c6 k W (adn mem) (fun x hx=>h.par hx) (by omega);have e1:(0:Int)<=(k:Int):=by omega
       have e2:(k:Int)<8:=by omega
       obtain ⟨K,hK⟩:∃ K,bZ mem k=K:=⟨_,rfl⟩;obtain ⟨p,hp⟩:∃ p,de (cr (bK mem) 8) (k:Int)=p:=⟨_,rfl⟩;obtain ⟨r,hr⟩:∃ r,fR (de (cr (bK mem) 8)) 8 (k:Int)=r:=⟨_,rfl⟩;rw[hK] at hLk hone;rw[hp] at hone;rw[hr] at hone Lu;have HP:Hid (de (cr (bK mem) 8) (k:Int)=p):=hp;clear hK hp hr hall hLo;go_wp2_with (go_at_call 81;refine (hLk.out _).mono ?_;rintro e w7 ⟨o7,s7,a7,n7,fb,x7,bb7,rfl,b7⟩;have p7:=(pr.below b7).below (aB w7 (.cells (bj K o7 s7 a7 n7 fb) 117));have y7:=(bu [ad K,ad o7,ad s7,.slice a7 n7 fb] w7 117).c0);have u7:=p7.par hlt;rw[HP.out] at u7;clear hLk pr b7;by_cases C7:K=0 <;> by_cases hpn:p = -1
       ·subst C7 hpn;have HA:=oX.out (by rw[hone];rfl);have LG:Hid (∀ i,0<i->i<k+1->lg (bK mem) (bZ mem) i=true):=HA;clear HA hone HBAD oX;go_quiet (fail);go_wp2;go_roundg (gk-1)
        case measure=>omega
        case rel=>exact ⟨k+1,by omega,by omega,by go_num,LG.out,p7.drewN _⟩
       ·subst C7;have Mx:(p == -1)=false:=by simpa using hpn
        have HB2:Hid (cv mem=false):=HBAD.out (by rw[hone,Mx];rfl);clear hone HBAD oX;go_quiet (fail);go_wp2;go_ret;exact ⟨xD HB2.out.symm,l5.trans ((cL p7.ah _).mono l5.size)⟩
       ·subst hpn;have KN:(K == 0)=false:=by simpa using C7
        have HB2:Hid (cv mem=false):=HBAD.out (by rw[hone,KN];rfl);clear hone HBAD oX;go_quiet (fail);go_wp2;go_ret;exact ⟨xD HB2.out.symm,l5.trans ((cL p7.ah _).mono l5.size)⟩
       have Mx:(p == -1)=false:=by simpa using hpn
       have KN:(K == 0)=false:=by simpa using C7
       have hKn:(K != 0)=true:=by simpa using C7
       have hone':lg (bK mem) (bZ mem) k=r:=by rw[hone,Mx,KN];simp
       clear hone;cases r with
       | true=>
        have LG:Hid (∀ i,0<i->i<k+1->lg (bK mem) (bZ mem) i=true):=oX.out hone';clear hone' HBAD oX;go_quiet ((go_at_call 83;exact mB (Lu.out _ (p7.drewN _))));go_wp2;go_roundg (gk-1)
        case measure=>omega
        case rel=>exact ⟨k+1,by omega,by omega,by go_num,LG.out,p7.drewN _⟩
       | false=>
        have HB2:Hid (cv mem=false):=HBAD.out hone';clear hone' HBAD oX;go_quiet ((go_at_call 83;exact mB (Lu.out _ (p7.drewN _))));go_wp2;go_ret;exact ⟨xD HB2.out.symm,l5.trans ((cL p7.ah _).mono l5.size)⟩
      obtain rfl:k=8:=by omega
      have HS:Hid (cv mem=true):=by
       show cv mem=true
       rw[HZ.out];exact uY.2 fun i h0 h8=>hall i h0 h8
      have u0:=pr.par (x:=0) (by decide);rw[show ((0:Nat):Int)=0 from rfl,adm] at u0
      clear hall hLo;go_wp2;go_ret;exact ⟨xD HS.out.symm,l5.trans (pr.ah.mono l5.size)⟩
     ·have agj:(bZ mem 0 != 2)=true:=by simpa using hk2
      rw[show (bZ mem 0 == 2)=false by simpa using hk2,dH] at hz;rw[hz];clear hno hz hLo;go_enter func27,ntmps27;go_wp2_with (first
       | (go_at_call 78;refine (hpt.out _).mono ?_;rintro e w1 ⟨rfl,rfl⟩)
       | (go_at_call 75;refine (nL.out _).mono ?_;rintro e w2 ⟨rfl,rfl⟩)
       | (go_at_call 80;refine (how.out _).mono ?_;rintro e w3 ⟨a3,c3,rfl,hc3,o3,b3⟩)
       | (go_at_call 79;refine (fN.out _ _ _ hc3 o3.row).mono ?_;rintro e w4 ⟨rfl,n4,rfl⟩;have l4:=cL b3 n4)
       | (go_at_call 81;refine (hL0.out _).mono ?_;rintro e w5 ⟨o5,s5,a5,n5,c5,x5,Vw,rfl,b5⟩;have l5:=((l4.trans (b5.mono l4.size)).alloc (bt l4.size b5.size) (.cells (bj (bZ mem 0) o5 s5 a5 n5 c5) 117));have y5:=(bu [ad (bZ mem 0),ad o5,ad s5,.slice a5 n5 c5] w5 117))
       | (go_at_call 82;refine (jy.out _).mono ?_;intro e w6 hans;obtain ⟨a6,c6,a7,c7,rfl,b6,-⟩:=Ay.out _ _ _ hans;clear hans;have y6:=(y5.below b6).c0))
      go_ret;exact ⟨rfl,l5.trans (b6.mono l5.size)⟩
 have hz:cv mem=false:=by unfold cv;rw[bq hm,dH]
 have LY:((mem.size:Int) != 768)=true:=by simp;omega
 rw[hz];clear hm hz;go_enter func27,ntmps27;go_wp2;go_ret;exact ⟨rfl,aK _ _⟩
end
def dF (zs:List Int):List Int:=zs.foldl gl []
theorem RR (zs:List Int) (x:Int):dF (zs ++ [x])=gl (dF zs) x:=by simp[dF,List.foldl_append]
theorem adp (zs acc:List Int):(zs.foldl gl acc).Perm (acc++zs):=by
 induction zs generalizing acc with
 | nil=>simp
 | cons z zs ih=>
  refine (ih (gl acc z)).trans ?_;refine ((RH acc z).append_right zs).trans ?_;exact (List.perm_middle (l₁:=acc) (l₂:=zs) (a:=z)).symm
theorem Cr (zs:List Int):(dF zs).Perm zs:=adp zs []
theorem xE (zs:List Int):(dF zs).length=zs.length:=(Cr zs).length_eq
theorem adq (zs acc:List Int) (h:acc.Pairwise (·<=·)):(zs.foldl gl acc).Pairwise (·<=·):=by
 induction zs generalizing acc with
 | nil=>exact h
 | cons z zs ih=>exact ih _ (adf z h)
theorem RS (zs:List Int):(dF zs).Pairwise (·<=·):=adq zs [] List.Pairwise.nil
theorem JM:∀ {xs ys:List Int},xs.Perm ys->xs.Pairwise (·<=·)->ys.Pairwise (·<=·)->xs=ys
 | [],ys,hp,_,_=>(List.nil_perm.1 hp).symm
 | x :: xs,[],hp,_,_=>absurd hp.length_eq (by simp)
 | x :: xs,y :: ys,hp,h1,h2=>by
  have q1:=uN.1 h1;have q2:=uN.1 h2;have hx:x ∈ y :: ys:=hp.mem_iff.1 (by simp);have hy:y ∈ x :: xs:=hp.mem_iff.2 (by simp);obtain rfl:x=y:=by
   rcases iY.1 hx with e | m1;·exact e
   rcases iY.1 hy with e | m2;·exact e.symm
   have:=q1.1 y m2;have:=q2.1 x m1;omega
  rw[JM (List.perm_cons x |>.1 hp) q1.2 q2.2]
theorem adr (zs:List Int):zs.mergeSort (fun x y=>decide (x<=y))=dF zs:=by refine JM ((List.mergeSort_perm zs _).trans (Cr zs).symm) ?_ (RS zs);have:=aiQ (le:=fun x y:Int=>decide (x<=y)) (fun a b c h1 h2=>by simp only[dC] at h1 h2 ⊢;omega) (fun a b=>by simp only[kY,dC];omega) zs;exact this.imp fun h=>by simpa using h
def db (b:Bool) (zs al:List Int):List Int:=zs.filter fun z=>bN al z == b
theorem ads {b:Bool} {zs al:List Int} {k:Nat} (hk:k<zs.length) (h:bN al (zs.getD k 0)=b):dF (db b (zs.take (k+1)) al)=gl (dF (db b (zs.take k) al)) (zs.getD k 0):=by rw[<- RR];unfold db;rw[kr hk,uL,eS _ _ hk];rw[eS _ _ hk] at h;simp[h]
theorem adt {b:Bool} {zs al:List Int} {k:Nat} (hk:k<zs.length) (h:bN al (zs.getD k 0)=!b):dF (db b (zs.take (k+1)) al)=dF (db b (zs.take k) al):=by unfold db;rw[kr hk,uL];rw[eS _ _ hk] at h;cases b <;> simp[h]
theorem adu (b:Bool) (zs al:List Int) (k:Nat):(dF (db b (zs.take k) al)).length<=zs.length:=by rw[xE];exact bt (DZ _ _) (by rw[fO];omega)
theorem RT (b:Bool) (a1 a2:Option Addr) (c1 c2:Nat) (zs al:List Int) (w:World) (h1:zs.length<=1048576) (h2:al.length<=281474976710656) (R1:aI w a1 zs) (R2:aI w a2 al):Calls prog 87 #[.slice a1 zs.length c1,.slice a2 al.length c2,.bool b] w fun e w'=>∃ a c,e=.returned (.slice a (dF (db b zs al)).length c)/\bo w.heap.size w' a (dF (db b zs al)).length c (dF (db b zs al))/\aj w w':=by
 have b0:=fq w (aq _);have l0:=aB w (.cells #[] 3);go_enter func87,ntmps87;go_wp2;go_loopw [7,8] (fun v i w'=>∃ (k n c g:Nat),k<=zs.length/\i=ad k/\v=bg g n c/\bo w.heap.size w' (some ⟨g,0,none⟩) n c (dF (db b (zs.take k) al))/\aj w w') (fun _ i _=>zs.length-(intOf i).toNat);case atStart=>exact ⟨0,0,0,_,aS _,rfl,rfl,b0,l0⟩
 case round=>
 obtain ⟨k,n,c',g,hk,rfl,rfl,hbuf,hbel⟩:=hrel;clear b0 l0;by_cases hlt:k<zs.length
 ·obtain ⟨bb,off,hab,_,hc⟩:=(R1.below hbel).get hlt;have x1:=hc k hlt;have rB:=fun h=>ads (b:=b) (zs:=zs) (al:=al) hlt h;have hno:=fun h=>adt (b:=b) (zs:=zs) (al:=al) hlt h;have hln:=adu b zs al k;obtain ⟨z,ez⟩:∃ z,zs.getD k 0=z:=⟨_,rfl⟩;rw[ez] at x1 rB hno;have hH:Hid (Calls prog 70 #[.slice a2 al.length c2,ad z] wr (dp (.bool (bN al z)) wr)):=qL a2 c2 al z wr h2 (R2.below hbel);obtain ⟨O,hO⟩:∃ O,dF (db b (zs.take k) al)=O:=⟨_,rfl⟩;rw[hO] at hbuf rB hno hln;obtain rfl:n=O.length:=hbuf.1;have hA:Hid (Calls prog 84 #[bg g O.length c',ad z] wr fun e w'=>∃ a' c',e=.returned (.slice a' (O.length+1) c')/\bo wr.heap.size w' a' (O.length+1) c' (gl O z)/\aj wr w'):=RI g 0 c' O z wr (by omega) hbuf.fits hbuf.own.row;rw[hab];have e1:(0:Int)<=(k:Int):=by omega
  have e2:(k:Int)<(zs.length:Int):=by omega
  by_cases h:bN al z=b
  ·have HS:Hid (gl O z=dF (db b (zs.take (k+1)) al)):=(rB h).symm;rw[h] at hH;clear ez hc rB hno h R1 R2 hO hbuf;have hbb:(b == b)=true:=by simp
   go_wp2_with (first
    | (go_at_call 70;refine (hH.out).mono ?_;rintro e w' ⟨rfl,rfl⟩)
    | (go_at_call 84;refine (hA.out).mono ?_;rintro e w3 ⟨a3,c3,rfl,f3,b3⟩))
   obtain ⟨g3,rfl⟩:∃ g3,a3=some ⟨g3,0,none⟩:=by
    rcases f3.own with h0 | ⟨g3,e3,_⟩;·exact absurd (fK List.length h0) (by rw[ade];simp)
    exact ⟨g3,e3⟩
   go_roundw;case rel=>exact ⟨k+1,_,c3,g3,by omega,by go_num,rfl,by rw[<- HS.out];exact Cp f3 hbel.size,hbel.trans (b3.mono hbel.size)⟩
   case measure=>simp[intOf];omega
  have h':bN al z=!b:=by
   cases b <;> cases hh:bN al z <;> simp_all
  have HS:Hid (dF (db b (zs.take (k+1)) al)=O):=hno h';rw[h'] at hH;have hbb:((!b) == b)=false:=by cases b <;> rfl
  clear ez hc rB hno h h' R1 R2 hO;go_wp2_with (go_at_call 70;refine (hH.out).mono ?_;rintro e w' ⟨rfl,rfl⟩);go_roundw;case rel=>exact ⟨k+1,_,c',g,by omega,by go_num,rfl,by rw[HS.out];exact hbuf,hbel⟩
  case measure=>simp[intOf];omega
 obtain rfl:k=zs.length:=by omega
 have HF:Hid (bo w.heap.size wr (some ⟨g,0,none⟩) n c' (dF (db b zs al))):=by
  show bo _ _ _ _ _ _
  rw[ks] at hbuf;exact hbuf
 have e9:decide ((zs.length:Int)<(zs.length:Int))=false:=by simp
 clear hbuf R1 R2;go_wp2;go_ret;exact ⟨_,c',by rw[<- HF.out.1];rfl,by rw[<- HF.out.1];exact HF.out,hbel⟩
theorem RU (b:Bool) (a1 a2:Option Addr) (c1 c2:Nat) (zs al:List Int) (w:World) (h1:zs.length<=1048576) (h2:al.length<=281474976710656) (R1:aI w a1 zs) (R2:aI w a2 al):Calls prog 87 #[.slice a1 zs.length c1,.slice a2 al.length c2,.bool b] w fun e w'=>∃ a c,e=.returned (.slice a (dF (db b zs al)).length c)/\(dF (db b zs al)).length<=c/\aQ w.heap.size w' a (dF (db b zs al))/\aj w w':=(RT b a1 a2 c1 c2 zs al w h1 h2 R1 R2).mono fun e w' ⟨a,c,he,hb,hw⟩=>⟨a,c,he,hb.fits,hb.own,hw⟩
section
variable {w W W' : World} {mem : ByteArray}
def cY (mem:ByteArray):List Int:=if cv mem=true then dF (dh (dL mem) 8) else []
theorem JN (mem:ByteArray):(cY mem).length<=1048576:=by
 unfold cY;split
 ·rw[xE];have:=xu (xC mem) 8;omega
 exact aS _
theorem adv (zs:List Int) (k:Nat) (h:k<zs.length):dF (zs.take (k+1))=gl (dF (zs.take k)) (zs.getD k 0):=by rw[kr h,RR,eS _ _ h]
theorem RW (mem:ByteArray) (w:World) (hms:mem.size<=281474976710656):Calls prog 32 #[.string mem] w fun e w'=>∃ a c,e=.returned (.slice a (cY mem).length c)/\bo w.heap.size w' a (cY mem).length c (cY mem)/\aj w w':=by
 have hS:Hid (∀ W,_):=fun W=>RQ mem W hms;have how:Hid (∀ W,_):=fun W=>RF mem W hms;have l0:=aB w (.cells #[] 3);have b0:=fq (base:=w.heap.size) w (aq _);cases hs:cv mem with
 | false=>
  rw[hs] at hS;have hu:cY mem=[]:=by unfold cY;rw[hs];rfl
  rw[hu];clear hs hu how;go_enter func32,ntmps32;go_wp2_with (go_at_call 27;refine (hS.out _).mono ?_;rintro e w1 ⟨rfl,b1⟩);go_ret;exact ⟨_,_,rfl,b0.below b1,l0.trans (b1.mono l0.size)⟩
 | true=>
  rw[hs] at hS;have hu:cY mem=dF (dh (dL mem) 8):=by unfold cY;rw[aF hs]
  rw[hu];have hlen:=xu (xC mem) 8;obtain ⟨zs,hzs⟩:∃ zs,dh (dL mem) 8=zs:=⟨_,rfl⟩;rw[hzs] at how hlen ⊢;clear hs hu hzs;go_enter func32,ntmps32;go_wp2_with (first
   | (go_at_call 27;refine (hS.out _).mono ?_;rintro e w1 ⟨rfl,b1⟩;have l1:=l0.trans (b1.mono l0.size))
   | (go_at_call 80;refine (how.out _).mono ?_;rintro e w2 ⟨a2,c2,rfl,hc2,o2,b2⟩))
  have bf:bo w.heap.size w2 (some ⟨w.heap.size,0,none⟩) 0 0 []:=(b0.below b1).below b2;have l2:=l1.trans (b2.mono l1.size);have r2:=o2.row;clear b0 l0 l1 b1 b2 hS how;go_loopw [3,5] (fun v i W=>∃ (k g c:Nat),k<=zs.length/\i=ad k/\v=bg g k c/\bo w.heap.size W (some ⟨g,0,none⟩) k c (dF (zs.take k))/\aI W a2 zs/\aj w W) (fun _ i _=>zs.length-(intOf i).toNat);case atStart=>exact ⟨0,_,0,aS _,rfl,rfl,bf,r2,l2⟩
  case round=>
   obtain ⟨k,g,c,hk,rfl,rfl,hbuf,hrow,hbel⟩:=hrel;clear bf r2 l2 o2;by_cases hlt:k<zs.length
   ·have hrow':=hrow;obtain ⟨b,off,hab,hbl,hc⟩:=hrow.get hlt;subst hab;have x1:=hc k hlt;have hsl:(dF (zs.take k)).length=k:=hbuf.1.symm;have hti:=adv zs k hlt;obtain ⟨z,ez⟩:∃ z,zs.getD k 0=z:=⟨_,rfl⟩;rw[ez] at x1 hti;have e1:(0:Int)<=(k:Int):=by omega
    have e2:(k:Int)<(zs.length:Int):=by omega
    have hrw:aI wr (some ⟨g,0,none⟩) (dF (zs.take k)):=hbuf.own.row;have hadd:=RI g 0 c (dF (zs.take k)) z wr (by omega) (by rw[hsl];exact hbuf.fits) hrw;rw[hsl,<- hti] at hadd;have HA:Hid (Calls prog 84 #[bg g k c,ad z] wr fun e w'=>∃ a' c',e=.returned (.slice a' (k+1) c')/\bo wr.heap.size w' a' (k+1) c' (dF (zs.take (k+1)))/\aj wr w'):=hadd;clear hadd hti ez hc hrw hsl;go_wp2_with (go_at_call 84;refine HA.out.mono ?_;rintro e w3 ⟨a3,c3,rfl,AN,b3⟩);have ags:=Cp AN hbel.size;obtain ⟨g3,rfl⟩:∃ g3,a3=some ⟨g3,0,none⟩:=by
     rcases AN.2.2 with ⟨h1,h2⟩ | ⟨g',cap',cur,h1,_⟩;·omega
     cases h1;exact ⟨g',rfl⟩
    go_roundw;case rel=>exact ⟨k+1,g3,c3,by omega,by go_num,rfl,ags,hrow'.below b3,hbel.trans (b3.mono hbel.size)⟩
    case measure=>simp[intOf];omega
   obtain rfl:k=zs.length:=by omega
   rw[ks] at hbuf;have HB:Hid (bo w.heap.size wr (some ⟨g,0,none⟩) zs.length c (dF zs)):=hbuf;clear hrow hbuf;go_wp2;go_ret;exact ⟨_,c,by rw[xE];rfl,by rw[xE];exact HB.out,hbel⟩
theorem adw (mem:ByteArray) (w:World) (hms:mem.size<=281474976710656):Calls prog 32 #[.string mem] w fun e w'=>∃ a c,e=.returned (.slice a (cY mem).length c)/\aQ w.heap.size w' a (cY mem)/\aj w w'/\(cY mem).length<=c:=(RW mem w hms).mono fun e w' ⟨a,c,h1,h2,h3⟩=>⟨a,c,h1,h2.own,h3,h2.fits⟩
theorem adx (mem:ByteArray) (w:World) (hms:mem.size<=281474976710656):Calls prog 32 #[.string mem] w fun e w'=>∃ a c,e=.returned (.slice a (cY mem).length c)/\aQ w.heap.size w' a (cY mem)/\aj w w':=(adw mem w hms).mono fun e w' ⟨a,c,h1,h2,h3,_⟩=>⟨a,c,h1,h2,h3⟩
variable {aw ag : Option Addr} {Z M : List Int} {cw cg : Nat}
end
section
variable {w W W' : World} {mem : ByteArray}
structure cz where
 ino:Int
 path:ByteArray
 kind:Int
 owner:Int
 data:ByteArray
def cz.ee (f:cz):List Value:=[.int .i64 f.ino,.string f.path,.int .i64 f.kind,.int .i64 f.owner,.string f.data]
def fy:List cz->List Value
 | []=>[]
 | f :: r=>f.ee++fy r
theorem JO:∀ l:List cz,(fy l).length=l.length*5
 | []=>rfl
 | f :: r=>by rw[fy,bY,JO r];simp[cz.ee];omega
theorem RY:∀ l m:List cz,fy (l++m)=fy l++fy m
 | [],m=>rfl
 | f :: r,m=>by rw[nS,fy,fy,RY r m,jQ]
theorem ady (l:List cz) (f:cz):fy (l ++ [f])=fy l++f.ee:=by rw[RY];simp[fy]
def lE:cz:=⟨0,⟨#[]⟩,0,0,⟨#[]⟩⟩
theorem JP:∀ (l:List cz) (i j:Nat),i<l.length->j<5->(fy l)[i*5+j]? = (l.getD i lE).ee[j]?
 | [],i,j,h,_=>by simp at h
 | f :: r,i,j,h,hj=>by
  have hl:f.ee.length=5:=rfl;rw[fy];cases i with
  | zero=>
   rw[pK (by rw[hl];omega)];simp
  | succ i=>
   rw[ng (by rw[hl];omega),hl,show (i+1)*5+j-5=i*5+j by omega,JP r i j (by simpa using h) hj];simp
theorem RZ {g:Nat} {l:List cz} (h:av g (fy l) W) {i:Nat} (hi:i<l.length):af W g (i*5) (ad (l.getD i lE).ino)/\af W g (i*5+1) (.string (l.getD i lE).path)/\af W g (i*5+2) (ad (l.getD i lE).kind)/\af W g (i*5+3) (ad (l.getD i lE).owner)/\af W g (i*5+4) (.string (l.getD i lE).data):=by
 have hl:=JO l;have key:∀ j (hj:j<5),W.cell? ⟨g,i*5+j,none⟩=(l.getD i lE).ee[j]?:=by intro j hj;rw[h.cell (i*5+j) (by omega),<- JP l i j hi hj,gD (by omega)]
 exact ⟨key 0 (by decide),key 1 (by decide),key 2 (by decide),key 3 (by decide),key 4 (by decide)⟩
def mn (base:Nat) (w:World) (g n cap:Nat) (l:List cz):Prop:=n=l.length/\w.ownsRow base 75 5 (.slice (some ⟨g,0,none⟩) n cap) n (fy l)
variable {base g n cap : Nat} {l : List cz}
theorem mn.below (h:mn base w g n cap l) (hb:aj w W):mn base W g n cap l:=⟨h.1,uO h.2 hb⟩
theorem mn.alloc (h:mn base w g n cap l) (o:Obj):mn base (w.alloc o) g n cap l:=⟨h.1,h.2.alloc o⟩
theorem mn.drew (h:mn base w g n cap l):mn base w.drew g n cap l:=h
theorem mn.iT (h:mn base w g n cap l):av g (fy l) w:=by have hl:=h.2.1;refine ⟨fun j hj=>?_,fun j hj=>h.2.frozenAt j,(h.2.lt g rfl).2⟩;rw[h.2.cellAt j (by omega),gD hj]
theorem adz (w:World) (hb:base<=w.heap.size):mn base (w.alloc (.cells #[] 75)) w.heap.size 0 0 []:=⟨rfl,tu w #[] 0 hb (aS _) rfl⟩
theorem adA:(prog.info? 75).map (fun i=>(i.zero,i.size,i.bytes))=some (some (.agg #[ad 0,.string ⟨#[]⟩,ad 0,ad 0,.string ⟨#[]⟩]),5,56):=by kernel_rfl
theorem R3 (f:cz):∀ x ∈ f.ee,x.oneCell'=true:=by intro x h;simp[cz.ee] at h;rcases h with rfl | rfl | rfl | rfl | rfl <;> rfl
theorem adB {ops:Array Oper} {o:Oper} {A:Act} {K:Act->World->Prop} {Q:Exit->Act->World->Prop} {E:Prop} (hgd:o.guard=none) (sl x:Operand) (ho:o.op=.call { callee:=.builtin .append,args:=#[sl,x],argTypes:=#[71,71] }) (hbuf:mn base w g n cap l) (f:cz) (hs:A.eval sl=bg g n cap) {H:Nat} (hH:w.heap.size=H) (hx:A.eval x=bg H 1 1) (hlen:n+1<=1048576) (hb:base<=w.heap.size) (h:∀ g' cap' w',mn base w' g' (n+1) cap' (l ++ [f])->Below base w w'->w.grownBy w' (some g)->(g'=g\/w.heap.size<=g')->K (A.put o.dst (bg g' (n+1) cap')) w'):if Region.wanted o (yielded ops A.tmps)=true then Oper.wp prog o A (w.alloc (.cells #[ad f.ino,.string f.path,ad f.kind,ad f.owner,.string f.data] 75)) K Q else E:=by
 subst hH;obtain ⟨i0,hi,hz0,hz1,hz2⟩:=iW adA;have hb2:=hbuf.alloc (.cells #[ad f.ino,.string f.path,ad f.kind,ad f.owner,.string f.data] 75);refine step_append_lies _ hgd sl x 71 ho base 75 i0 (.agg #[ad 0,.string ⟨#[]⟩,ad 0,ad 0,.string ⟨#[]⟩]) 5 56 underlying71 hi hz0 hz1 hz2 rfl (by omega) _ n _ hs hb2.2 ⟨w.heap.size,0,none⟩ 1 1 f.ee hx rfl (rZ (pF w _)) (R3 f) (by omega) (by unfold maxLen;omega) (by omega) (by simp;omega) _ rfl ?_;intro g' cap' w' ho' hg' hl' _;refine h g' cap' w' ⟨by rw[hbuf.1];simp,?_⟩ ?_ ?_ ?_
 ·rw[ady];exact ho'
 ·exact lY ((aK _ _).alloc hb _) hg' (fun k hk=>(hbuf.2.lt k hk).1) (by simp;omega)
 ·exact (tC w _ _).trans hg'
 rcases hl' with q | q
 ·left;have e':g=g':=by simpa [Value.ownBlock] using q
  exact e'.symm
 right;rw[q];simp
def Cs (p:Int->Int) (nm:Int->ByteArray):Nat->Int->ByteArray->ByteArray
 | 0,_,out=>out
 | n+1,i,out=>if 0<i then Cs p nm n (p i) ((⟨#[47]⟩++nm i)++out) else out
def mo (mem:ByteArray) (i:Nat):ByteArray:=od (Cs (de (cr (bK mem) 8)) (sB (cr (bK mem) 8)) 8 (i:Int) ⟨#[]⟩)
theorem R4 {E:Nat->List aV} {K:Nat->Int} (ht:gU E K=true) (hS:sG E K) {x k:Nat} {q:ByteArray} (h:eh E x k q):x<8/\∀ m,k<=m->∀ out,Cs (de (cr E 8)) (sB (cr E 8)) m (x:Int) out=q++out:=by
 induction h using eh.ind with
 | zero=>
  refine ⟨by decide,fun m _ out=>?_⟩;rw[P5];cases m with
  | zero=>rfl
  | succ m=>rw[Cs,aG (by decide)]
 | @down d k q x nm hd hm ih=>
  have hx:=hS.ino _ _ hm;simp only at hx;refine ⟨by omega,fun m hk out=>?_⟩;obtain ⟨m',rfl⟩:∃ m',m=m'+1:=⟨m-1,by omega⟩;obtain ⟨h1,h2⟩:=aaj ht hS ih.1 hm;simp only at h1 h2;rw[Cs,aF hx.1,h1,h2,ih.2 m' (by omega),EX,EX,EX]
theorem R7 {F:Nat->Nat} {P:Nat->ByteArray} (h:fM (bK mem) (bZ mem) [] F P) (mR:bZ mem 0=2) (ht:gU (bK mem) (bZ mem)=true) {x:Nat} (hx:x<8) (hk:bZ mem x≠0):P x=mo mem x/\∃ k q,k<=8/\eh (bK mem) x k q/\mo mem x=od q:=by
 obtain ⟨k,wy,ha⟩:=aak h (sS mem) mR ht hx hk;obtain ⟨q,hq,hp,_,_⟩:=aah (sS mem) ha;have hu:=(R4 ht (sS mem) hq).2 8 wy ⟨#[]⟩;have hf:mo mem x=od q:=by rw[mo,hu,IY]
 exact ⟨by rw[hf,hp],k,q,wy,hq,hf⟩
def sU (mem:ByteArray) (P:Nat->ByteArray) (i:Nat):cz:=⟨(i:Int),P i,bZ mem i,cq (ar mem (i:Int)),lu mem (i:Int)⟩
def fz (mem:ByteArray) (P:Nat->ByteArray):Nat->List cz
 | 0=>[]
 | i+1=>fz mem P i++if bZ mem i=0 then [] else [sU mem P i]
theorem FV (mem:ByteArray) (P:Nat->ByteArray):∀ i,(fz mem P i).length<=i
 | 0=>aq _
 | i+1=>by have:=FV mem P i;rw[fz,bY];split <;> simp <;> omega
theorem JQ {P P':Nat->ByteArray}:∀ i,(∀ x,x<i->bZ mem x≠0->P x=P' x)->fz mem P i=fz mem P' i
 | 0,_=>rfl
 | i+1,h=>by
  rw[fz,fz,JQ i fun x hx hk=>h x (by omega) hk];by_cases hk:bZ mem i=0;·rw[aF hk,aF hk]
  ·rw[aG hk,aG hk,sU,sU,h i (by omega) hk]
def di (mem:ByteArray):List cz:=if cv mem=true then fz mem (mo mem) 8 else []
theorem xF (h:cv mem=true):mem.size=768/\kf mem=true/\bZ mem 0=2/\gU (bK mem) (bZ mem)=true:=by unfold cv at h;simp only[cj,dC,qB] at h;exact ⟨h.1,h.2.2.1,h.2.2.2.1,h.2.2.2.2.2⟩
end
section
variable {w W W' : World} {mem : ByteArray} {B : Nat} {N : Nat → cW} {F : Nat → Nat} {P : Nat → ByteArray}
theorem R8 (w:World) (hG:nJ mem B N F P w):Calls prog 45 #[aD B 0] w fun e w'=>∃ g c,e=.returned (bg g (fz mem P 8).length c)/\w.heap.size<=g/\av g (fy (fz mem P 8)) w'/\aj w w':=by
 have hr:=World.rangeAt_alloc hG.tb.range (.cells #[] 75);have LA:(kI N 8).length=48:=qV N 8;have hix:=fun i hi W=>QM N i hi W;obtain ⟨C,hC⟩:∃ C,(kI N 8).toArray=C:=⟨_,rfl⟩;have HC:Hid ((kI N 8).toArray=C):=hC;rw[hC] at hix;have HX:Hid (∀ i:Nat,i<8->∀ W,(Instr.index 132 (.agg C) (ad (i:Int))).run prog W=.ok (.agg #[ad (N i).k,ad (N i).o,ad (N i).s,.slice (N i).a (N i).n (N i).c,.string (N i).x,.slice (N i).ae (N i).ne (N i).ce]) W):=hix;have b0:=adz (base:=w.heap.size) w (aq _);have l0:=aB w (.cells #[] 75);have hlen:=FV mem P;have HG:Hid (nJ mem B N F P w):=hG;clear hC hix hG;go_enter func45,ntmps45;go_wp2_with (refine WW rfl 132 (.tmp 9) rfl B 0 rfl _ _ hr underlying132 rfl (by rw[QL,LA]) ?_;rw[HC.out]);clear hr;go_loopw [3,11] (fun v i w'=>∃ (k n c g:Nat),k<=8/\i=ad k/\v=bg g n c/\mn w.heap.size w' g n c (fz mem P k)/\aj w w') (fun _ i _=>8-(intOf i).toNat);case atStart=>exact ⟨0,0,0,_,aS _,rfl,rfl,b0,l0⟩
 case round=>
 obtain ⟨k,n,c,g,hk,rfl,rfl,hbuf,hbel⟩:=hrel;clear b0 l0;by_cases hlt:k<8
 ·have hx:=HX.out k hlt;have hnd:=HG.out.nd k hlt;have x1:=(HG.out.tb.below hbel HG.out.tb.lt).rz k hlt;have Wp:=(HG.out.tb.below hbel HG.out.tb.lt);have e1:(0:Int)<=(k:Int):=by omega
  have e2:(k:Int)<8:=by omega
  have hnl:n<=8:=by have:=hlen k;rw[hbuf.1];omega
  have hkk:=hnd.k;have WB:=hnd.o;have Wo:=hnd.x;have hst:fz mem P (k+1)=fz mem P k++if bZ mem k=0 then [] else [sU mem P k]:=rfl
  have hfl:sU mem P k=⟨(k:Int),P k,bZ mem k,cq (ar mem (k:Int)),lu mem (k:Int)⟩:=rfl;rw[<- WB,<- Wo,<- hkk] at hfl;rw[<- hkk] at hst;obtain ⟨d,hd⟩:∃ d,N k=d:=⟨_,rfl⟩;rw[hd] at hx hfl hst;obtain ⟨pk,hpk⟩:∃ pk,P k=pk:=⟨_,rfl⟩;rw[hpk] at x1 hfl;have nl:=aB wr (.cells #[ad d.k,ad d.o,ad d.s,.slice d.a d.n d.c,.string d.x,.slice d.ae d.ne d.ce] 131);have nb:=bu [ad d.k,ad d.o,ad d.s,.slice d.a d.n d.c,.string d.x,.slice d.ae d.ne d.ce] wr 131;have mQ:=hbuf.below nl;have AJ:=hbel.trans (nl.mono hbel.size);have x2:=(nl.cell (p:=⟨B,56+k,none⟩) Wp.lt).trans x1;obtain ⟨c0,c1,c2,c3,c4,c5⟩:=vC nb;clear hnd hd hpk Wp hkk WB Wo;by_cases hz:d.k=0
  ·have HS:Hid (fz mem P (k+1)=fz mem P k):=by
    show _=_
    rw[hst,aF hz,tA]
   have hz':(d.k != 0)=false:=by simpa using hz
   clear hst hfl hz;go_wp2;go_roundw;case rel=>exact ⟨k+1,n,c,g,by omega,by go_num,rfl,by rw[HS.out];exact mQ,AJ⟩
   case measure=>simp[intOf];omega
  have HS:Hid (fz mem P (k+1)=fz mem P k ++ [⟨(k:Int),pk,d.k,d.o,d.x⟩]):=by
   show _=_
   rw[hst,aG hz,hfl]
  have hz':(d.k != 0)=true:=by simpa using hz
  clear hst hfl hz;go_wp2;have yt:=mQ.drew;have K6:=AJ.drew;have uD:Hid (g<wr.heap.size/\B<wr.heap.size/\B<g):=⟨(hbuf.2.lt g rfl).2,cS HG.out.tb.lt hbel.size,cS HG.out.tb.lt (hbuf.2.lt g rfl).1⟩;obtain ⟨W0,hW0⟩:∃ W0,wr.alloc (.cells #[ad d.k,ad d.o,ad d.s,.slice d.a d.n d.c,.string d.x,.slice d.ae d.ne d.ce] 131)=W0:=⟨_,rfl⟩;have hs0:W0.heap.size=wr.heap.size+1:=by rw[<- hW0];simp
  rw[hW0] at yt K6 c0 c1 c4 x2 ⊢;have hS0:W0.drew.cell? ⟨B,56+k,none⟩=some (.string pk)/\W0.drew.cell? ⟨wr.heap.size,0,none⟩=some (ad d.k)/\W0.drew.cell? ⟨wr.heap.size,1,none⟩=some (ad d.o)/\W0.drew.cell? ⟨wr.heap.size,4,none⟩=some (.string d.x):=⟨x2,c0,c1,c4⟩;have hnew:=aB W0.drew (.cells #[ad (k:Int),.string pk,ad d.k,ad d.o,.string d.x] 75);have hS1:(W0.drew.alloc (.cells #[ad (k:Int),.string pk,ad d.k,ad d.o,.string d.x] 75)).cell? ⟨B,56+k,none⟩=some (.string pk)/\(W0.drew.alloc (.cells #[ad (k:Int),.string pk,ad d.k,ad d.o,.string d.x] 75)).cell? ⟨wr.heap.size,0,none⟩=some (ad d.k)/\(W0.drew.alloc (.cells #[ad (k:Int),.string pk,ad d.k,ad d.o,.string d.x] 75)).cell? ⟨wr.heap.size,1,none⟩=some (ad d.o)/\(W0.drew.alloc (.cells #[ad (k:Int),.string pk,ad d.k,ad d.o,.string d.x] 75)).cell? ⟨wr.heap.size,4,none⟩=some (.string d.x):=by
   have h1:B<W0.drew.heap.size:=by have:=uD.out.2.1;show B<W0.heap.size;omega
   have h2:wr.heap.size<W0.drew.heap.size:=by show wr.heap.size<W0.heap.size;omega
   exact ⟨(hnew.cell (p:=⟨B,56+k,none⟩) h1).trans hS0.1,(hnew.cell (p:=⟨wr.heap.size,0,none⟩) h2).trans hS0.2.1,(hnew.cell (p:=⟨wr.heap.size,1,none⟩) h2).trans hS0.2.2.1,(hnew.cell (p:=⟨wr.heap.size,4,none⟩) h2).trans hS0.2.2.2⟩
  clear hW0 hnew nl nb c2 c3 c5 mQ AJ hbuf hbel hx x1;go_region_held3 (fun W=>af W B (56+k) (.string pk)/\af W wr.heap.size 0 (ad d.k)/\af W wr.heap.size 1 (ad d.o)/\af W wr.heap.size 4 (.string d.x)) (assumption) ((refine adB rfl (.tmp 19) (.tmp 36) rfl yt ⟨(k:Int),pk,d.k,d.o,d.x⟩ (by rfl) (H:=wr.heap.size+1) hs0 (by rfl) (by omega) K6.size ?_;intro g3 c3' w3 AN b3 uI _;have Up:af w3 B (56+k) (.string pk)/\af w3 wr.heap.size 0 (ad d.k)/\af w3 wr.heap.size 1 (ad d.o)/\af w3 wr.heap.size 4 (.string d.x):=⟨uI.cell hS0.1 (by have:=uD.out.2.2;simp;omega),uI.cell hS0.2.1 (by have:=uD.out.1;simp;omega),uI.cell hS0.2.2.1 (by have:=uD.out.1;simp;omega),uI.cell hS0.2.2.2 (by have:=uD.out.1;simp;omega)⟩))
  go_wp2;go_roundw;case rel=>exact ⟨k+1,n+1,c3',g3,by omega,by go_num,rfl,by rw[HS.out];exact AN,K6.trans b3⟩
  case measure=>simp[intOf];omega
 obtain rfl:k=8:=by omega
 have hn:n=(fz mem P 8).length:=hbuf.1;subst hn;have HB:Hid (mn w.heap.size wr g (fz mem P 8).length c (fz mem P 8)):=hbuf;clear hbuf HX HC;go_wp2;go_ret;exact ⟨g,c,rfl,(HB.out.2.lt g rfl).1,HB.out.iT,hbel⟩
end
def gB (mem:ByteArray):List Int:=(di mem).map fun f=>f.ino
theorem R9 (mem:ByteArray):(gB mem).length=(di mem).length:=DS _
theorem Sa (mem:ByteArray):(di mem).length<=8:=by
 unfold di;split;·exact FV _ _ _
 exact aS _
theorem adC (mem:ByteArray) {j:Nat} (h:j<(di mem).length):(gB mem).take (j+1)=(gB mem).take j ++ [((di mem).getD j lE).ino]:=by
 unfold gB;have h':j<((di mem).map fun f=>f.ino).length:=by rw[DS];exact h
 rw[kr h',List.getElem_map,jR,gD h];rfl
def JR (k:aL) (w:World) (e:Ending) (w':World):Prop:=
 ∃ x a1 n1 c1 a2 n2 c2,e=.returned (.tuple #[.agg #[.string x,.slice a1 n1 c1,.slice a2 n2 c2],.bool (cv (bM k))])/\aj w w'/\
  (cv (bM k)=true->x=bM k/\n1=(cY (bM k)).length/\n2=(gB (bM k)).length/\aI w' a1 (cY (bM k))/\aI w' a2 (gB (bM k)))
theorem adD {base n cap B:Nat} {a:Option Addr} {w:World} {zs:List Int} (h:bo base w a n cap zs) (hB:B<base) (j:Nat) (v:Value):bo base (w.setCell ⟨B,j,none⟩ v) a n cap zs:=⟨h.1,H7 h.2 (a:=⟨B,j,none⟩) hB v⟩
theorem adE (k:aL) (a:Option Addr) (c:Nat) (ss:Nat->aA) (w:World) (hms:k.mem.size<=281474976710656) (hn:k.ds.length<=1048576) (hF:jJ k.ds ss) (hR:aZ w a k.ds ss):Calls prog 37 #[aU k a c] w (JR k w):=by
 have x0:=tU w k a c;have hts:(bM k).size<=281474976710656:=by unfold bM;rw[ml];exact hms
 have n1:=aB (w.alloc (.cells #[.string k.mem,.string k.ay,.slice a k.ds.length c,ad k.ck] 28)) (.cells #[.string ⟨#[]⟩,.slice none 0 0,.slice none 0 0] 63);have e0:(w.alloc (.cells #[.string k.mem,.string k.ay,.slice a k.ds.length c,ad k.ck] 28)).heap.size=w.heap.size+1:=by simp
 have v1:=bu [.string ⟨#[]⟩,.slice none 0 0,.slice none 0 0] (w.alloc (.cells #[.string k.mem,.string k.ay,.slice a k.ds.length c,ad k.ck] 28)) 63;have x1:=x0.below n1;rw[e0] at v1;have L1:=hR.below x1.ah;have c0:=x1.arg.c0;have c1:=x1.arg.c1;have c2:=x1.arg.c2;have c3:=x1.arg.c3;have HT:Hid (∀ W,aZ W a k.ds ss->_):=fun W h=>Rf k a c ss W hms hn hF h;have ko:=x1.ah;obtain ⟨m,em⟩:∃ m,bM k=m:=⟨_,rfl⟩;unfold JR;rw[em] at HT hts ⊢;have hr:Hid (∀ W,_):=fun W=>RG m W hts;have hA:Hid (∀ w e w',zR m w e w'->∃ p,e=.returned (.tuple #[.pointer p,.bool (cv m)])/\aj w w'/\(cv m=true->∃ B N F P,p=some ⟨B,0,none⟩/\w.heap.size<=B/\nJ m B N F P w')):=fun w e w' h=>h;clear hR x0 n1 e0 x1 hF em hms hn hts;cases hs:cv m with
 | false=>
  rw[hs] at hA;clear hs;go_enter func37,ntmps37;go_wp2_with (first
   | (go_at_call 12;refine (HT.out _ L1).mono ?_;rintro e w2 ⟨rfl,b2⟩;have v2:=v1.below b2;have je:=ko.trans (b2.mono ko.size))
   | (go_at_call 44;refine (hr.out _).mono ?_;intro e w3 hans;obtain ⟨p,rfl,b3,-⟩:=hA.out _ _ _ hans;clear hans;have v3:=v2.below b3;have rN:=je.trans (b3.mono je.size);have d0:=v3.c0;have d1:=v3.c1;have d2:=v3.c2;have f0:=v3.f0;have f1:=v3.f1;have f2:=v3.f2))
  have q:=((v3.set 0 (.string ⟨#[]⟩)).set 1 (.slice none 0 0)).set 2 (.slice none 0 0);have MF:=((rN.setCell (p:=⟨w.heap.size+1,0,none⟩) (sh _ 1) (.string ⟨#[]⟩)).setCell (p:=⟨w.heap.size+1,1,none⟩) (sh _ 1) (.slice none 0 0)).setCell (p:=⟨w.heap.size+1,2,none⟩) (sh _ 1) (.slice none 0 0);simp only[jS,lX] at q;exact bL (v:=.tuple #[.agg #[.string ⟨#[]⟩,.slice none 0 0,.slice none 0 0],.bool false]) (by simp[results,results37,go_sem,q.c0,q.c1,q.c2]) rfl ⟨⟨#[]⟩,none,0,0,none,0,0,rfl,MF,fun h=>by cases h⟩
 | true=>
  rw[hs] at hA;obtain ⟨_,_,mR,ht⟩:=xF hs;have hu:cY m=dF (dh (dL m) 8):=by unfold cY;rw[aF hs]
  have hu2:di m=fz m (mo m) 8:=by unfold di;rw[aF hs]
  have hp:Hid (∀ B N F P W,nJ m B N F P W->Calls prog 88 #[aD B 0] W fun e w'=>∃ g c,e=.returned (bg g (cY m).length c)/\W.heap.size<=g/\av g (bU (cY m)) w'/\aj W w'):=fun B N F P W h=>
   (QO W h.tb h.ps).mono fun e w' ⟨g,c,he,hc,hg,hk,hb⟩=>⟨g,c,by rw[hu,xE];exact he,hg,by rw[hu,<- adr];exact hk,hb⟩
  have hf:Hid (∀ B N F P W,nJ m B N F P W->Calls prog 45 #[aD B 0] W fun e w'=>∃ g c,e=.returned (bg g (di m).length c)/\W.heap.size<=g/\av g (fy (di m)) w'/\aj W w'):=fun B N F P W h=>by rw[hu2,<- JQ 8 fun x hx hk=>(R7 h.inv mR ht hx hk).1];exact R8 W h
  have hfl:=Sa m;have htk:Hid (∀ j,j<(di m).length->(gB m).take (j+1)=(gB m).take j ++ [((di m).getD j lE).ino]):=fun j h=>adC m h;have hfin:=R9 m;clear hs hu hu2 mR ht;go_enter func37,ntmps37;go_wp2_with (first
   | (go_at_call 12;refine (HT.out _ L1).mono ?_;rintro e w2 ⟨rfl,b2⟩;have v2:=v1.below b2;have je:=ko.trans (b2.mono ko.size))
   | (go_at_call 44;refine (hr.out _).mono ?_;intro e w3 hans;obtain ⟨p,rfl,b3,hy⟩:=hA.out _ _ _ hans;clear hans;obtain ⟨B,N,F,P,rfl,hB,hg⟩:=hy (by trivial);clear hy;have v3:=v2.below b3;have rN:=je.trans (b3.mono je.size))
   | (go_at_call 88;refine (hp.out _ _ _ _ _ hg).mono ?_;rintro e w4 ⟨g4,c4,rfl,hg4,k4,b4⟩;have v4:=v3.below b4;have hg':=hg.below b4;have tf:=rN.trans (b4.mono rN.size);have nb:=aB w4 (.cells #[.string m,bg g4 (cY m).length c4,.slice none 0 0] 63);have hv:=bu [.string m,bg g4 (cY m).length c4,.slice none 0 0] w4 63;have hg5:=hg'.below nb;have v5:=v4.below nb;have k5:=k4.below nb;have bel5:=tf.trans (nb.mono tf.size))
   | (go_at_call 45;refine (hf.out _ _ _ _ _ hg5).mono ?_;rintro e w6 ⟨g6,c6,rfl,Vr,k6,b6⟩;have v6:=v5.below b6;have VZ:=k5.below b6;have hv6:=hv.below b6;have bel6:=bel5.trans (b6.mono bel5.size)))
  have s4:=k4.lt;have s5:(w4.alloc (.cells #[.string m,bg g4 (cY m).length c4,.slice none 0 0] 63)).heap.size=w4.heap.size+1:=by simp
  rw[s5] at Vr;have s6:=k6.lt;have s7:=hv6.lt;have s8:w.heap.size+1<w4.heap.size:=v4.lt;have s9:w.heap.size+1<w3.heap.size:=v3.lt;have HH:Hid (g4<w4.heap.size/\w4.heap.size<g6/\g6<w6.heap.size/\w.heap.size+1<w4.heap.size/\w.heap.size+1<g4):=⟨s4,by omega,s6,s8,by omega⟩;have bf:bo w6.heap.size w6 none 0 0 []:=Es _;clear v1 v2 v3 v4 v5 hg hg' hg5 nb hv k4 k5 ko je rN tf bel5 b2 b3 b4 b6 hA hp hf hr HT L1 c0 c1 c2 c3 s4 s5 s6 s7 s8 s9 hg4 Vr hB;obtain ⟨n,en⟩:∃ n,(di m).length=n:=⟨_,rfl⟩;rw[en] at htk hfl hfin ⊢;go_loopw [27] (fun i W=>∃ (j:Nat) (a':Option Addr) (c':Nat),j<=n/\i=ad j/\av w4.heap.size [.string m,bg g4 (cY m).length c4,.slice a' j c'] W/\bo w6.heap.size W a' j c' ((gB m).take j)/\av g6 (fy (di m)) W/\av (w.heap.size+1) [.string ⟨#[]⟩,.slice none 0 0,.slice none 0 0] W/\av g4 (bU (cY m)) W/\w6.heap.size<=W.heap.size/\aj w W) (fun i _=>n-(intOf i).toNat);case atStart=>exact ⟨0,none,0,aS _,rfl,hv6,bf,k6,v6,VZ,aq _,bel6⟩
  case round=>
   obtain ⟨j,a7,c7,hj,rfl,hv7,DO,Lj,v7,Le,hs7,MB⟩:=hrel;clear hv6 bf k6 v6 VZ bel6;by_cases hlt:j<n
   ·obtain ⟨y0,y1,y2,y3,y4⟩:=RZ Lj (i:=j) (by omega);have HS:Hid ((gB m).take (j+1)=(gB m).take j ++ [((di m).getD j lE).ino]):=htk.out j hlt;obtain ⟨f,ef⟩:∃ f,(di m).getD j lE=f:=⟨_,rfl⟩;rw[ef] at y0 y1 y2 y3 y4 HS;have e1:(0:Int)<=(j:Int):=by omega
    have e2:(j:Int)<(n:Int):=by omega
    have nl:=aB wr (.cells #[ad f.ino,.string f.path,ad f.kind,ad f.owner,.string f.data] 75);have nbk:=bu [ad f.ino,.string f.path,ad f.kind,ad f.owner,.string f.data] wr 75;have z0:=nbk.c0;have UP:=hv7.below nl;have bf8:=DO.below nl;have k68:=Lj.below nl;have v8:=v7.below nl;have k48:=Le.below nl;have Wj:=bt hs7 nl.size;have bel8:=MB.trans (nl.mono MB.size);have d2:=UP.c2;clear hv7 DO Lj v7 Le ef htk;go_wp2_with (at_builtin;refine Ry rfl (.tmp 32) (.tmp 35) rfl bf8 f.ino (by rfl) (H:=wr.heap.size+1) (by simp) (by rfl) (by omega) Wj ?_;intro g9 c9 w9 bf9 b9;have La:=fQ UP b9 (by have:=HH.out;omega);have k69:=fQ k68 b9 HH.out.2.2.1;have v9:=fQ v8 b9 (by have:=HH.out;omega);have k49:=fQ k48 b9 (by have:=HH.out;omega);have aiE:=bel8.trans (b9.mono (by have:=HH.out;omega));have g2:=La.c2;have h2:=La.f2);have hne1:w4.heap.size≠g6:=by have:=HH.out;omega
    have hne2:w4.heap.size≠w.heap.size+1:=by have:=HH.out;omega
    have agT:w4.heap.size≠g4:=by have:=HH.out;omega
    have hle:w.heap.size<=w4.heap.size:=by have:=HH.out;omega
    have q:=La.set 2 (bg g9 (j+1) c9);simp only[jS,lX] at q;have bfq:=adD bf9 (B:=w4.heap.size) (by have:=HH.out;omega) 2 (bg g9 (j+1) c9);have k6q:=k69.aR hne1 2 (bg g9 (j+1) c9);have vq:=v9.aR hne2 2 (bg g9 (j+1) c9);have Lk:=k49.aR agT 2 (bg g9 (j+1) c9);have hsq:w6.heap.size<=(w9.setCell ⟨w4.heap.size,2,none⟩ (bg g9 (j+1) c9)).heap.size:=bt (bt (bt Wj b9.size) (aq _)) (by simp);have agl:=aiE.setCell (p:=⟨w4.heap.size,2,none⟩) hle (bg g9 (j+1) c9);go_roundw;case rel=>exact ⟨j+1,some ⟨g9,0,none⟩,c9,by omega,by go_num,q,by rw[HS.out];exact bfq,k6q,vq,Lk,hsq,agl⟩
    case measure=>simp[intOf];omega
   obtain rfl:j=n:=by omega
   have htl:(gB m).take j=gB m:=qx (by omega);rw[htl] at DO;have d0:=hv7.c0;have d1:=hv7.c1;have d2:=hv7.c2;have f0:=v7.c0;have f1:=v7.c1;have f2:=v7.c2;have g0:=v7.f0;have g1:=v7.f1;have g2:=v7.f2;have HB7:Hid (bo w6.heap.size wr a7 j c7 (gB m)):=DO;clear DO htk htl;go_wp2;have hle:w.heap.size<=w.heap.size+1:=sh _ 1;have q:=((v7.set 0 (.string m)).set 1 (bg g4 (cY m).length c4)).set 2 (.slice a7 j c7);simp only[jS,lX] at q;have hne:w.heap.size+1≠g4:=by have:=HH.out;omega
   have MF:=((MB.setCell (p:=⟨w.heap.size+1,0,none⟩) hle (.string m)).setCell (p:=⟨w.heap.size+1,1,none⟩) hle (bg g4 (cY m).length c4)).setCell (p:=⟨w.heap.size+1,2,none⟩) hle (.slice a7 j c7);have Lk:=((Le.aR hne 0 (.string m)).aR hne 1 (bg g4 (cY m).length c4)).aR hne 2 (.slice a7 j c7);have ow:=((HB7.out.own.set (B:=w.heap.size+1) (by have:=HH.out;omega) 0 (.string m)).set (B:=w.heap.size+1) (by have:=HH.out;omega) 1 (bg g4 (cY m).length c4)).set (B:=w.heap.size+1) (by have:=HH.out;omega) 2 (.slice a7 j c7);exact bL (v:=.tuple #[.agg #[.string m,bg g4 (cY m).length c4,.slice a7 j c7],.bool true]) (by simp[results,results37,go_sem,q.c0,q.c1,q.c2]) rfl ⟨m,some ⟨g4,0,none⟩,_,c4,a7,j,c7,rfl,MF,fun _=>⟨rfl,rfl,hfin.symm,wR Lk,ow.row⟩⟩
section
def tW (m:ByteArray) (us fs:List Int) (d:ak):Bool:=bT d && (decide (ar m d.ino=d.rc) && (decide (dj m d.pg d.pg.length=d.aH) && (jn fs d.fr && jn us d.po)))
structure xG (w:World) (m:ByteArray) (a1 a2:Option Addr) (c1 c2:Nat) (us fs:List Int) (d:ak) (s:aA) (V L:Nat) (W:World):Prop where
 vb:av V [.string m,.slice a1 us.length c1,.slice a2 fs.length c2] W
 lb:fL L d s W
 ah:aj w W
variable {w W W' : World} {m : ByteArray} {a1 a2 : Option Addr} {c1 c2 : Nat} {us fs : List Int} {d : ak} {s : aA} {V L : Nat}
theorem xG.below (h:xG w m a1 a2 c1 c2 us fs d s V L W) (hb:aj W W'):xG w m a1 a2 c1 c2 us fs d s V L W':=⟨h.vb.below hb,h.lb.below hb,h.ah.trans (hb.mono h.ah.size)⟩
theorem xG.cells (h:xG w m a1 a2 c1 c2 us fs d s V L W):af W V 0 (.string m)/\af W V 1 (.slice a1 us.length c1)/\af W V 2 (.slice a2 fs.length c2)/\af W L 0 (ad d.ino)/\af W L 1 (ad d.cl)/\af W L 2 (ad d.un)/\af W L 3 (.string d.rc)/\af W L 4 (.slice s.a1 d.pg.length s.c1)/\af W L 5 (.string d.aH)/\af W L 6 (.slice s.a2 d.po.length s.c2)/\af W L 7 (.slice s.a3 d.fr.length s.c3):=⟨h.vb.c0,h.vb.c1,h.vb.c2,h.lb.c0,h.lb.c1,h.lb.c2,h.lb.c3,h.lb.c4,h.lb.c5,h.lb.c6,h.lb.c7⟩
theorem adF (w:World) (m:ByteArray) (a1 a2:Option Addr) (c1 c2:Nat) (us fs:List Int) (d:ak) (s:aA):xG w m a1 a2 c1 c2 us fs d s w.heap.size (w.heap.size+1) ((w.alloc (.cells #[.string m,.slice a1 us.length c1,.slice a2 fs.length c2] 63)).alloc (.cells (dZ d s) 49)):=by
 have e:(w.alloc (.cells #[.string m,.slice a1 us.length c1,.slice a2 fs.length c2] 63)).heap.size=w.heap.size+1:=by simp
 have n1:=aB w (.cells #[.string m,.slice a1 us.length c1,.slice a2 fs.length c2] 63);have n2:=aB (w.alloc (.cells #[.string m,.slice a1 us.length c1,.slice a2 fs.length c2] 63)) (.cells (dZ d s) 49);have l:=lf d s (w.alloc (.cells #[.string m,.slice a1 us.length c1,.slice a2 fs.length c2] 63)) 49;rw[e] at l;exact ⟨(bu [.string m,.slice a1 us.length c1,.slice a2 fs.length c2] w 63).below n2,l,n1.trans (n2.mono n1.size)⟩
theorem Cu {x y:ByteArray} (h:¬ x=y):¬ x.toList=y.toList:=by intro h';rw[wG,wG] at h';exact h (gm (jB.1 h'))
theorem JS {x y:ByteArray} (h:x=y):x.toList=y.toList:=by rw[h]
theorem Sc {xs ys:List Int} (h:dW (xs++ys)=true):dW xs=true:=by rw[mJ] at h ⊢;exact ⟨fun z hz=>h.1 z (gP.2 (Or.inl hz)),(WQ.1 h.2).1⟩
theorem adG (m:ByteArray) (a1 a2:Option Addr) (c1 c2:Nat) (us fs:List Int) (d:ak) (s:aA) (w:World) (hm:m.size=768) (hF:jX d s) (hpo:d.po.length<=1048576) (hfr:d.fr.length<=1048576) (jz:us.length<=1048576) (hfs:fs.length<=1048576) (hR:dq w d s) (r1:aI w a1 us) (r2:aI w a2 fs):Calls prog 38 #[.agg #[.string m,.slice a1 us.length c1,.slice a2 fs.length c2],bH d s] w (aT (.bool (tW m us fs d)) w):=by
 have h0:=adF w m a1 a2 c1 c2 us fs d s;have iV:Hid (∀ W,aj w W->Calls prog 89 #[bH d s] W (aT (.bool (bT d)) W)):=fun W hb=>Jo d s W hF hpo hfr (hR.below hb);have MP:Hid (∀ W,Calls prog 90 #[.string m,ad (bA d.ino),ad 16] W (aT (.string (ar m d.ino)) W)):=fun W=>sn m (bA d.ino) 16 W (by omega);have Dx:Hid (bT d=true->∀ W,aj w W->Calls prog 92 #[.string m,.slice s.a1 d.pg.length s.c1] W (aT (.string (dj m d.pg d.pg.length)) W)):=fun hok W hb=>by obtain ⟨hI,-,hZ,-,-,-,te,-⟩:=iO hok;exact Qk m s.a1 s.c1 d.pg W hm (Sc (iO hok).2.2.2.2.2.2.2.2.2.1) te (hR.below hb).r1
 have LS:Hid (∀ W,aj w W->Calls prog 93 #[.slice s.a3 d.fr.length s.c3,.slice a2 fs.length c2] W (dp (.bool (jn fs d.fr)) W)):=fun W hb=>RJ s.a3 a2 s.c3 c2 d.fr fs W (by omega) (by omega) (hR.below hb).r3 (r2.below hb);have GD:Hid (∀ W,aj w W->Calls prog 93 #[.slice s.a2 d.po.length s.c2,.slice a1 us.length c1] W (dp (.bool (jn us d.po)) W)):=fun W hb=>RJ s.a2 a1 s.c2 c1 d.po us W (by omega) (by omega) (hR.below hb).r2 (r1.below hb);obtain ⟨W2,hW2⟩:∃ W2,(w.alloc (.cells #[.string m,.slice a1 us.length c1,.slice a2 fs.length c2] 63)).alloc (.cells (dZ d s) 49)=W2:=⟨_,rfl⟩;obtain ⟨V,hV⟩:∃ V,w.heap.size=V:=⟨_,rfl⟩;obtain ⟨L,hL⟩:∃ L,w.heap.size+1=L:=⟨_,rfl⟩;have h1:xG w m a1 a2 c1 c2 us fs d s V L W2.drew:=by rw[<- hV,<- hL,<- hW2];exact h0.below ((aK _ _).drew)
 have hsz:(w.alloc (.cells #[.string m,.slice a1 us.length c1,.slice a2 fs.length c2] 63)).heap.size=L:=by rw[<- hL];simp
 clear hR r1 r2 hF h0;unfold tW;cases hok:bT d with
 | false=>
  rw[hok] at iV;clear hok Dx;go_enter func38,ntmps38;go_wp2;have s1:=h1.cells;clear hsz hW2;refine et (S:=fun W=>af W V 0 (.string m)/\af W V 1 (.slice a1 us.length c1)/\af W V 2 (.slice a2 fs.length c2)/\af W L 0 (ad d.ino)/\af W L 1 (ad d.cl)/\af W L 2 (ad d.un)/\af W L 3 (.string d.rc)/\af W L 4 (.slice s.a1 d.pg.length s.c1)/\af W L 5 (.string d.aH)/\af W L 6 (.slice s.a2 d.po.length s.c2)/\af W L 7 (.slice s.a3 d.fr.length s.c3)) (by kernel_rfl) ?_;refine aC 0 (bH d s) s1 ?_;refine fY (i:=1) (by kernel_rfl) rfl (by rfl) (.tmp 5) _ rfl (bH d s) (by rfl) (bh func89 (by kernel_rfl) rfl) ((iV.out _ h1.ah).mono ?_);rintro e w3 ⟨rfl,b3⟩;have h3:=h1.below b3;have s3:=h3.cells;refine ⟨_,rfl,s3,?_⟩;simp only[ao,Act.put,Nat.reduceAdd];refine aE 2 (.bool true) s3 ?_;refine aE 3 (.bool true) s3 ?_;refine aM 4 s3 ?_;refine aM 5 s3 ?_;refine aM 6 s3 ?_;refine aM 7 s3 ?_;refine aM 8 s3 ?_;refine aM 9 s3 ?_;refine aM 10 s3 ?_;refine aM 11 s3 ?_;refine aM 12 s3 ?_;refine aE 13 (.bool true) s3 ?_;refine aE 14 (.bool true) s3 ?_;refine aM 15 s3 ?_;refine aM 16 s3 ?_;refine aM 17 s3 ?_;refine aM 18 s3 ?_;refine aM 19 s3 ?_;refine aM 20 s3 ?_;refine aM 21 s3 ?_;refine aM 22 s3 ?_;refine aE 23 (.bool true) s3 ?_;refine dV (by kernel_rfl) ?_ _;go_wp2;go_ret;exact ⟨rfl,h3.ah⟩
 | true=>
  replace Dx:Hid (∀ W,aj w W->Calls prog 92 #[.string m,.slice s.a1 d.pg.length s.c1] W (aT (.string (dj m d.pg d.pg.length)) W)):=Dx.out hok;rw[hok] at iV;clear hok;by_cases hrc:ar m d.ino=d.rc;rotate_left
  ·have e1:=Cu hrc;rw[bq hrc];clear hrc;go_enter func38,ntmps38;go_wp2;have s1:=h1.cells;clear hsz hW2;refine et (S:=fun W=>af W V 0 (.string m)/\af W V 1 (.slice a1 us.length c1)/\af W V 2 (.slice a2 fs.length c2)/\af W L 0 (ad d.ino)/\af W L 1 (ad d.cl)/\af W L 2 (ad d.un)/\af W L 3 (.string d.rc)/\af W L 4 (.slice s.a1 d.pg.length s.c1)/\af W L 5 (.string d.aH)/\af W L 6 (.slice s.a2 d.po.length s.c2)/\af W L 7 (.slice s.a3 d.fr.length s.c3)) (by kernel_rfl) ?_;refine aC 0 (bH d s) s1 ?_;refine fY (i:=1) (by kernel_rfl) rfl (by rfl) (.tmp 5) _ rfl (bH d s) (by rfl) (bh func89 (by kernel_rfl) rfl) ((iV.out _ h1.ah).mono ?_);rintro e w3 ⟨rfl,b3⟩;have h3:=h1.below b3;have s3:=h3.cells;refine ⟨_,rfl,s3,?_⟩;simp only[ao,Act.put,Nat.reduceAdd];refine aE 2 (.bool false) s3 ?_;refine aE 3 (.bool false) s3 ?_;refine aC 4 (aD V 0) s3 ?_;refine aC 5 (.string m) s3 ?_;refine aC 6 (aD L 0) s3 ?_;refine aC 7 (ad d.ino) s3 ?_;refine aC 10 (aD L 3) s3 ?_;refine aC 11 (.string d.rc) s3 ?_;refine fY (i:=8) (by kernel_rfl) rfl (by rfl) (.tmp 12) _ rfl (ad d.ino) (by rfl) (bh func91 (by kernel_rfl) rfl) ((su d.ino _).mono ?_);rintro e w4 ⟨rfl,rfl⟩;refine ⟨_,rfl,s3,?_⟩;simp only[ao,Act.put,Nat.reduceAdd];refine uP (i:=9) (by kernel_rfl) rfl (by rfl) (.tmp 10) (.tmp 13) (.const (ad 16)) _ rfl (.string m) (ad (bA d.ino)) (ad 16) (by rfl) (by rfl) (by rfl) (bh func90 (by kernel_rfl) rfl) ((MP.out _).mono ?_);rintro e w5 ⟨rfl,b5⟩;have h5:=h3.below b5;have s5:=h5.cells;refine ⟨_,rfl,s5,?_⟩;simp only[ao,Act.put,Nat.reduceAdd];refine aC 12 (.bool true) s5 ?_;refine aE 13 (.bool true) s5 ?_;refine aE 14 (.bool true) s5 ?_;refine aM 15 s5 ?_;refine aM 16 s5 ?_;refine aM 17 s5 ?_;refine aM 18 s5 ?_;refine aM 19 s5 ?_;refine aM 20 s5 ?_;refine aM 21 s5 ?_;refine aM 22 s5 ?_;refine aE 23 (.bool true) s5 ?_;refine dV (by kernel_rfl) ?_ _;go_wp2;go_ret;exact ⟨rfl,h5.ah⟩
  ·have e1:=JS hrc;rw[bF hrc];clear hrc;by_cases hsv:dj m d.pg d.pg.length=d.aH;rotate_left
   ·have e2:=Cu hsv;rw[bq hsv];clear hsv;go_enter func38,ntmps38;go_wp2;have s1:=h1.cells;clear hsz hW2;refine et (S:=fun W=>af W V 0 (.string m)/\af W V 1 (.slice a1 us.length c1)/\af W V 2 (.slice a2 fs.length c2)/\af W L 0 (ad d.ino)/\af W L 1 (ad d.cl)/\af W L 2 (ad d.un)/\af W L 3 (.string d.rc)/\af W L 4 (.slice s.a1 d.pg.length s.c1)/\af W L 5 (.string d.aH)/\af W L 6 (.slice s.a2 d.po.length s.c2)/\af W L 7 (.slice s.a3 d.fr.length s.c3)) (by kernel_rfl) ?_;refine aC 0 (bH d s) s1 ?_;refine fY (i:=1) (by kernel_rfl) rfl (by rfl) (.tmp 5) _ rfl (bH d s) (by rfl) (bh func89 (by kernel_rfl) rfl) ((iV.out _ h1.ah).mono ?_);rintro e w3 ⟨rfl,b3⟩;have h3:=h1.below b3;have s3:=h3.cells;refine ⟨_,rfl,s3,?_⟩;simp only[ao,Act.put,Nat.reduceAdd];refine aE 2 (.bool false) s3 ?_;refine aE 3 (.bool false) s3 ?_;refine aC 4 (aD V 0) s3 ?_;refine aC 5 (.string m) s3 ?_;refine aC 6 (aD L 0) s3 ?_;refine aC 7 (ad d.ino) s3 ?_;refine aC 10 (aD L 3) s3 ?_;refine aC 11 (.string d.rc) s3 ?_;refine fY (i:=8) (by kernel_rfl) rfl (by rfl) (.tmp 12) _ rfl (ad d.ino) (by rfl) (bh func91 (by kernel_rfl) rfl) ((su d.ino _).mono ?_);rintro e w4 ⟨rfl,rfl⟩;refine ⟨_,rfl,s3,?_⟩;simp only[ao,Act.put,Nat.reduceAdd];refine uP (i:=9) (by kernel_rfl) rfl (by rfl) (.tmp 10) (.tmp 13) (.const (ad 16)) _ rfl (.string m) (ad (bA d.ino)) (ad 16) (by rfl) (by rfl) (by rfl) (bh func90 (by kernel_rfl) rfl) ((MP.out _).mono ?_);rintro e w5 ⟨rfl,b5⟩;have h5:=h3.below b5;have s5:=h5.cells;refine ⟨_,rfl,s5,?_⟩;simp only[ao,Act.put,Nat.reduceAdd];refine aC 12 (.bool false) s5 ?_;refine aE 13 (.bool false) s5 ?_;refine aE 14 (.bool false) s5 ?_;refine aC 15 (aD V 0) s5 ?_;refine aC 16 (.string m) s5 ?_;refine aC 17 (aD L 4) s5 ?_;refine aC 18 (.slice s.a1 d.pg.length s.c1) s5 ?_;refine aC 20 (aD L 5) s5 ?_;refine aC 21 (.string d.aH) s5 ?_;refine jm (i:=19) (by kernel_rfl) rfl (by rfl) (.tmp 21) (.tmp 23) _ rfl (.string m) (.slice s.a1 d.pg.length s.c1) (by rfl) (by rfl) (bh func92 (by kernel_rfl) rfl) ((Dx.out _ h5.ah).mono ?_);rintro e w6 ⟨rfl,b6⟩;have h6:=h5.below b6;have s6:=h6.cells;refine ⟨_,rfl,s6,?_⟩;simp only[ao,Act.put,Nat.reduceAdd];refine aC 22 (.bool true) s6 ?_;refine aE 23 (.bool true) s6 ?_
    refine dV (by kernel_rfl) ?_ _;go_wp2;go_ret;exact ⟨rfl,h6.ah⟩
   have e2:=JS hsv;rw[bF hsv];clear hsv;cases hap:jn fs d.fr;all_goals
    rw[hap] at LS;go_enter func38,ntmps38;go_wp2;have s1:=h1.cells;clear hsz hW2;refine et (S:=fun W=>af W V 0 (.string m)/\af W V 1 (.slice a1 us.length c1)/\af W V 2 (.slice a2 fs.length c2)/\af W L 0 (ad d.ino)/\af W L 1 (ad d.cl)/\af W L 2 (ad d.un)/\af W L 3 (.string d.rc)/\af W L 4 (.slice s.a1 d.pg.length s.c1)/\af W L 5 (.string d.aH)/\af W L 6 (.slice s.a2 d.po.length s.c2)/\af W L 7 (.slice s.a3 d.fr.length s.c3)) (by kernel_rfl) ?_;refine aC 0 (bH d s) s1 ?_;refine fY (i:=1) (by kernel_rfl) rfl (by rfl) (.tmp 5) _ rfl (bH d s) (by rfl) (bh func89 (by kernel_rfl) rfl) ((iV.out _ h1.ah).mono ?_);rintro e w3 ⟨rfl,b3⟩;have h3:=h1.below b3;have s3:=h3.cells;refine ⟨_,rfl,s3,?_⟩;simp only[ao,Act.put,Nat.reduceAdd];refine aE 2 (.bool false) s3 ?_;refine aE 3 (.bool false) s3 ?_;refine aC 4 (aD V 0) s3 ?_;refine aC 5 (.string m) s3 ?_;refine aC 6 (aD L 0) s3 ?_;refine aC 7 (ad d.ino) s3 ?_;refine aC 10 (aD L 3) s3 ?_;refine aC 11 (.string d.rc) s3 ?_;refine fY (i:=8) (by kernel_rfl) rfl (by rfl) (.tmp 12) _ rfl (ad d.ino) (by rfl) (bh func91 (by kernel_rfl) rfl) ((su d.ino _).mono ?_);rintro e w4 ⟨rfl,rfl⟩;refine ⟨_,rfl,s3,?_⟩;simp only[ao,Act.put,Nat.reduceAdd];refine uP (i:=9) (by kernel_rfl) rfl (by rfl) (.tmp 10) (.tmp 13) (.const (ad 16)) _ rfl (.string m) (ad (bA d.ino)) (ad 16) (by rfl) (by rfl) (by rfl) (bh func90 (by kernel_rfl) rfl) ((MP.out _).mono ?_);rintro e w5 ⟨rfl,b5⟩;have h5:=h3.below b5;have s5:=h5.cells;refine ⟨_,rfl,s5,?_⟩;simp only[ao,Act.put,Nat.reduceAdd];refine aC 12 (.bool false) s5 ?_;refine aE 13 (.bool false) s5 ?_;refine aE 14 (.bool false) s5 ?_;refine aC 15 (aD V 0) s5 ?_;refine aC 16 (.string m) s5 ?_;refine aC 17 (aD L 4) s5 ?_;refine aC 18 (.slice s.a1 d.pg.length s.c1) s5 ?_;refine aC 20 (aD L 5) s5 ?_;refine aC 21 (.string d.aH) s5 ?_;refine jm (i:=19) (by kernel_rfl) rfl (by rfl) (.tmp 21) (.tmp 23) _ rfl (.string m) (.slice s.a1 d.pg.length s.c1) (by rfl) (by rfl) (bh func92 (by kernel_rfl) rfl) ((Dx.out _ h5.ah).mono ?_);rintro e w6 ⟨rfl,b6⟩;have h6:=h5.below b6;have s6:=h6.cells;refine ⟨_,rfl,s6,?_⟩;simp only[ao,Act.put,Nat.reduceAdd];refine aC 22 (.bool false) s6 ?_;refine aE 23 (.bool false) s6 ?_;refine dV (by kernel_rfl) ?_ _;have y7:=h6.lb.c7
    have y6:=h6.lb.c6;have x1:=h6.vb.c1;have x2:=h6.vb.c2;go_wp2_with (first
     | (go_at_call 93;refine (LS.out _ h6.ah).mono ?_;rintro e w' ⟨rfl,rfl⟩;clear LS)
     | (go_at_call 93;refine (GD.out _ h6.ah).mono ?_;rintro e w' ⟨rfl,rfl⟩))
    go_ret;exact ⟨rfl,h6.ah⟩
end
end Go.Proofs.YtidmmopnkjbjoaaGreatDoor
