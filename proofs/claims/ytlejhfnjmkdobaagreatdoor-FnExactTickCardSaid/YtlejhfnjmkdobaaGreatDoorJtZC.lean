/- Joined texts. -/
import Derived.Test.YtlejhfnjmkdobaaGreatDoorJtY
set_option linter.unusedVariables false
set_option linter.unusedSimpArgs false
set_option maxRecDepth 10000
set_option maxHeartbeats 16000000
namespace Go.Proofs.YtlejhfnjmkdobaaGreatDoor
open ChangeShapes WideShapes ChangeAt RowKit
open Go.Proofs.Tryz
namespace MR
open N0 (Ln)
open N1 (Sl)
open Z0 (dat Kp kval kvals)
open Z2 (LAt)
open LF (Btw OwnIn mfrom mfrom_length)
open LH (HL)
open KD (AC)
def mk1 (m:Nat) (d:Ln):Ln:=⟨(m:Int),(m:Int)+1,(m:Int)+1+1,M1.mt (m+3),mfrom (m+4) d.pg.length,M1.mt (m+4+d.pg.length),mfrom (m+5+d.pg.length) d.po.length,mfrom (m+5+d.pg.length+d.po.length) d.fr.length⟩
def st (D:Nat->Ln):Nat->Nat
 | 0=>1
 | k+1=>st D k+5+(D k).pg.length+(D k).po.length+(D k).fr.length
def upto (D:Nat->Ln) (k:Nat):Nat->Ln:=fun j=>if j<k then mk1 (st D j) (D j) else D j
structure AF (g:Nat) (b:Nat->Nat) (n:Nat) (D:Nat->Ln) (ss:Nat->Sl) (L:List Value) (W:World):Prop where
 len:L.length=n*8
 blk:K0.Blk g L W
 at_:∀ j,j<n->LAt L (j*8) (D j) (ss j)
 sub:∀ j,j<n->∃ m1 m2,HL (b j) m1 m2 (b (j+1)) (ss j) (D j).pg (D j).po (D j).fr W
 gb:g<b 0
 hi:b n<=W.heap.size
variable {g n k : Nat} {b : Nat → Nat} {D : Nat → Ln} {ss : Nat → Sl} {L : List Value} {w W W' : World}
theorem af_of {ds:List Ln} (h:AC g b ds ss L W):AF g b ds.length (dat ds) ss L W:=⟨h.len,h.blk,h.at_,h.sub,h.gb,h.hi⟩
theorem AF.below (h:AF g b n D ss L W) (hb:Bq W W'):AF g b n D ss L W':=
 ⟨h.len,h.blk.below hb,h.at_,fun j hj=>by obtain ⟨m1,m2,q⟩:=h.sub j hj;exact ⟨m1,m2,q.below hb⟩,h.gb,Nat.le_trans h.hi hb.size⟩
theorem AF.step1 (h:AF g b n D ss L W) (j:Nat) (hj:j<n):b j<=b (j+1):=by
 obtain ⟨m1,m2,q⟩:=h.sub j hj;have:=q.le;omega
theorem AF.mono (h:AF g b n D ss L W) (i:Nat):∀ d,i+d<=n->b i<=b (i+d)
 | 0,_=>Nat.le_refl _
 | d+1,hd=>Nat.le_trans (h.mono i d (by omega)) (h.step1 (i+d) (by omega))
theorem AF.le (h:AF g b n D ss L W) {i j:Nat} (hij:i<=j) (hj:j<=n):b i<=b j:=by
 have:=h.mono i (j-i) (by omega)
 rwa [show i+(j-i)=j by omega] at this
structure Pr (g:Nat) (b:Nat->Nat) (n k:Nat) (D:Nat->Ln) (ss:Nat->Sl) (s:Sl) (n1 n2 n3:Nat) (L:List Value) (W:World):Prop where
 len:L.length=n*8
 blk:K0.Blk g L W
 oth:∀ j,j<n->j≠k->LAt L (j*8) (D j) (ss j)/\∃ m1 m2,HL (b j) m1 m2 (b (j+1)) (ss j) (D j).pg (D j).po (D j).fr W
 c4:L[k*8+4]? = some (.slice s.a1 n1 s.c1)
 c6:L[k*8+6]? = some (.slice s.a2 n2 s.c2)
 c7:L[k*8+7]? = some (.slice s.a3 n3 s.c3)
 gb:g<b 0
 lk:k<n
 inc:∀ i j,i<=j->j<=n->b i<=b j
variable {s : Sl} {n1 n2 n3 : Nat}
theorem pr_of (h:AF g b n D ss L W) (hk:k<n):Pr g b n k D ss (ss k) (D k).pg.length (D k).po.length (D k).fr.length L W:=by
 obtain ⟨_,_,_,_,a4,_,a6,a7⟩:=h.at_ k hk;exact ⟨h.len,h.blk,fun j hj _=>⟨h.at_ j hj,h.sub j hj⟩,a4,a6,a7,h.gb,hk,fun i j hi hj=>h.le hi hj⟩
theorem Pr.below (h:Pr g b n k D ss s n1 n2 n3 L W) (hb:Bq W W'):Pr g b n k D ss s n1 n2 n3 L W':=
 ⟨h.len,h.blk.below hb,fun j hj hne=>⟨(h.oth j hj hne).1,by obtain ⟨m1,m2,q⟩:=(h.oth j hj hne).2;exact ⟨m1,m2,q.below hb⟩⟩,h.c4,h.c6,h.c7,h.gb,h.lk,h.inc⟩
theorem Pr.btw {lo hi:Nat} (h:Pr g b n k D ss s n1 n2 n3 L W) (hb:Btw lo hi W W') (h1:b k<=lo) (h2:hi<=b (k+1)):Pr g b n k D ss s n1 n2 n3 L W':=by
 have hk:=h.lk;have h0:=h.inc 0 k (Nat.zero_le _) (by omega);have hg:=h.gb;refine ⟨h.len,LF.blk_btw h.blk hb (Or.inl (by omega)),fun j hj hne=>⟨(h.oth j hj hne).1,?_⟩,h.c4,h.c6,h.c7,h.gb,h.lk,h.inc⟩;obtain ⟨m1,m2,q⟩:=(h.oth j hj hne).2;refine ⟨m1,m2,q.btw hb ?_⟩
 rcases Nat.lt_or_gt_of_ne hne with hlt | hgt
 ·have:=h.inc (j+1) k (by omega) (by omega)
  omega
 ·have:=h.inc (k+1) j (by omega) (by omega)
  omega
theorem Pr.set (h:Pr g b n k D ss s n1 n2 n3 L W) {o r:Nat} (ho:o=k*8+r) (hr:r<4\/r=5) (v:Value):Pr g b n k D ss s n1 n2 n3 (L.set o v) (W.setCell ⟨g,o,none⟩ v):=by
 subst ho;have hk:=h.lk;have hg:=h.gb;refine ⟨by rw[List.length_set];exact h.len,h.blk.set _ v,fun j hj hne=>⟨?_,?_⟩,?_,?_,?_,h.gb,h.lk,h.inc⟩
 ·obtain ⟨a0,a1,a2,a3,a4,a5,a6,a7⟩:=(h.oth j hj hne).1
  refine ⟨?_,?_,?_,?_,?_,?_,?_,?_⟩ <;> (rw[List.getElem?_set_ne (by omega)];assumption)
 ·obtain ⟨m1,m2,q⟩:=(h.oth j hj hne).2
  have:=h.inc 0 j (Nat.zero_le _) (by omega);have hq:=q.le;exact ⟨m1,m2,q.p1.set (by omega) _ _,q.p2.set (by omega) _ _,q.p3.set (by omega) _ _,q.le⟩
 ·rw[List.getElem?_set_ne (by omega)]
  exact h.c4
 ·rw[List.getElem?_set_ne (by omega)]
  exact h.c6
 ·rw[List.getElem?_set_ne (by omega)]
  exact h.c7
theorem Pr.old (h:Pr g b n k D ss s n1 n2 n3 L W) {o:Nat} (ho:o<n*8):(∃ v,Ce W g o v)/\W.frozen? ⟨g,o,none⟩=false:=
 ⟨⟨_,h.blk.cell o (by rw[h.len];exact ho)⟩,h.blk.free o (by rw[h.len];exact ho)⟩
theorem Pr.d4 (h:Pr g b n k D ss s n1 n2 n3 L W):Ce W g (k*8+4) (.slice s.a1 n1 s.c1):=Z2.blk_get h.blk h.c4
theorem Pr.d6 (h:Pr g b n k D ss s n1 n2 n3 L W):Ce W g (k*8+6) (.slice s.a2 n2 s.c2):=Z2.blk_get h.blk h.c6
theorem Pr.d7 (h:Pr g b n k D ss s n1 n2 n3 L W):Ce W g (k*8+7) (.slice s.a3 n3 s.c3):=Z2.blk_get h.blk h.c7
theorem Pr.done {E:Nat->Ln} {m m1 m2:Nat} (h:Pr g b n k (upto E k) ss (ss k) (E k).pg.length (E k).po.length (E k).fr.length (((((L.set (k*8) (Iv (m:Int))).set (k*8+1) (Iv ((m:Int)+1))).set (k*8+2) (Iv ((m:Int)+1+1))).set (k*8+3) (.string (M1.mt (m+3)))).set (k*8+5) (.string (M1.mt (m+4+(E k).pg.length)))) W)
  (hm:m=st E k) (hl:HL (b k) m1 m2 (b (k+1)) (ss k) (mfrom (m+4) (E k).pg.length) (mfrom (m+5+(E k).pg.length) (E k).po.length) (mfrom (m+5+(E k).pg.length+(E k).po.length) (E k).fr.length) W) (hi:b n<=W.heap.size) :
  ∃ L',AF g b n (upto E (k+1)) ss L' W:=by
 have hlen:=h.len;have hk:=h.lk;have h4:=h.c4;have h6:=h.c6;have h7:=h.c7;simp only[List.length_set] at hlen;refine ⟨_,by simpa using hlen,h.blk,fun j hj=>?_,fun j hj=>?_,h.gb,hi⟩
 ·by_cases hjk:j=k
  ·subst hjk
   have e:upto E (j+1) j=mk1 m (E j):=by simp[upto,hm]
   rw[e];refine ⟨?_,?_,?_,?_,?_,?_,?_,?_⟩
   ·simp[mk1,List.getElem?_set,hlen];omega
   ·simp[mk1,List.getElem?_set,hlen];omega
   ·simp[mk1,List.getElem?_set,hlen];omega
   ·simp[mk1,List.getElem?_set,hlen];omega
   ·simpa [mk1,mfrom_length] using h4
   ·simp[mk1,List.getElem?_set,hlen];omega
   ·simpa [mk1,mfrom_length] using h6
   ·simpa [mk1,mfrom_length] using h7
  ·have e:upto E (k+1) j=upto E k j:=by
    unfold upto
    by_cases h':j<k
    ·simp[h',Nat.lt_succ_of_lt h']
    ·rw[if_neg h',if_neg (by omega)]
   rw[e];exact (h.oth j hj hjk).1
 ·by_cases hjk:j=k
  ·subst hjk
   have e:upto E (j+1) j=mk1 m (E j):=by simp[upto,hm]
   rw[e];exact ⟨m1,m2,hl⟩
  ·have e:upto E (k+1) j=upto E k j:=by
    unfold upto
    by_cases h':j<k
    ·simp[h',Nat.lt_succ_of_lt h']
    ·rw[if_neg h',if_neg (by omega)]
   rw[e];exact (h.oth j hj hjk).2
end MR
namespace MS
open N0 (Ln)
open N1 (Sl)
open Z0 (dat Kp kval kvals)
open LF (Btw OwnIn mfrom mfrom_length)
open LH (HL)
open MR (mk1 st upto AF Pr pr_of)
theorem st_le (D:Nat->Ln) (n:Nat) (hz:∀ j,j<n->(D j).pg.length<=1048576/\(D j).po.length<=1048576/\(D j).fr.length<=1048576):∀ k,k<=n->1<=st D k/\st D k<=1+k*3145733
 | 0,_=>⟨Nat.le_refl _,by simp[st]⟩
 | k+1,hk=>by
  have ih:=st_le D n hz k (by omega);have:=hz k (by omega);simp only[st];omega
theorem mark_in {lo hi:Nat} {a:Option Addr} {zs:List Int} {W:World} {n c k0:Nat} {x:Int} (hx:x=(k0:Int)) (h:OwnIn lo hi W a zs) (hz:zs.length=n) (hn:n<=1048576) (h0:k0<=1125899906842624) :
  Calls prog 11 #[.slice a n c,Iv x] W fun e w'=>e=.returned (Iv ((k0+n:Nat):Int))/\OwnIn lo hi w' a (mfrom k0 n)/\Btw lo hi W w':=by
 subst hx;exact LF.markIn h hz hn h0
theorem markLoanS (g c n:Nat) (b:Nat->Nat) (D:Nat->Ln) (ss:Nat->Sl) (L:List Value) (w:World) (hn:n<=1048576) (hz:∀ j,j<n->(D j).pg.length<=1048576/\(D j).po.length<=1048576/\(D j).fr.length<=1048576) (h:AF g b n D ss L w) :
  Calls prog 26 #[Sv g n c,Iv 1] w fun e w'=>e=.returned (Iv ((st D n:Nat):Int))/\(∃ L',AF g b n (upto D n) ss L' w')/\Btw g (b n) w w':=by
 have hgn:g<b n:=Nat.lt_of_lt_of_le h.gb (h.le (Nat.zero_le _) (Nat.le_refl _));have HB:Hid (∀ k,k<=n->1<=st D k/\st D k<=1+k*3145733):=st_le D n hz;have HZ:Hid (∀ j,j<n->(D j).pg.length<=1048576/\(D j).po.length<=1048576/\(D j).fr.length<=1048576):=hz;have h00:AF g b n (upto D 0) ss L w:=h;clear h hz;go_enter func26,ntmps26;go_wp2
 go_loopw [1,5] (fun q i w'=>∃ (k m:Nat) (L:List Value),k<=n/\i=Iv k/\q=Iv (m:Int)/\Hid (m=st D k)/\AF g b n (upto D k) ss L w'/\Btw g (b n) w w') (fun _ i _=>n-(intOf i).toNat)
 case atStart=>exact ⟨0,1,L,Nat.zero_le _,rfl,rfl,rfl,h00,Btw.refl _ _ _⟩
 case round=>
  obtain ⟨k,m,L1,hk,rfl,rfl,HM,hS,hgr⟩:=hrel;clear h00;obtain ⟨hm1,hmk⟩:=HB.out k hk;rw[<- HM.out] at hm1 hmk
  by_cases hlt:k<n
  ·have e1:(0:Int)<=(k:Int):=by omega
   have e2:(k:Int)<(n:Int):=by omega
   obtain ⟨z1,z2,z3⟩:=HZ.out k hlt
   have hm2:m<=4000000000000:=by
    have:k*3145733<=1048576*3145733:=Nat.mul_le_mul_right _ (by omega);omega
   have hup:upto D k k=D k:=if_neg (by omega);have P0:=pr_of hS hlt;obtain ⟨q1,q2,hl⟩:=hS.sub k hlt;have hgk:g<b k:=Nat.lt_of_lt_of_le hS.gb (hS.le (Nat.zero_le _) hk);have hkn:b (k+1)<=b n:=hS.le hlt (Nat.le_refl _);have hsz:=hS.hi;rw[hup] at P0 hl;have hle:=hl.le;have K1:=hl.p1;have K2:=hl.p2;have K3:=hl.p3
   have HE:Hid (∀ (L':List Value) (W':World),Pr g b n k (upto D k) ss (ss k) (D k).pg.length (D k).po.length (D k).fr.length (((((L'.set (k*8) (Iv (m:Int))).set (k*8+1) (Iv ((m:Int)+1))).set (k*8+2) (Iv ((m:Int)+1+1))).set (k*8+3) (.string (M1.mt (m+3)))).set (k*8+5) (.string (M1.mt (m+4+(D k).pg.length)))) W'->HL (b k) q1 q2 (b (k+1)) (ss k) (mfrom (m+4) (D k).pg.length) (mfrom (m+5+(D k).pg.length) (D k).po.length) (mfrom (m+5+(D k).pg.length+(D k).po.length) (D k).fr.length) W'->b n<=W'.heap.size->∃ L'',AF g b n (upto D (k+1)) ss L'' W'):=fun L' W' x y z=>x.done HM.out y z
   have HT:Hid (m+5+(D k).pg.length+(D k).po.length+(D k).fr.length=st D (k+1)):=by
    show m+5+(D k).pg.length+(D k).po.length+(D k).fr.length=st D k+5+(D k).pg.length+(D k).po.length+(D k).fr.length
    rw[HM.out]
   obtain ⟨s,es⟩:∃ s,ss k=s:=⟨_,rfl⟩;rw[es] at P0 K1 K2 K3 HE;have L1e:(D k).pg.length=(D k).pg.length:=rfl;obtain ⟨y1,ey1⟩:∃ y,(D k).pg=y:=⟨_,rfl⟩;obtain ⟨y2,ey2⟩:∃ y,(D k).po=y:=⟨_,rfl⟩;obtain ⟨y3,ey3⟩:∃ y,(D k).fr=y:=⟨_,rfl⟩;rw[ey1] at P0 K1 HE HT z1;rw[ey2] at P0 K2 HE HT z2;rw[ey3] at P0 K3 HE HT z3;obtain ⟨n1,en1⟩:∃ n,y1.length=n:=⟨_,rfl⟩;obtain ⟨n2,en2⟩:∃ n,y2.length=n:=⟨_,rfl⟩;obtain ⟨n3,en3⟩:∃ n,y3.length=n:=⟨_,rfl⟩;rw[en1,en2,en3] at P0 HE HT;rw[en1] at z1;rw[en2] at z2;rw[en3] at z3;obtain ⟨⟨x0,w0⟩,f0⟩:=P0.old (o:=k*8) (by omega);obtain ⟨⟨x1,w1⟩,f1⟩:=P0.old (o:=k*8+1) (by omega);obtain ⟨⟨x2,w2⟩,f2⟩:=P0.old (o:=k*8+2) (by omega);have S3:=((P0.set (o:=k*8) (r:=0) rfl (by omega) (Iv (m:Int))).set (o:=k*8+1) (r:=1) rfl (by omega) (Iv ((m:Int)+1))).set (o:=k*8+2) (r:=2) rfl (by omega) (Iv ((m:Int)+1+1));have B3:=(((Btw.refl g (g+1) wr).set (p:=⟨g,k*8,none⟩) (Nat.le_refl _) (Nat.lt_succ_self _) (Iv (m:Int))).set (p:=⟨g,k*8+1,none⟩) (Nat.le_refl _) (Nat.lt_succ_self _) (Iv ((m:Int)+1))).set (p:=⟨g,k*8+2,none⟩) (Nat.le_refl _) (Nat.lt_succ_self _) (Iv ((m:Int)+1+1));have G3:=hgr.trans (B3.mono (Nat.le_refl _) hgn);have A1:=K1.btw B3 (Or.inr hgk);have A2:=K2.btw B3 (Or.inr (by omega));have A3:=K3.btw B3 (Or.inr (by omega));have hs3:=B3.size
   clear es ey1 ey2 ey3 P0 hS hgr hl K1 K2 K3 hup L1e HM hmk B3
   go_wp2_with (first
    | (go_at_call 11;have G8':=G7;refine (mark_in (k0:=m+5+n1+n2) (by omega) A37 en3 z3 (by omega)).mono ?_;rintro e w8 ⟨rfl,u3,t8⟩;have S8:=S7.btw t8 (by omega) (Nat.le_refl _);have G8:=G7.trans (t8.mono (by omega) hkn);have u18:=u17.btw t8 (by omega);have u28:=u2.btw t8 (by omega);have s8:=t8.size)
    | (go_at_call 11;have G7':=G6;refine (mark_in (k0:=m+5+n1) (by omega) A26 en2 z2 (by omega)).mono ?_;rintro e w7 ⟨rfl,u2,t7⟩;have S7:=S6.btw t7 (by omega) (by omega);have G7:=G6.trans (t7.mono (by omega) (by omega));have u17:=u16.btw t7 (by omega);have A37:=A36.btw t7 (by omega);have c7:=S7.d7;have s7:w6.heap.size<=w7.heap.size:=(by simpa using t7.size))
    | (go_at_call 56;have G6':=G5;refine (LG.mark_text (v:=m+4+n1) (by omega) (by omega) (by omega) _).mono ?_;rintro e w6 ⟨rfl,l6⟩;have S6a:=S5.below l6;have G6a:=G5.then l6;obtain ⟨⟨x5,y5⟩,f5⟩:=S6a.old (o:=k*8+5) (by omega);have S6:=S6a.set (o:=k*8+5) (r:=5) rfl (by omega) (.string (M1.mt (m+4+n1)));have G6:=G6a.set (p:=⟨g,k*8+5,none⟩) (Nat.le_refl _) hgn (.string (M1.mt (m+4+n1)));have u16:=(u1.below l6).set (B:=g) (by omega) (k*8+5) (.string (M1.mt (m+4+n1)));have A26:=(A25.below l6).set (B:=g) (by omega) (k*8+5) (.string (M1.mt (m+4+n1)));have A36:=(A35.below l6).set (B:=g) (by omega) (k*8+5) (.string (M1.mt (m+4+n1)));have c6:=S6.d6;have s6:=l6.size)
    | (go_at_call 11;have G5':=G4;refine (mark_in (k0:=m+4) (by omega) A14 en1 z1 (by omega)).mono ?_;rintro e w5 ⟨rfl,u1,t5⟩;have S5:=S4.btw t5 (Nat.le_refl _) (by omega);have G5:=G4.trans (t5.mono (by omega) (by omega));have A25:=A24.btw t5 (by omega);have A35:=A34.btw t5 (by omega);have s5:w4.heap.size<=w5.heap.size:=(by simpa using t5.size))
    | (go_at_call 56;refine (LG.mark_text (v:=m+3) (by omega) (by omega) (by omega) _).mono ?_;rintro e w4 ⟨rfl,l4⟩;have S4a:=S3.below l4;have G4a:=G3.then l4;obtain ⟨⟨x3,y3'⟩,f3⟩:=S4a.old (o:=k*8+3) (by omega);have S4:=S4a.set (o:=k*8+3) (r:=3) rfl (by omega) (.string (M1.mt (m+3)));have G4:=G4a.set (p:=⟨g,k*8+3,none⟩) (Nat.le_refl _) hgn (.string (M1.mt (m+3)));have A14:=(A1.below l4).set (B:=g) hgk (k*8+3) (.string (M1.mt (m+3)));have A24:=(A2.below l4).set (B:=g) (by omega) (k*8+3) (.string (M1.mt (m+3)));have A34:=(A3.below l4).set (B:=g) (by omega) (k*8+3) (.string (M1.mt (m+3)));have c4:=S4.d4;have s4:=Nat.le_trans hs3 l4.size))
   go_roundw
   case rel=>
    obtain ⟨L',hL'⟩:=HE.out _ _ S8 ⟨u18,u28,u3,hle⟩ (by omega);exact ⟨k+1,m+5+n1+n2+n3,L',by omega,by go_num,by go_num,HT.out,hL',G8⟩
   case measure=>simp[intOf];omega
  ·obtain rfl:k=n:=by omega
   have HM':=HM.out;clear HB HZ;go_wp2;go_ret;exact ⟨by rw[HM'];rfl,⟨_,hS⟩,hgr⟩
end MS
namespace MT
open N0 (Ln)
open N1 (Sl)
open Z0 (dat Kp kval kvals)
open Z2 (at_of)
open LF (Btw OwnIn mfrom mfrom_length)
open LH (HL)
open MR (mk1 st upto AF Pr pr_of)
theorem held_in {lo hi:Nat} {a:Option Addr} {W:World} {n c k0:Nat} {x:Int} (hx:x=(k0:Int)) (h:OwnIn lo hi W a (mfrom k0 n)) (hn:n<=1048576) (h0:k0<=1125899906842624) :
  Calls prog 13 #[.slice a n c,Iv x] W (Rw (Iv ((k0+n:Nat):Int)) W):=by
 subst hx;exact LF.heldIn h hn h0
theorem heldLoanS (g c n:Nat) (b:Nat->Nat) (D:Nat->Ln) (ss:Nat->Sl) (L:List Value) (w:World) (hn:n<=1048576) (hz:∀ j,j<n->(D j).pg.length<=1048576/\(D j).po.length<=1048576/\(D j).fr.length<=1048576) (h:AF g b n (upto D n) ss L w) :
  Calls prog 27 #[Sv g n c,Iv 1] w (Rb (Iv ((st D n:Nat):Int)) w):=by
 have HB:Hid (∀ k,k<=n->1<=st D k/\st D k<=1+k*3145733):=MS.st_le D n hz;have HZ:Hid (∀ j,j<n->(D j).pg.length<=1048576/\(D j).po.length<=1048576/\(D j).fr.length<=1048576):=hz
 have HA:Hid (∀ W,Bq w W->AF g b n (upto D n) ss L W):=fun W hb=>h.below hb
 clear h hz;go_enter func27,ntmps27;go_wp2
 go_loopw [1,5] (fun q i w'=>∃ (k m:Nat),k<=n/\i=Iv k/\q=Iv (m:Int)/\Hid (m=st D k)/\Bq w w') (fun _ i _=>n-(intOf i).toNat)
 case atStart=>exact ⟨0,1,Nat.zero_le _,rfl,rfl,rfl,Below.refl _ _⟩
 case round=>
  obtain ⟨k,m,hk,rfl,rfl,HM,hbel⟩:=hrel;obtain ⟨hm1,hmk⟩:=HB.out k hk;rw[<- HM.out] at hm1 hmk
  by_cases hlt:k<n
  ·have e1:(0:Int)<=(k:Int):=by omega
   have e2:(k:Int)<(n:Int):=by omega
   obtain ⟨z1,z2,z3⟩:=HZ.out k hlt
   have hm2:m<=4000000000000:=by
    have:k*3145733<=1048576*3145733:=Nat.mul_le_mul_right _ (by omega);omega
   have hup:upto D n k=mk1 m (D k):=by
    rw[HM.out];exact if_pos hlt
   have HT:Hid (m+5+(D k).pg.length+(D k).po.length+(D k).fr.length=st D (k+1)):=by
    show m+5+(D k).pg.length+(D k).po.length+(D k).fr.length=st D k+5+(D k).pg.length+(D k).po.length+(D k).fr.length
    rw[HM.out]
   obtain ⟨n1,en1⟩:∃ n,(D k).pg.length=n:=⟨_,rfl⟩;obtain ⟨n2,en2⟩:∃ n,(D k).po.length=n:=⟨_,rfl⟩;obtain ⟨n3,en3⟩:∃ n,(D k).fr.length=n:=⟨_,rfl⟩;obtain ⟨s,es⟩:∃ s,ss k=s:=⟨_,rfl⟩
   have HC:Hid (∀ W,Bq w W->(Ce W g (k*8) (Iv (m:Int))/\Ce W g (k*8+1) (Iv ((m:Int)+1))/\Ce W g (k*8+2) (Iv ((m:Int)+1+1))/\Ce W g (k*8+3) (.string (M1.mt (m+3)))/\Ce W g (k*8+4) (.slice s.a1 n1 s.c1)/\Ce W g (k*8+5) (.string (M1.mt (m+4+n1)))/\Ce W g (k*8+6) (.slice s.a2 n2 s.c2)/\Ce W g (k*8+7) (.slice s.a3 n3 s.c3))/\∃ m1 m2,HL (b k) m1 m2 (b (k+1)) s (mfrom (m+4) n1) (mfrom (m+5+n1) n2) (mfrom (m+5+n1+n2) n3) W):=fun W hb=>by
    have hA:=HA.out W hb;have h1:=at_of hA.blk (hA.at_ k hlt);have h2:=hA.sub k hlt;rw[hup,es] at h1 h2;unfold mk1 at h1 h2;rw[en1,en2,en3] at h1 h2;obtain ⟨a0,a1,a2,a3,a4,a5,a6,a7⟩:=h1;simp only[mfrom_length] at a4 a6 a7;exact ⟨⟨a0,a1,a2,a3,a4,a5,a6,a7⟩,h2⟩
   rw[en1,en2,en3] at HT;rw[en1] at z1;rw[en2] at z2;rw[en3] at z3;obtain ⟨⟨y0,y1,y2,y3,y4,y5,y6,y7⟩,m1,m2,hl⟩:=HC.out _ hbel;have S0:wr.drew.cell? ⟨g,k*8+3,none⟩=some (.string (M1.mt (m+3))):=y3;clear hup es en1 en2 en3 HM hmk;go_wp2
   go_region_held3 (fun W=>Ce W g (k*8+3) (.string (M1.mt (m+3)))) (assumption) ((go_at_call 56;refine (LG.mark_text (v:=m+3) (by omega) (by omega) (by omega) _).mono ?_;rintro e w4 ⟨rfl,b4⟩;have B4:Bq w w4:=(hbel.drew).trans (b4.mono hbel.drew.size);have hS4:Ce w4 g (k*8+3) (.string (M1.mt (m+3))):=(HC.out _ B4).1.2.2.2.1))
   all_goals
    obtain ⟨⟨v0,v1,v2,v3,v4,v5,v6,v7⟩,p1,p2,hl4⟩:=HC.out _ B4;have K1:=hl4.p1;have K2:=hl4.p2;have K3:=hl4.p3;clear y0 y1 y2 y3 y4 y5 y6 y7 hl;have S1:w4.drew.cell? ⟨g,k*8+5,none⟩=some (.string (M1.mt (m+4+n1))):=v5
    go_wp2_with (go_at_call 13;refine (held_in (k0:=m+4) (by omega) K1 z1 (by omega)).mono ?_;rintro e w5 ⟨rfl,hw5⟩;subst w5)
    go_region_held3 (fun W=>Ce W g (k*8+5) (.string (M1.mt (m+4+n1)))) (assumption) ((go_at_call 56;refine (LG.mark_text (v:=m+4+n1) (by omega) (by omega) (by omega) _).mono ?_;rintro e w6 ⟨rfl,b6⟩;have B6:Bq w w6:=(B4.drew).trans (b6.mono B4.drew.size);have hS6:Ce w6 g (k*8+5) (.string (M1.mt (m+4+n1))):=(HC.out _ B6).1.2.2.2.2.2.1))
    all_goals
     obtain ⟨⟨x0,x1,x2,x3,x4,x5,x6,x7⟩,p1',p2',hl6⟩:=HC.out _ B6;have J2:=hl6.p2;have J3:=hl6.p3;clear v0 v1 v2 v3 v4 v5 v6 v7 hl4 K1 K2 K3
     go_wp2_with (first
      | (go_at_call 13;have q1':=q1;refine (held_in (k0:=m+5+n1+n2) (by omega) J3 z3 (by omega)).mono ?_;rintro e w8 ⟨rfl,hw8⟩;subst w8)
      | (go_at_call 13;refine (held_in (k0:=m+5+n1) (by omega) J2 z2 (by omega)).mono ?_;rintro e w7 ⟨rfl,hw7⟩;subst w7;have q1:True:=trivial))
     go_roundw
     case rel=>exact ⟨k+1,m+5+n1+n2+n3,by omega,by go_num,by go_num,HT.out,B6⟩
     case measure=>simp[intOf];omega
  ·obtain rfl:k=n:=by omega
   have HM':=HM.out;clear HB HZ;go_wp2;go_ret;exact ⟨by rw[HM'];rfl,hbel⟩
theorem markNone (a:Option Addr) (c:Nat) (w:World) :
  Calls prog 26 #[.slice a 0 c,Iv 1] w (Rw (Iv 1) w):=by
 go_enter func26,ntmps26;go_wp2
 go_loop [1,5] (fun q i=>i=Iv 0/\q=Iv 1) (fun _ _=>0)
 case atStart=>exact ⟨rfl,rfl⟩
 case round=>
  obtain ⟨rfl,rfl⟩:=hrel;go_wp2;go_ret;exact ⟨rfl,rfl⟩
theorem heldNone (a:Option Addr) (c:Nat) (w:World) :
  Calls prog 27 #[.slice a 0 c,Iv 1] w (Rw (Iv 1) w):=by
 go_enter func27,ntmps27;go_wp2
 go_loop [1,5] (fun q i=>i=Iv 0/\q=Iv 1) (fun _ _=>0)
 case atStart=>exact ⟨rfl,rfl⟩
 case round=>
  obtain ⟨rfl,rfl⟩:=hrel;go_wp2;go_ret;exact ⟨rfl,rfl⟩
end MT
namespace MU
open N0 (Ln)
open N1 (Sl)
open Z0 (dat Kp kval kvals Lns)
open LF (Btw)
open MR (st upto AF af_of)
open KD (kob Small)
def Oh (lo hi:Nat) (a:Option Addr) (ds:List Ln) (W:World):Prop:=ds=[]\/∃ g b ss L,a=some ⟨g,0,none⟩/\lo<=g/\b ds.length<=hi/\AF g b ds.length (dat ds) ss L W
def Mh (lo hi:Nat) (a:Option Addr) (ds:List Ln) (W:World):Prop:=ds=[]\/∃ g b ss L,a=some ⟨g,0,none⟩/\lo<=g/\b ds.length<=hi/\AF g b ds.length (upto (dat ds) ds.length) ss L W
variable {lo hi lo' hi' g n : Nat} {a : Option Addr} {ds : List Ln} {w W W' : World} {b : Nat → Nat} {D : Nat → Ln} {ss : Nat → Sl} {L : List Value}
theorem oh_of (h:KD.Own lo a ds W):Oh lo W.heap.size a ds W:=h.imp id fun ⟨g,b,ss,L,e,h1,h2⟩=>⟨g,b,ss,L,e,h1,h2.hi,af_of h2⟩
theorem Oh.below (h:Oh lo hi a ds W) (hb:Bq W W'):Oh lo hi a ds W':=h.imp id fun ⟨g,b,ss,L,e,h1,h2,h3⟩=>⟨g,b,ss,L,e,h1,h2,h3.below hb⟩
theorem Mh.below (h:Mh lo hi a ds W) (hb:Bq W W'):Mh lo hi a ds W':=h.imp id fun ⟨g,b,ss,L,e,h1,h2,h3⟩=>⟨g,b,ss,L,e,h1,h2,h3.below hb⟩
theorem af_btw (h:AF g b n D ss L W) (hb:Btw lo' hi' W W') (hx:hi'<=g\/b n<=lo'):AF g b n D ss L W':=by
 have h0:=h.gb;have h1:=h.le (Nat.zero_le n) (Nat.le_refl _);refine ⟨h.len,LF.blk_btw h.blk hb (by omega),h.at_,fun j hj=>?_,h.gb,Nat.le_trans h.hi hb.size⟩;obtain ⟨m1,m2,q⟩:=h.sub j hj;have h2:=h.le (i:=0) (j:=j) (Nat.zero_le _) (by omega);have h3:=h.le (i:=j+1) (j:=n) (by omega) (Nat.le_refl _);exact ⟨m1,m2,q.btw hb (by omega)⟩
theorem Oh.btw (h:Oh lo hi a ds W) (hb:Btw lo' hi' W W') (hx:hi'<=lo):Oh lo hi a ds W':=h.imp id fun ⟨g,b,ss,L,e,h1,h2,h3⟩=>⟨g,b,ss,L,e,h1,h2,af_btw h3 hb (Or.inl (by omega))⟩
theorem Oh.lns (h:Oh lo hi a ds W):∃ ss,Lns W a ds ss:=by
 rcases h with rfl | ⟨g,b,ss,L,rfl,h1,h2,h3⟩
 ·exact ⟨fun _=>Z0.sz0,Or.inl rfl,fun j hj=>by simp at hj⟩
 ·refine ⟨ss,Or.inr ⟨g,0,rfl,h3.blk.lt,fun j hj=>?_⟩,fun j hj=>?_⟩
  ·rw[Nat.zero_add]
   exact Z2.at_of h3.blk (h3.at_ j hj)
  ·obtain ⟨m1,m2,q⟩:=h3.sub j hj
   exact q.lists
theorem small3 (hz:Small ds):∀ j,j<ds.length->(dat ds j).pg.length<=1048576/\(dat ds j).po.length<=1048576/\(dat ds j).fr.length<=1048576:=fun j hj=>by
 obtain ⟨z1,z2,z3,-,-⟩:=hz j hj;exact ⟨z1,z2,z3⟩
def cnt (ds:List Ln):Nat:=st (dat ds) ds.length
theorem cnt_le (hn:ds.length<=1048576) (hz:Small ds):cnt ds<=4000000000000:=by
 have h:=(MS.st_le (dat ds) ds.length (small3 hz) ds.length (Nat.le_refl _)).2;have:ds.length*3145733<=1048576*3145733:=Nat.mul_le_mul_right _ hn;unfold cnt;omega
theorem mark_loans (c:Nat) (hn:ds.length<=1048576) (hz:Small ds) (h:Oh lo hi a ds W) :
  Calls prog 26 #[.slice a ds.length c,Iv 1] W fun e w'=>e=.returned (Iv (cnt ds:Int))/\Mh lo hi a ds w'/\Btw lo hi W w':=by
 rcases h with rfl | ⟨g,b,ss,L,rfl,h1,h2,h3⟩
 ·exact (MT.markNone a c W).mono fun _ _ ⟨he,hw⟩=>⟨he,Or.inl rfl,by rw[hw];exact Btw.refl _ _ _⟩
 ·exact (MS.markLoanS g c ds.length b (dat ds) ss L W hn (small3 hz) h3).mono fun _ _ ⟨he,⟨L',hL⟩,hb⟩=>⟨he,Or.inr ⟨g,b,ss,L',rfl,h1,h2,hL⟩,hb.mono h1 h2⟩
theorem held_loans (c:Nat) (hn:ds.length<=1048576) (hz:Small ds) (h:Mh lo hi a ds W) :
  Calls prog 27 #[.slice a ds.length c,Iv 1] W (Rb (Iv (cnt ds:Int)) W):=by
 rcases h with rfl | ⟨g,b,ss,L,rfl,h1,h2,h3⟩
 ·exact (MT.heldNone a c W).mono fun _ _ ⟨he,hw⟩=>⟨he,by rw[hw];exact Below.refl _ _⟩
 ·exact MT.heldLoanS g c ds.length b (dat ds) ss L W hn (small3 hz) h3
theorem markKeeper (k:Kp) (c:Nat) (hn:k.ds.length<=1048576) (hz:Small k.ds) (h:Oh lo hi a k.ds W) :
  Calls prog 10 #[kval k a c,Iv 1] W fun e w'=>e=.returned (Iv (cnt k.ds:Int))/\Mh lo hi a k.ds w'/\Btw lo hi W w':=by
 have k0:=K0.blk_new (kvals k a c) W 31;have l0:=K0.below_new W (kob k a c);have m0:=mark_loans c hn hz (h.below l0);have c2:=k0.c2;clear h hz;go_enter func10,ntmps10
 go_wp2_with (go_at_call 26;refine m0.mono ?_;rintro e w1 ⟨rfl,h1,b1⟩)
 go_ret;exact ⟨rfl,h1,(Btw.ofBelow l0).trans b1⟩
theorem heldKeeper (k:Kp) (c:Nat) (hn:k.ds.length<=1048576) (hz:Small k.ds) (h:Mh lo hi a k.ds W) :
  Calls prog 12 #[kval k a c,Iv 1] W (Rb (Iv (cnt k.ds:Int)) W):=by
 have k0:=K0.blk_new (kvals k a c) W 31;have l0:=K0.below_new W (kob k a c);have m0:=held_loans c hn hz (h.below l0);have c2:=k0.c2;have hc:(0:Int)<=(cnt k.ds:Int):=Int.natCast_nonneg _;clear h hz;go_enter func12,ntmps12
 go_wp2_with (go_at_call 27;refine m0.mono ?_;rintro e w1 ⟨rfl,b1⟩)
 go_ret;exact ⟨rfl,l0.trans (b1.mono l0.size)⟩
end MU
namespace TD
open LF (Btw)
theorem btw_cells {lo hi g:Nat} (h1:lo<=g) (h2:g<hi):∀ (vs:List Value) (o:Nat) (w W:World),Btw lo hi w W->Btw lo hi w (W.setCells g o vs)
 | [],_,_,_,h=>h
 | v :: r,o,w,W,h=>btw_cells h1 h2 r (o+1) w _ (h.set (p:=⟨g,o,none⟩) h1 h2 v)
theorem run_clear8 (w:World) (ty:TypeId) (b o c:Nat) (hc:∀ j,j<8->(w.cell? ⟨b,o+j,none⟩).isSome=true) (hf:∀ j,j<8->w.frozen? ⟨b,o+j,none⟩=false) :
  (Builtin.clear_ #[29] ty #[.slice (some ⟨b,o,none⟩) 1 c]).run prog w=.ok (.tuple #[]) (w.setCells b o Z2.zero8.toList):=by
 have hv:∀ w,(zeroValue 46).run prog w=.ok (.agg Z2.zero8) w:=fun w=>by kernel_rfl
 have hzc:(Builtin.zeroCells (Value.agg Z2.zero8).cells 1).toList=Z2.zero8.toList:=by kernel_rfl
 have hst:=run_storeCells_cells (P:=prog) b o Z2.zero8.toList 0 w (by simpa using hc) (by simpa using hf) (by intro v hv';simp at hv';rcases hv' with rfl | rfl | rfl | rfl | rfl | rfl | rfl | rfl <;> rfl)
 simp only[Nat.add_zero] at hst;simp only[Builtin.clear_];simp[run_underlying underlying29,hv,hzc,hst]
theorem left (g n p:Nat) (L:List Value) (w:World) (hL:L.length=n*8) (hb:K0.Blk g L w) (hp:p<n) :
  K0.Blk g (L.take (p*8)++L.drop ((p+1)*8)) ((w.setCells g (p*8) (L.drop ((p+1)*8))).setCells g ((n-1)*8) Z2.zero8.toList):=by
 have hl1:(L.drop ((p+1)*8)).length=(n-1)*8-p*8:=by rw[List.length_drop,hL];omega
 have hl0:(L.take (p*8)).length=p*8:=by rw[List.length_take,hL];omega
 refine ⟨fun j hj=>?_,fun j hj=>?_,?_⟩
 ·rw[List.length_append,hl0,hl1] at hj
  rw[World.cell?_setCells_out g _ _ _ ⟨g,j,none⟩ (fun _ _=>Or.inl (by show j<(n-1)*8;omega))]
  by_cases hjp:j<p*8
  ·rw[World.cell?_setCells_out g _ _ _ ⟨g,j,none⟩ (fun _ _=>Or.inl hjp),hb.cell j (by omega)]
   congr 1
   rw[List.getElem_append_left (by omega),List.getElem_take]
  ·have hin:=World.cell?_setCells_in g (L.drop ((p+1)*8)) (p*8) w (fun t ht=>by rw[hb.cell (p*8+t) (by omega)];rfl) (j-p*8) (by omega)
   rw[show p*8+(j-p*8)=j by omega] at hin;rw[hin]
   congr 1
   rw[List.getElem_append_right (by omega)]
   congr 1
   omega
 ·rw[World.frozen?_setCells,World.frozen?_setCells]
  rw[List.length_append,hl0,hl1] at hj;exact hb.free j (by omega)
 ·have:=hb.lt
  rw[B0.size_setCells,B0.size_setCells];exact this
theorem cells_one {L:List Value} {n:Nat} {D:Nat->N0.Ln} {ss:Nat->N1.Sl} (hL:L.length=n*8) (h:∀ j,j<n->Z2.LAt L (j*8) (D j) (ss j)):∀ u ∈ L,u.oneCell'=true:=by
 intro u hu;obtain ⟨i,hi,rfl⟩:=List.getElem_of_mem hu
 have hj:i / 8<n:=by omega
 obtain ⟨f0,f1,f2,f3,f4,f5,f6,f7⟩:=h (i / 8) hj;have hg:L[i]? = some L[i]:=List.getElem?_eq_getElem hi
 rcases (show i=i / 8*8\/i=i / 8*8+1\/i=i / 8*8+2\/i=i / 8*8+3\/i=i / 8*8+4\/i=i / 8*8+5\/i=i / 8*8+6\/i=i / 8*8+7 by omega) with e | e | e | e | e | e | e | e
 ·rw[<- e,hg] at f0;rw[Option.some.inj f0];rfl
 ·rw[<- e,hg] at f1;rw[Option.some.inj f1];rfl
 ·rw[<- e,hg] at f2;rw[Option.some.inj f2];rfl
 ·rw[<- e,hg] at f3;rw[Option.some.inj f3];rfl
 ·rw[<- e,hg] at f4;rw[Option.some.inj f4];rfl
 ·rw[<- e,hg] at f5;rw[Option.some.inj f5];rfl
 ·rw[<- e,hg] at f6;rw[Option.some.inj f6];rfl
 ·rw[<- e,hg] at f7;rw[Option.some.inj f7];rfl
theorem del (g n c p:Nat) (L:List Value) (w:World) (hL:L.length=n*8) (h1:∀ u ∈ L,u.oneCell'=true) (hb:K0.Blk g L w) (hp:p<n) (hc:n<=c) (hm:c<=9223372036854775807) :
  Calls prog 88 #[Sv g n c,Iv p,Iv (p+1)] w fun e w'=>e=.returned (Sv g (n-1) c)/\K0.Blk g (L.take (p*8)++L.drop ((p+1)*8)) w'/\Btw g (g+1) w w':=by
 obtain ⟨i0,hi0,hz0,hz1,hz2⟩:=info_parts Z2.infoL;have hres:=left g n p L w.drew hL hb.drew hp;have hbt:Btw g (g+1) w ((w.drew.setCells g (p*8) (L.drop ((p+1)*8))).setCells g ((n-1)*8) Z2.zero8.toList):=btw_cells (Nat.le_refl _) (Nat.lt_succ_self _) _ _ _ _ (btw_cells (Nat.le_refl _) (Nat.lt_succ_self _) _ _ _ _ (Btw.ofBelow ((Below.refl _ _).drew)));obtain ⟨news,hnews⟩:∃ news,news=L.drop ((p+1)*8):=⟨_,rfl⟩
 have hlen:news.length=(n-(p+1))*8:=by rw[hnews,List.length_drop,hL];omega
 obtain ⟨A,hA,hsrc⟩:∃ A:Addr,(if c=p+1 then some (⟨g,0,none⟩:Addr) else some ⟨g,(p+1)*8,none⟩)=some A/\Hid (∀ t u,news[t]? = some u->w.drew.cell? (A.add t)=some u):=by
  by_cases h:c=p+1
  ·refine ⟨⟨g,0,none⟩,by simp[h],fun t u hu=>?_⟩
   have h0:news.length=0:=by rw[hlen];omega
   rw[List.length_eq_zero_iff.1 h0] at hu;simp at hu
  ·refine ⟨⟨g,(p+1)*8,none⟩,by simp[h],fun t u hu=>?_⟩
   rw[hnews,List.getElem?_drop] at hu;rw[B0.add_off];exact Z2.blk_get hb.drew hu
 have s1:Hid (news.length=(n-(p+1))*8):=hlen
 have s2:Hid (∀ u ∈ news,u.oneCell'=true):=by
  intro u hu;rw[hnews] at hu;exact h1 u (List.mem_of_mem_drop hu)
 have s3:Hid (∀ t,t<news.length->(w.drew.cell? ⟨g,0+p*8+t,none⟩).isSome=true/\w.drew.frozen? ⟨g,0+p*8+t,none⟩=false):=by
  intro t ht;rw[hlen] at ht;rw[Nat.zero_add];exact ⟨by rw[hb.drew.cell (p*8+t) (by omega)];rfl,hb.drew.free (p*8+t) (by omega)⟩
 obtain ⟨W1,hW1⟩:∃ W1,W1=w.drew.setCells g (0+p*8) news:=⟨_,rfl⟩
 have hq:p+(n-(p+1))=n-1:=by omega
 have hcl0:∀ ty c',(Builtin.clear_ #[29] ty #[.slice (some ⟨g,(n-1)*8,none⟩) 1 c']).run prog W1=.ok (.tuple #[]) (W1.setCells g ((n-1)*8) Z2.zero8.toList):=fun ty c'=>run_clear8 W1 ty g ((n-1)*8) c'
  (fun j hj=>by rw[hW1];exact B0.isSome_setCells g _ _ _ _ (by rw[hb.drew.cell ((n-1)*8+j) (by omega)];rfl))
  (fun j hj=>by rw[hW1,World.frozen?_setCells];exact hb.drew.free ((n-1)*8+j) (by omega))
 have hcl:∀ ty,(Builtin.clear_ #[29] ty #[.slice (some ⟨g,(p+(n-(p+1)))*8,none⟩) (n-(p+(n-(p+1)))) (c-(p+(n-(p+1))))]).run prog W1=.ok (.tuple #[]) (W1.setCells g ((n-1)*8) Z2.zero8.toList):=fun ty=>by
  have:=hcl0 ty (c-(n-1));rw[hq,show n-(n-1)=1 by omega];exact this
 have HQ:Hid (p+(n-(p+1))=n-1):=hq
 have HX:Hid (K0.Blk g (L.take (p*8)++L.drop ((p+1)*8)) (W1.setCells g ((n-1)*8) Z2.zero8.toList)/\Btw g (g+1) w (W1.setCells g ((n-1)*8) Z2.zero8.toList)):=by
  rw[hW1,hnews,Nat.zero_add];exact ⟨hres,hbt⟩
 have hW:Hid (W1=w.drew.setCells g (0+p*8) news):=hW1
 have x1:(0:Int)<=(p:Int):=by omega
 have x2:(p:Int)<=(n:Int):=by omega
 have x3:(p:Int)+1<=(n:Int):=by omega
 have x4:(p:Int)<=(c:Int):=by omega
 have x5:(0:Int)<=(p:Int)+1:=by omega
 clear hq hcl0 hW1 hb hnews hlen hres hbt hz0 hz2;go_enter func88,ntmps88
 go_wp2_with fail
 go_region_law (refine step_append_room rfl (.tmp 22) (.tmp 25) 29 rfl 46 i0 8 underlying29 hi0 hz1 g 0 p c (by simp[Act.eval,Act.put]) A (n-(p+1)) (c-(p+1)) news (by simp[Act.eval,Act.put,hA]) s1.out hsrc.out s2.out (by omega) s3.out ?_;rw[<- hW.out])
 go_wp2;go_ret;exact ⟨by rw[HQ.out];rfl,HX.out⟩
open MR (AF)
open LH (HL)
theorem af_del {g n p:Nat} {b:Nat->Nat} {D:Nat->N0.Ln} {ss:Nat->N1.Sl} {L:List Value} {W W':World} (h:AF g b n D ss L W) (hp:p<n) (hb:Btw g (g+1) W W') (hk:K0.Blk g (L.take (p*8)++L.drop ((p+1)*8)) W') :
  AF g (fun j=>if j<=p then b j else b (j+1)) (n-1) (fun j=>if j<p then D j else D (j+1)) (fun j=>if j<p then ss j else ss (j+1)) (L.take (p*8)++L.drop ((p+1)*8)) W':=by
 have hL:=h.len
 have hl0:(L.take (p*8)).length=p*8:=by rw[List.length_take,hL];omega
 have hg:=h.gb;refine ⟨?_,hk,fun j hj=>?_,fun j hj=>?_,?_,?_⟩
 ·rw[List.length_append,hl0,List.length_drop,hL]
  omega
 ·by_cases hjp:j<p
  ·have e:∀ x,x<8->(L.take (p*8)++L.drop ((p+1)*8))[j*8+x]? = L[j*8+x]?:=fun x hx=>by
    rw[List.getElem?_append_left (by omega),List.getElem?_take_of_lt (by omega)]
   obtain ⟨f0,f1,f2,f3,f4,f5,f6,f7⟩:=h.at_ j (by omega);have e0:=e 0 (by omega);rw[Nat.add_zero] at e0;simp only[if_pos hjp];exact ⟨e0.trans f0,(e 1 (by omega)).trans f1,(e 2 (by omega)).trans f2,(e 3 (by omega)).trans f3,(e 4 (by omega)).trans f4,(e 5 (by omega)).trans f5,(e 6 (by omega)).trans f6,(e 7 (by omega)).trans f7⟩
  ·have e:∀ x,x<8->(L.take (p*8)++L.drop ((p+1)*8))[j*8+x]? = L[(j+1)*8+x]?:=fun x hx=>by
    rw[List.getElem?_append_right (by omega),hl0,List.getElem?_drop]
    congr 1
    omega
   obtain ⟨f0,f1,f2,f3,f4,f5,f6,f7⟩:=h.at_ (j+1) (by omega);have e0:=e 0 (by omega);rw[Nat.add_zero,Nat.add_zero] at e0;simp only[if_neg hjp];exact ⟨e0.trans f0,(e 1 (by omega)).trans f1,(e 2 (by omega)).trans f2,(e 3 (by omega)).trans f3,(e 4 (by omega)).trans f4,(e 5 (by omega)).trans f5,(e 6 (by omega)).trans f6,(e 7 (by omega)).trans f7⟩
 ·by_cases hjp:j<p
  ·obtain ⟨m1,m2,q⟩:=h.sub j (by omega)
   have h0:=h.le (i:=0) (j:=j) (Nat.zero_le _) (by omega);refine ⟨m1,m2,?_⟩;simp only[if_pos hjp,if_pos (show j<=p by omega),if_pos (show j+1<=p by omega)];exact q.btw hb (Or.inr (by omega))
  ·obtain ⟨m1,m2,q⟩:=h.sub (j+1) (by omega)
   have h0:=h.le (i:=0) (j:=j+1) (Nat.zero_le _) (by omega);have q':=q.btw hb (Or.inr (by omega));refine ⟨m1,m2,?_⟩;simp only[if_neg hjp,if_neg (show ¬ j+1<=p by omega)]
   by_cases hjq:j<=p
   ·obtain rfl:j=p:=by omega
    have h1:=h.step1 j (by omega);simp only[Nat.le_refl,if_true];exact ⟨q'.p1.mono h1 (Nat.le_refl _),q'.p2,q'.p3,by have:=q'.le;omega⟩
   ·simp only[if_neg hjq]
    exact q'
 ·simpa using hg
 ·have h1:=h.hi
  have h2:=hb.size;have h3:=h.step1 (n-1) (by omega);rw[show n-1+1=n by omega] at h3
  show (if n-1<=p then b (n-1) else b (n-1+1))<=_
  split
  ·omega
  ·rw[show n-1+1=n by omega]
   omega
theorem del_hi {g n p:Nat} {b:Nat->Nat} {D:Nat->N0.Ln} {ss:Nat->N1.Sl} {L:List Value} {W:World} (h:AF g b n D ss L W) (hp:p<n):(if n-1<=p then b (n-1) else b (n-1+1))<=b n:=by
 have h3:=h.step1 (n-1) (by omega);rw[show n-1+1=n by omega] at h3 ⊢
 split
 ·exact h3
 ·exact Nat.le_refl _
end TD
end Go.Proofs.YtlejhfnjmkdobaaGreatDoor
