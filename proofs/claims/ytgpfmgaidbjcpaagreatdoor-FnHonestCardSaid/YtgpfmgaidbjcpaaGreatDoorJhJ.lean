/- Joined texts. -/
import Derived.Test.YtgpfmgaidbjcpaaGreatDoorJhB
set_option linter.unusedVariables false
set_option linter.unusedSimpArgs false
set_option maxRecDepth 10000
set_option maxHeartbeats 16000000
namespace Go.Proofs.YtgpfmgaidbjcpaaGreatDoor
open ChangeShapes WideShapes ChangeAt RowKit
open Go.Proofs.Tryz
section
def cK (E:Nat->List aB):Nat->List (Nat × aB)
 | 0=>[]
 | i+1=>cK E i++(E i).map fun e=>(i,e)
def mx (E:Nat->List aB) (i k:Nat):List (Nat × aB):=cK E i++((E i).take k).map fun e=>(i,e)
theorem abw (E:Nat->List aB) (i:Nat):mx E i 0=cK E i:=by simp[mx]
theorem abx (E:Nat->List aB) (i:Nat):mx E i (E i).length=cK E (i+1):=by simp[mx,cK]
theorem aby (E:Nat->List aB) (i k:Nat) (h:k<(E i).length):mx E i (k+1)=mx E i k ++ [(i,bl (E i) k)]:=by unfold mx;rw[mq h,Ii,mQ _ _ h,so];rfl
theorem BR {E:Nat->List aB} {d:Nat} {e:aB}:∀ {n:Nat},(d,e) ∈ cK E n ↔ d<n/\e ∈ E d
 | 0=>by simp[cK]
 | n+1=>by
  rw[cK,mr,BR];simp only[sq,Prod.mk.injEq];constructor
  ·rintro (⟨h1,h2⟩ | ⟨a,h1,rfl,rfl⟩);·exact ⟨by omega,h2⟩
   exact ⟨by omega,h1⟩
  ·rintro ⟨h1,h2⟩;by_cases h:d=n
   ·subst h;exact Or.inr ⟨e,h2,rfl,rfl⟩
   exact Or.inl ⟨by omega,h2⟩
def fx (l:List (Nat × aB)) (x:Int):List (Nat × aB):=l.filter fun p=>p.2.1 == x
def dP (l:List (Nat × aB)) (x:Int):Int:=match fx l x with
 | []=>-1
 | [p]=>p.1
 | _=>-2
def sF (l:List (Nat × aB)) (x:Int):ByteArray:=match fx l x with
 | []=>⟨#[]⟩
 | p :: _=>p.2.2
theorem Fa (l:List (Nat × aB)) (i:Nat) (e:aB) (x:Int):fx (l ++ [(i,e)]) x=if e.1=x then fx l x ++ [(i,e)] else fx l x:=by unfold fx;rw[wJ];by_cases h:e.1=x <;> simp[h]
theorem sG (l:List (Nat × aB)) (x:Int):dP l x = -1 ↔ fx l x=[]:=by
 unfold dP;split;·simp[*]
 ·rename_i p h;simp[h]
 rename_i h1 h2;constructor
 ·intro h;omega
 intro h;exact absurd h h1
theorem Qf (l:List (Nat × aB)) (i:Nat) (e:aB) (x:Int):dP (l ++ [(i,e)]) x=if e.1=x then (if dP l x = -1 then (i:Int) else -2) else dP l x:=by
 by_cases h:e.1=x
 ·rw[aN h];by_cases hn:fx l x=[]
  ·rw[aN ((sG l x).2 hn)];unfold dP;rw[Fa,aN h,hn];rfl
  rw[aM (fun h'=>hn ((sG l x).1 h'))];unfold dP;rw[Fa,aN h];rcases hl:fx l x with _ | ⟨p,_ | ⟨q,r⟩⟩;·exact absurd hl hn
  ·rfl
  rfl
 rw[aM h];unfold dP;rw[Fa,aM h]
theorem Qg (l:List (Nat × aB)) (i:Nat) (e:aB) (x:Int):sF (l ++ [(i,e)]) x=if e.1=x/\dP l x = -1 then e.2 else sF l x:=by
 unfold sF;rw[Fa];by_cases h:e.1=x
 ·rw[aN h];by_cases hn:fx l x=[]
  ·rw[aN ⟨h,(sG l x).2 hn⟩,hn];rfl
  rw[aM (fun h'=>hn ((sG l x).1 h'.2))];rcases hl:fx l x with _ | ⟨p,r⟩;·exact absurd hl hn
  rfl
 rw[aM h,aM (fun h'=>h h'.1)]
theorem Fb (l:List (Nat × aB)) (x:Int):dP l x = -1\/dP l x = -2\/∃ p,fx l x=[p]/\dP l x=p.1:=by
 unfold dP;split;·exact Or.inl rfl
 ·exact Or.inr (Or.inr ⟨_,by assumption,rfl⟩)
 exact Or.inr (Or.inl rfl)
def gT (p:Int->Int):Nat->Int->Bool
 | 0,i=>i == 0
 | n+1,i=>if i=0 then true else if i<0 then false else gT p n (p i)
theorem Qh (p:Int->Int) (n:Nat):gT p n 0=true:=by cases n <;> simp[gT]
theorem BS (p:Int->Int) (n:Nat) (i:Int) (h:i<0):gT p n i=false:=by
 cases n with
 | zero=>simp[gT];omega
 | succ n=>rw[gT,aM (by omega),aN h]
theorem BV (p:Int->Int) (n:Nat) (i:Int) (h:0<i):gT p (n+1) i=gT p n (p i):=by rw[gT,aM (by omega),aM (by omega)]
def mS (E:Nat->List aB) (K:Nat->Int) (i:Nat):Bool:=((K i == 0) == (dP (cK E 8) i == -1)) && (K i == 0 || gT (dP (cK E 8)) 8 i)
def iz (E:Nat->List aB) (K:Nat->Int):Bool:=(List.range 7).all fun j=>mS E K (j+1)
theorem zK {E:Nat->List aB} {K:Nat->Int}:iz E K=true ↔ ∀ i,0<i->i<8->mS E K i=true:=by
 unfold iz;rw[oz];constructor
 ·intro h i h0 h8;have:=h (i-1) (kY.2 (by omega));rwa [show i-1+1=i by omega] at this
 intro h j hj;have:=kY.1 hj;exact h _ (by omega) (by omega)
def sH (F:Nat->Nat) (K:Nat->Int) (i:Nat):Bool:=decide (F i=if K i=0 then 0 else 1)
def qZ (F:Nat->Nat) (K:Nat->Int):Bool:=(List.range 7).all fun j=>sH F K (j+1)
theorem BW {F:Nat->Nat} {K:Nat->Int}:qZ F K=true ↔ ∀ i,0<i->i<8->sH F K i=true:=by
 unfold qZ;rw[oz];constructor
 ·intro h i h0 h8;have:=h (i-1) (kY.2 (by omega));rwa [show i-1+1=i by omega] at this
 intro h j hj;have:=kY.1 hj;exact h _ (by omega) (by omega)
def jQ (d:Nat):ByteArray:=if d=0 then ⟨#[]⟩ else ⟨#[47]⟩
def fy (E:Nat->List aB):Nat->Nat->ByteArray->Prop
 | x,0,p=>x=0/\p=⟨#[47]⟩
 | x,k+1,p=>∃ d q nm,fy E d k q/\((x:Int),nm) ∈ E d/\p=q++jQ d++nm
theorem fy.zero {E:Nat->List aB}:fy E 0 0 ⟨#[47]⟩:=⟨rfl,rfl⟩
theorem fy.down {E:Nat->List aB} {d k:Nat} {q:ByteArray} {x:Nat} {nm:ByteArray} (h:fy E d k q) (hm:((x:Int),nm) ∈ E d):fy E x (k+1) (q++jQ d++nm):=⟨d,q,nm,h,hm,rfl⟩
theorem fy.or {E:Nat->List aB} {x:Nat} {p:ByteArray}:∀ {k:Nat},fy E x k p->(x=0/\k=0/\p=⟨#[47]⟩)\/∃ d k' q nm,k=k'+1/\fy E d k' q/\((x:Int),nm) ∈ E d/\p=q++jQ d++nm
 | 0,h=>Or.inl ⟨h.1,rfl,h.2⟩
 | k+1,⟨d,q,nm,h,hm,e⟩=>Or.inr ⟨d,k,q,nm,rfl,h,hm,e⟩
theorem fy.ind {E:Nat->List aB} {motive:(x k:Nat)->(p:ByteArray)->fy E x k p->Prop} (zero:motive 0 0 ⟨#[47]⟩ fy.zero) (down:∀ {d k:Nat} {q:ByteArray} {x:Nat} {nm:ByteArray} (hd:fy E d k q) (hm:((x:Int),nm) ∈ E d),motive d k q hd->motive x (k+1) (q++jQ d++nm) (fy.down hd hm)):∀ {x k:Nat} {p:ByteArray} (h:fy E x k p),motive x k p h
 | x,0,p,h=>by obtain ⟨rfl,rfl⟩:=h;exact zero
 | x,k+1,p,h=>by obtain ⟨d,q,nm,hd,hm,rfl⟩:=h;exact down hd hm (fy.ind zero down hd)
def kf (S:List (Nat × Nat)) (d:Nat):Nat:=(S.filter fun q=>q.1 == d).length
def lQ (S:List (Nat × Nat)) (d:Nat):Bool:=S.any fun q=>q.1 == d
def sI (l:List aB) (x:Nat):Nat:=(l.filter fun e=>e.1 == (x:Int)).length
def xj (E:Nat->List aB) (S:List (Nat × Nat)) (x:Nat):Nat:=(S.map fun q=>sI ((E q.1).take q.2) x).sum
def sJ (E:Nat->List aB) (c:Nat->Nat) (x:Nat):Nat:=((fx (cK E 8) x).map fun p=>c p.1).sum
def BX (E:Nat->List aB):List (Nat × Nat)->Prop
 | []=>True
 | [q]=>q.1=0
 | q :: q' :: r=>(∃ nm,((q.1:Int),nm) ∈ E q'.1)/\0<q.1/\BX E (q' :: r)
structure fS (E:Nat->List aB) (K:Nat->Int) (S:List (Nat × Nat)) (F:Nat->Nat) (P:Nat->ByteArray):Prop where
 lt:∀ q ∈ S,q.1<8/\q.2<=(E q.1).length
 nodup:(S.map (·.1)).Nodup
 chain:BX E S
 G8:∃ c:Nat->Nat,(∀ x:Nat,F x=sJ E c x+xj E S x)/\(∀ d,K d=2->0<d->c d+kf S d=F d)/\c 0+kf S 0=1
 at_:∀ x,0<F x->∃ k,k<=8/\fy E x k (P x)
 C6:∀ S1 q S2,S=S1++q :: S2->fy E q.1 S2.length (P q.1)
 zero:P 0=⟨#[47]⟩
variable {E : Nat → List aB} {K : Nat → Int} {S R : List (Nat × Nat)} {F : Nat → Nat} {P : Nat → ByteArray} {d n x : Nat}
theorem fS.len (h:fS E K S F P):S.length<=8:=by
 have:=List.Nodup.length_le_of_subset (l₂:=List.range 8) h.nodup (fun y hy=>by obtain ⟨q,hq,rfl⟩:=sq.1 hy;exact kY.2 (h.lt q hq).1)
 simpa using this
theorem abz (x:Nat):sJ E (fun _=>0) x=0:=by
 unfold sJ;induction fx (cK E 8) x with
 | nil=>rfl
 | cons a l ih=>simp[ih]
theorem abA:fS E K [(0,0)] (fun _=>0) (fun i=>if i=0 then ⟨#[47]⟩ else ⟨#[]⟩):=by
 refine ⟨fun q hq=>?_,by simp,rfl,⟨fun _=>0,fun x=>?_,fun d _ hd=>?_,rfl⟩,fun x h=>absurd h (by omega),fun S1 q S2 e=>?_,rfl⟩
 ·simp only[pK] at hq;subst hq;exact ⟨by decide,bh _⟩
 ·rw[abz];simp[xj,sI]
 ·have:kf [(0,0)] d=0:=by
   have:¬ (0=d):=by omega
   simp[kf,this]
  rw[this]
 rcases S1 with _ | ⟨a,_ | ⟨b,l⟩⟩
 ·simp only[qE,Bi] at e;obtain ⟨rfl,rfl⟩:=e;exact fy.zero
 ·simp at e
 simp at e
theorem abB (l:List aB) (k y:Nat) (h:k<l.length):sI (l.take (k+1)) y=sI (l.take k) y+if (bl l k).1=(y:Int) then 1 else 0:=by unfold sI;rw[mq h,wJ,de,mQ _ _ h];by_cases e:l[k].1=(y:Int) <;> simp[e]
theorem Qi (h:lQ S x=false):∀ q ∈ S,q.1≠x:=by intro q hq e;have:=List.any_eq_false.1 h q hq;simp[e] at this
theorem Qj (d n m:Nat) (R:List (Nat × Nat)) (y:Nat):kf ((d,n) :: R) y=kf ((d,m) :: R) y:=by unfold kf;by_cases e:d=y <;> simp[Ik,e]
def nQ (F:Nat->Nat) (x:Nat):Nat->Nat:=fun y=>if y=x then F y+1 else F y
def nS (P:Nat->ByteArray) (x:Nat) (p:ByteArray):Nat->ByteArray:=fun y=>if y=x then p else P y
theorem BY {l:List aB} {k:Nat} (h:k<l.length):bl l k ∈ l:=by rw[mQ _ _ h];exact ny h
theorem abC {a b:Nat × Nat} {R S1 S2:List (Nat × Nat)} {q:Nat × Nat} (e:a :: R=S1++q :: S2):(S1=[]/\q=a/\S2=R)\/∃ S3,S1=a :: S3/\b :: R=(b :: S3)++q :: S2:=by
 rcases S1 with _ | ⟨y,S3⟩
 ·simp only[qE,Bi] at e;exact Or.inl ⟨rfl,e.1.symm,e.2.symm⟩
 simp only[qJ,Bi] at e;obtain ⟨rfl,rfl⟩:=e;exact Or.inr ⟨S3,rfl,rfl⟩
theorem Qk {a b:Nat × Nat} (e:a.1=b.1) (h:BX E (a :: R)):BX E (b :: R):=by
 cases R with
 | nil=>
  have:a.1=0:=h;exact (e.symm.trans this:b.1=0)
 | cons q r=>
  obtain ⟨h1,h2,h3⟩:=h;exact ⟨e ▸ h1,e ▸ h2,h3⟩
theorem Ql (h:fS E K ((d,n) :: R) F P) (hn:n<(E d).length) (hx:(bl (E d) n).1=(x:Int)) (hm:lQ ((d,n) :: R) x=false):fy E x (R.length+1) (P d++jQ d++(bl (E d) n).2):=by refine fy.down (h.C6 [] (d,n) R rfl) ?_;have:=BY hn;rw[<- hx];exact this
theorem Qm (h:fS E K ((d,n) :: R) F P) (hm:lQ ((d,n) :: R) x=false) (p:ByteArray) (S1:List (Nat × Nat)) (q:Nat × Nat) (S2:List (Nat × Nat)) (e:(d,n+1) :: R=S1++q :: S2):fy E q.1 S2.length (nS P x p q.1):=by
 have hne:=Qi hm;rcases abC (b:=(d,n)) e with ⟨rfl,rfl,rfl⟩ | ⟨S3,rfl,e'⟩
 ·have h1:=hne (d,n) (by simp);have h2:=h.C6 [] (d,n) S2 rfl;rw[nS,aM h1];exact h2
 have h1:=hne q (by rw[e'];simp);have h2:=h.C6 _ q S2 e';rw[nS,aM h1];exact h2
theorem Qn (h:fS E K ((d,n) :: R) F P) (hn:n<(E d).length) (hx:(bl (E d) n).1=(x:Int)) (c:Nat->Nat) (hc:∀ y:Nat,F y=sJ E c y+xj E ((d,n) :: R) y) (y:Nat):nQ F x y=sJ E c y+xj E ((d,n+1) :: R) y:=by
 have e:=hc y;have hs:=abB (E d) n y hn;rw[hx] at hs;simp only[xj,qF,Oe] at e ⊢;rw[hs,nQ];by_cases hy:y=x
 ·subst hy;rw[aN rfl,aN rfl];omega
 have:¬ ((x:Int)=(y:Int)):=by omega
 rw[aM hy,aM this];omega
theorem Qo (h:fS E K ((d,n) :: R) F P) (hn:n<(E d).length) (hx:(bl (E d) n).1=(x:Int)) (hm:lQ ((d,n) :: R) x=false):∀ y,0<nQ F x y->∃ k,k<=8/\fy E y k (nS P x (P d++jQ d++(bl (E d) n).2) y):=by
 intro y hy;by_cases e:y=x
 ·subst e;refine ⟨R.length+1,by have:=h.len;simpa using this,?_⟩;rw[nS,aN rfl];exact Ql h hn hx hm
 rw[nQ,aM e] at hy;rw[nS,aM e];exact h.at_ y hy
theorem fS.file (h:fS E K ((d,n) :: R) F P) (hn:n<(E d).length) (hx:(bl (E d) n).1=(x:Int)) (hm:lQ ((d,n) :: R) x=false) (hK:¬ K x=2) (h0:0<x):fS E K ((d,n+1) :: R) (nQ F x) (nS P x (P d++jQ d++(bl (E d) n).2)):=by
 obtain ⟨c,h1,h2,h3⟩:=h.G8;refine ⟨fun q hq=>?_,h.nodup,Qk (a:=(d,n)) rfl h.chain,⟨c,Qn h hn hx c h1,fun d' hd hp=>?_,by rw[Qj d (n+1) n];exact h3⟩,Qo h hn hx hm,Qm h hm _,by rw[nS,aM (by omega)];exact h.zero⟩
 ·rcases jC.1 hq with rfl | hq;·exact ⟨(h.lt (d,n) (by simp)).1,hn⟩
  exact h.lt q (yW _ hq)
 have e:d'≠x:=fun e=>hK (e ▸ hd);rw[nQ,aM e,Qj d (n+1) n];exact h2 d' hd hp
theorem fS.dir (h:fS E K ((d,n) :: R) F P) (hn:n<(E d).length) (hx:(bl (E d) n).1=(x:Int)) (hm:lQ ((d,n) :: R) x=false) (hK:K x=2) (h0:0<x) (h8:x<8):fS E K ((x,0) :: (d,n+1) :: R) (nQ F x) (nS P x (P d++jQ d++(bl (E d) n).2)):=by
 obtain ⟨c,h1,h2,h3⟩:=h.G8;have hne:=Qi hm;refine ⟨fun q hq=>?_,?_,⟨⟨(bl (E d) n).2,?_⟩,h0,Qk (a:=(d,n)) rfl h.chain⟩,⟨c,fun y=>?_,fun d' hd hp=>?_,?_⟩,Qo h hn hx hm,fun S1 q S2 e=>?_,by rw[nS,aM (by omega)];exact h.zero⟩
 ·rcases jC.1 hq with rfl | hq;·exact ⟨h8,bh _⟩
  rcases jC.1 hq with rfl | hq;·exact ⟨(h.lt (d,n) (by simp)).1,hn⟩
  exact h.lt q (yW _ hq)
 ·rw[qF,Il];refine ⟨fun hmem=>?_,h.nodup⟩;have hmem':x ∈ ((d,n) :: R).map (·.1):=hmem;obtain ⟨q,hq,e⟩:=sq.1 hmem';exact hne q hq e
 ·have:=BY hn;rw[<- hx];exact this
 ·rw[Qn h hn hx c h1 y];simp[xj,sI]
 ·have ho:kf ((x,0) :: (d,n+1) :: R) d'=(if x=d' then 1 else 0)+kf ((d,n) :: R) d':=by
   unfold kf;by_cases e1:x=d' <;> by_cases e2:d=d' <;> simp[Ik,e1,e2] <;> omega
  rw[ho,nQ];have:=h2 d' hd hp;by_cases e:d'=x
  ·rw[aN e,aN e.symm];omega
  rw[aM e,aM (fun e'=>e e'.symm)];omega
 ·have ho:kf ((x,0) :: (d,n+1) :: R) 0=kf ((d,n) :: R) 0:=by
   have:¬ (x=0):=by omega
   unfold kf;by_cases e2:d=0 <;> simp[Ik,this,e2]
  rw[ho];exact h3
 rcases S1 with _ | ⟨y,S3⟩
 ·simp only[qE,Bi] at e;obtain ⟨rfl,rfl⟩:=e;simp only[fv];rw[nS,aN rfl];exact Ql h hn hx hm
 simp only[qJ,Bi] at e;obtain ⟨rfl,e⟩:=e;exact Qm h hm _ S3 q S2 e
theorem Qp (d y:Nat):∀ m,((fx (cK E m) y).filter fun p=>p.1 == d).length=if d<m then sI (E d) y else 0
 | 0=>by simp[cK,fx]
 | m+1=>by
  have ih:=Qp d y m;unfold fx at ih ⊢;rw[cK,wJ,wJ,de,ih];have e:((((E m).map fun e=>(m,e)).filter fun p=>p.2.1 == (y:Int)).filter fun p=>p.1 == d).length=if m=d then sI (E d) y else 0:=by
   rw[List.filter_map,List.filter_map,Ia];by_cases e:m=d
   ·subst e;rw[aN rfl];unfold sI;rw[List.filter_filter];simp[Function.comp_def]
   rw[aM e,Im,YX];intro a _;simpa [Function.comp_def] using e
  rw[e];by_cases h1:d<m
  ·rw[aN h1,aM (by omega),aN (by omega)];rfl
  ·by_cases h2:m=d
   ·rw[aM h1,aN h2,aN (by omega)];omega
   rw[aM h1,aM h2,aM (by omega)]
theorem abD (c:Nat->Nat) (d:Nat) (l:List (Nat × aB)):(l.map fun p=>(fun i=>if i=d then c i+1 else c i) p.1).sum=(l.map fun p=>c p.1).sum+(l.filter fun p=>p.1 == d).length:=by
 induction l with
 | nil=>rfl
 | cons a l ih=>
  simp only[qF,Oe] at ih ⊢;rw[ih,Ik];by_cases e:a.1=d
  ·simp[e];omega
  ·simp[e];omega
theorem abE (c:Nat->Nat) (hd:d<8) (y:Nat):sJ E (fun i=>if i=d then c i+1 else c i) y=sJ E c y+sI (E d) y:=by have:=abD c d (fx (cK E 8) y);rw[Qp,aN hd] at this;exact this
theorem fS.pop (h:fS E K ((d,n) :: R) F P) (hn:¬ n<(E d).length):fS E K R F P:=by
 obtain ⟨c,h1,h2,h3⟩:=h.G8;have hl:=h.lt (d,n) (by simp);have hnd:d ∉ R.map (·.1)/\(R.map (·.1)).Nodup:=by have:=h.nodup;rw[qF,Il] at this;exact this
 have h0:kf R d=0:=by unfold kf;rw[Im,YX];intro q hq e;exact hnd.1 (sq.2 ⟨q,hq,by simpa using e⟩)
 have hon:∀ d',kf ((d,n) :: R) d'=(if d'=d then 1 else 0)+kf R d':=by
  intro d';unfold kf;by_cases e:d'=d
  ·subst e;simp;omega
  have:¬ (d=d'):=fun e'=>e e'.symm;simp[Ik,e,this]
 refine ⟨fun q hq=>h.lt q (yW _ hq),hnd.2,?_,⟨fun i=>if i=d then c i+1 else c i,fun y=>?_,fun d' hd hp=>?_,?_⟩,h.at_,fun S1 q S2 e=>h.C6 ((d,n) :: S1) q S2 (by rw[e];rfl),h.zero⟩
 ·cases R with
  | nil=>exact trivial
  | cons q r=>exact h.chain.2.2
 ·have e:=h1 y;rw[abE c hl.1];simp only[xj,qF,Oe] at e ⊢;rw[ox (by omega)] at e;omega
 ·have:=h2 d' hd hp;rw[hon] at this;show (if d'=d then c d'+1 else c d')+kf R d'=F d'
  by_cases e:d'=d
  ·rw[aN e] at this ⊢;omega
  rw[aM e] at this ⊢;omega
 rw[hon] at h3;show (if 0=d then c 0+1 else c 0)+kf R 0=1
 by_cases e:0=d
 ·rw[aN e] at h3 ⊢;omega
 rw[aM e] at h3 ⊢;omega
structure sK (E:Nat->List aB) (K:Nat->Int):Prop where
 dir:∀ d,E d ≠ []->K d=2
 ino:∀ d e,e ∈ E d->0<e.1/\e.1<8
theorem abF {c:Nat->Nat} {l:List (Nat × aB)} (h:∀ p ∈ l,c p.1=1):(l.map fun p=>c p.1).sum=l.length:=by
 induction l with
 | nil=>rfl
 | cons a l ih=>
  simp only[qF,Oe,fv];rw[h a (by simp),ih fun p hp=>h p (yW _ hp)];omega
theorem abG {x:Int} {p:Nat × aB} {l:List (Nat × aB)} (h:(fx l x).length=1) (hp:p ∈ l) (hx:p.2.1=x):dP l x=p.1:=by
 have hm:p ∈ fx l x:=yX.2 ⟨hp,by simpa using hx⟩;rcases ho:fx l x with _ | ⟨q,_ | ⟨r,t⟩⟩
 ·rw[ho] at h;simp at h
 ·rw[ho] at hm;simp only[pK] at hm;subst hm;unfold dP;rw[ho]
 rw[ho] at h;simp at h
theorem Fc {e:aB} (h:e ∈ E d) (hd:d<8):(d,e) ∈ cK E 8:=BR.2 ⟨hd,h⟩
theorem fy.lt (hS:sK E K) {k:Nat} {p:ByteArray} (h:fy E x k p):x<8:=by
 rcases h.or with ⟨rfl,_,_⟩ | ⟨d,k',q,nm,_,_,hm,_⟩;·decide
 have:=(hS.ino _ _ hm).2;omega
theorem fS.done (h:fS E K [] F P) (hS:sK E K) (rX:K 0=2):qZ F K=iz E K:=by
 obtain ⟨c,h1,h2,h3⟩:=h.G8;have h1':∀ y:Nat,F y=sJ E c y:=fun y=>by rw[h1 y];rfl
 have hc0:c 0=1:=h3;have h2':∀ d,K d=2->0<d->c d=F d:=fun d a b=>h2 d a b;have hown:∀ (x:Int) (p:Nat × aB),p ∈ fx (cK E 8) x->p.1<8/\p.2 ∈ E p.1/\p.2.1=x/\K p.1=2:=by intro x p hp;obtain ⟨a,b⟩:=yX.1 hp;obtain ⟨i,e⟩:=p;have:=BR.1 a;exact ⟨this.1,this.2,by simpa using b,hS.dir _ (YY this.2)⟩
 apply YU.2;constructor
 ·intro ho;have ho':=BW.1 ho;have hF:∀ i,0<i->i<8->F i=if K i=0 then 0 else 1:=fun i a b=>by simpa [sH] using ho' i a b
  have hc:∀ d,d<8->K d=2->c d=1:=by
   intro d hd hk;by_cases h0:d=0
   ·rw[h0];exact hc0
   rw[h2' d hk (by omega),hF d (by omega) hd,hk,aM (by decide)]
  have hlen:∀ y:Nat,F y=(fx (cK E 8) y).length:=by intro y;rw[h1' y];exact abF fun p hp=>hc _ (hown _ p hp).1 (hown _ p hp).2.2.2
  have aju:∀ (y:Nat) (p:Nat × aB),p ∈ fx (cK E 8) y->(fx (cK E 8) y).length=1:=by
   intro y p hp;obtain ⟨a,b,e,_⟩:=hown _ p hp;have hi:=hS.ino _ _ b;have hy:0<y/\y<8:=by omega
   have hne:(fx (cK E 8) y).length≠0:=by rw[Ne,Im];exact YY hp
   have:=hF y hy.1 hy.2;rw[<- hlen y] at hne ⊢;rw[this] at hne ⊢;by_cases hk:K y=0
   ·rw[aN hk] at hne;exact absurd rfl hne
   rw[aM hk]
  have hroot:∀ {y k:Nat} {p:ByteArray},fy E y k p->∀ m,k<=m->gT (dP (cK E 8)) m y=true:=by
   intro y k p ha;induction ha using fy.ind with
   | zero=>exact fun m _=>Qh _ m
   | @down d k p x nm hd hm ih=>
    intro m hkm;obtain ⟨m',rfl⟩:∃ m',m=m'+1:=⟨m-1,by omega⟩;have hx:=(hS.ino _ _ hm).1;have hdl:=fy.lt hS hd;have hmem:=Fc hm hdl;rw[BV _ _ _ hx,abG (p:=(d,((x:Int),nm))) (aju x (d,((x:Int),nm)) (yX.2 ⟨hmem,by simp⟩)) hmem rfl];exact ih m' (by omega)
  refine zK.2 fun i hi h8=>?_;have wj:=hF i hi h8;unfold mS;by_cases hk:K i=0
  ·have:fx (cK E 8) i=[]:=by
    rw[aN hk,hlen] at wj;exact Im.1 wj
   have hp:=(sG _ _).2 this;simp[hk,hp]
  rw[aM hk] at wj;obtain ⟨k,GK,ha⟩:=h.at_ i (by omega);have hr:=hroot ha 8 GK;have hp:¬ dP (cK E 8) i = -1:=by intro e;have:=(sG _ _).1 e;rw[hlen,this] at wj;simp at wj
  rw[hr,Od,NY,beq_eq_false_iff_ne.2 hk,beq_eq_false_iff_ne.2 hp];rfl
 intro ht;have ht':=zK.1 ht;have hone:∀ i,0<i->i<8->(K i=0 ↔ dP (cK E 8) i = -1)/\(K i≠0->gT (dP (cK E 8)) 8 i=true):=by
  intro i a b;have:=ht' i a b;unfold mS at this;simp only[ca,tH,nx] at this;refine ⟨?_,fun hk=>?_⟩
  ·have e:=this.1;constructor
   ·intro hk;rw[hk] at e;simpa using e
   intro hp;rw[hp] at e;simpa using e
  rcases this.2 with hk' | hr;·exact absurd hk' hk
  exact hr
 have hup:∀ m (i:Nat),0<i->i<8->gT (dP (cK E 8)) m i=true->F i=1:=by
  intro m;induction m with
  | zero=>
   intro i a b hr;simp only[gT,tH] at hr;omega
  | succ m ih=>
   intro i a b hr;rw[BV _ _ _ (by omega)] at hr;rcases Fb (cK E 8) i with hp | hp | ⟨p,hp,hq⟩
   ·rw[hp,BS _ _ _ (by decide)] at hr;cases hr
   ·rw[hp,BS _ _ _ (by decide)] at hr;cases hr
   ·rw[hq] at hr;obtain ⟨o1,o2,o3,o4⟩:=hown i p (by rw[hp];simp);have wj:F i=c p.1:=by
     rw[h1' i,sJ,hp];simp
    by_cases h0:p.1=0
    ·rw[wj,h0];exact hc0
    rw[wj,h2' _ o4 (by omega)];exact ih _ (by omega) o1 hr
 refine BW.2 fun i hi h8=>?_;obtain ⟨q1,q2⟩:=hone i hi h8;unfold sH;by_cases hk:K i=0
 ·rw[aN hk];have:=(sG _ _).1 (q1.1 hk);simp only[dp];rw[h1' i,sJ,this];rfl
 rw[aM hk];simp only[dp];exact hup 8 i hi h8 (q2 hk)
theorem Qq:∀ {S:List (Nat × Nat)},BX E S->∀ q ∈ S,0<q.1->∃ S1 q' S2,S=S1++q :: q' :: S2/\∃ nm,((q.1:Int),nm) ∈ E q'.1
 | [],_,q,hq,_=>by simp at hq
 | [a],h,q,hq,h0=>by simp only[pK] at hq;subst hq;have:q.1=0:=h;omega
 | a :: b :: r,h,q,hq,h0=>by
  obtain ⟨h1,h2,h3⟩:=h;rcases jC.1 hq with rfl | hq;·exact ⟨[],b,r,rfl,h1⟩
  ·obtain ⟨S1,q',S2,e,hm⟩:=Qq h3 q hq h0;exact ⟨a :: S1,q',S2,by rw[e];rfl,hm⟩
theorem fS.back (h:fS E K ((d,n) :: R) F P) (hS:sK E K) (hn:n<(E d).length) (hx:(bl (E d) n).1=(x:Int)) (hm:lQ ((d,n) :: R) x=true):iz E K=false:=by
 cases ht:iz E K with
 | false=>rfl
 | true=>
  exfalso;have hen:=BY hn;have hi:=hS.ino _ _ hen;have h0:0<x/\x<8:=by omega
  obtain ⟨q,hq,he⟩:=Bd.1 hm;have he':q.1=x:=by simpa using he
  obtain ⟨S1,q',S2,hS2,nm,hmem⟩:=Qq h.chain q hq (by omega);have hd8:=(h.lt (d,n) (by simp)).1;have hq8:=(h.lt q' (by rw[hS2];simp)).1;have hone:=zK.1 ht x h0.1 h0.2;have m1:(d,bl (E d) n) ∈ fx (cK E 8) x:=yX.2 ⟨Fc hen hd8,by simpa using hx⟩;have m2:(q'.1,((q.1:Int),nm)) ∈ fx (cK E 8) x:=yX.2 ⟨Fc hmem hq8,by simp[he']⟩;have wz:∃ p,fx (cK E 8) x=[p]:=by
   unfold mS at hone;simp only[ca,tH,nx] at hone;rcases Fb (cK E 8) x with hp | hp | ⟨p,hp,_⟩
   ·rw[(sG _ _).1 hp] at m1;simp at m1
   ·rcases hone.2 with hk | hr
    ·rw[hk,hp] at hone;simp at hone
    rw[BV _ _ _ (by omega),hp,BS _ _ _ (by decide)] at hr;cases hr
   exact ⟨p,hp⟩
  obtain ⟨p,hp⟩:=wz;rw[hp] at m1 m2;simp only[pK] at m1 m2;have WQ:d=q'.1:=(iw Prod.fst m1).trans (iw Prod.fst m2).symm;have hnd:=h.nodup;rw[hS2] at hnd;have htop:∃ T,S1++q :: q' :: S2=(d,n) :: T:=⟨R,hS2.symm⟩;rw[Ii,qF,qF] at hnd;rcases S1 with _ | ⟨a,S3⟩
  ·obtain ⟨T,hT⟩:=htop;simp only[qE,Bi] at hT;have:q.1=d:=by rw[hT.1]
   simp only[Ob,qE,Il,jC,not_or] at hnd;exact hnd.1.1 (this.trans WQ)
  ·obtain ⟨T,hT⟩:=htop;simp only[qJ,Bi] at hT;have:a.1=d:=by rw[hT.1]
   simp only[qF,qJ,Il,mr,jC,not_or] at hnd;exact hnd.1.2.2.1 (this.trans WQ)
def ju (E:Nat->List aB):List (Nat × Nat)->Nat
 | []=>0
 | q :: R=>((E q.1).length-q.2+1)*16 ^ (8-(R.length+1))+ju E R
theorem abH (hn:n<(E d).length):ju E ((d,n+1) :: R)<ju E ((d,n) :: R):=by
 simp only[ju];have:(E d).length-(n+1)+1<(E d).length-n+1:=by omega
 have hp:0<16 ^ (8-(R.length+1)):=Nat.pow_pos (by decide);have:=Nat.mul_lt_mul_of_pos_right this hp;omega
theorem Qr:ju E R<ju E ((d,n) :: R):=by simp only[ju];have hp:0<16 ^ (8-(R.length+1)):=Nat.pow_pos (by decide);have:=Nat.le_mul_of_pos_left (16 ^ (8-(R.length+1))) (n:=(E d).length-n+1) (by omega);omega
theorem abI (hn:n<(E d).length) (hl:(E x).length<=14) (h8:R.length+2<=8):ju E ((x,0) :: (d,n+1) :: R)<ju E ((d,n) :: R):=by
 simp only[ju,fv];have e:16 ^ (8-(R.length+1))=16*16 ^ (8-(R.length+1+1)):=by rw[show 8-(R.length+1)=(8-(R.length+1+1))+1 by omega,Nat.pow_succ,Nat.mul_comm]
 obtain ⟨m,hm⟩:∃ m,(E d).length-(n+1)+1=m:=⟨_,rfl⟩;have hm':(E d).length-n+1=m+1:=by omega
 rw[hm,hm',e];have hp:0<16 ^ (8-(R.length+1+1)):=Nat.pow_pos (by decide);have hq:((E x).length-0+1)*16 ^ (8-(R.length+1+1))<=15*16 ^ (8-(R.length+1+1)):=Nat.mul_le_mul_right _ (by omega);have:(m+1)*(16*16 ^ (8-(R.length+1+1)))=m*(16*16 ^ (8-(R.length+1+1)))+16*16 ^ (8-(R.length+1+1)):=by rw[Nat.succ_mul]
 omega
end
section
structure dw where
 k:Int
 o:Int
 s:Int
 a:Option Addr
 n:Nat
 c:Nat
 x:ByteArray
 ae:Option Addr
 ne:Nat
 ce:Nat
def dw.ie (d:dw):List Value:=[.int .i64 d.k,.int .i64 d.o,.int .i64 d.s,.slice d.a d.n d.c,.string d.x,.slice d.ae d.ne d.ce]
theorem dw.Ms (d:dw):d.ie.length=6:=rfl
structure eH (B:Nat) (N:Nat->dw) (F:Nat->Nat) (P:Nat->ByteArray) (W:World):Prop where
 node:∀ i,i<8->∀ j (h:j<(N i).ie.length),W.cell? ⟨B,i*6+j,none⟩=some (N i).ie[j]
 uL:∀ i,i<8->W.cell? ⟨B,48+i,none⟩=some (.int .i64 (F i:Int))
 rS:∀ i,i<8->W.cell? ⟨B,56+i,none⟩=some (.string (P i))
 free:∀ j,j<64->W.frozen? ⟨B,j,none⟩=false
 lt:B<W.heap.size
variable {B : Nat} {N : Nat → dw} {F : Nat → Nat} {P : Nat → ByteArray} {w W W' : World}
theorem eH.below {b:Nat} (h:eH B N F P W) (hb:Below b W W') (hB:B<b):eH B N F P W':=⟨fun i hi j hj=>(hb.cell (p:=⟨B,i*6+j,none⟩) hB).trans (h.node i hi j hj),fun i hi=>(hb.cell (p:=⟨B,48+i,none⟩) hB).trans (h.uL i hi),fun i hi=>(hb.cell (p:=⟨B,56+i,none⟩) hB).trans (h.rS i hi),fun j hj=>(hb.frozen (p:=⟨B,j,none⟩) hB).trans (h.free j hj),cv h.lt hb.size⟩
theorem eH.drew (h:eH B N F P W):eH B N F P W.drew:=⟨h.node,h.uL,h.rS,h.free,h.lt⟩
theorem xl {B j k:Nat} (hne:j≠k) (v:Value):(W.setCell ⟨B,j,none⟩ v).cell? ⟨B,k,none⟩=W.cell? ⟨B,k,none⟩:=gH _ _ _ _ (fun x=>hne (uR x).2.1)
theorem eH.akn (h:eH B N F P W) {i:Nat} (hi:i<8) (n:Nat):eH B N (fun y=>if y=i then n else F y) P (W.setCell ⟨B,48+i,none⟩ (aa (n:Int))):=by
 refine ⟨fun k hk j hj=>?_,fun k hk=>?_,fun k hk=>?_,fun j hj=>by rw[iu];exact h.free j hj,by have:=h.lt;simpa [World.setCell] using this⟩
 ·have hj':j<6:=hj;rw[xl (by omega)];exact h.node k hk j hj
 ·by_cases e:k=i
  ·subst e;rw[ov _ _ _ (h.uL k hk),aN rfl]
  rw[xl (by omega),h.uL k hk,aM e]
 rw[xl (by omega)];exact h.rS k hk
theorem eH.VQ (h:eH B N F P W) {i:Nat} (hi:i<8) (p:ByteArray):eH B N F (fun y=>if y=i then p else P y) (W.setCell ⟨B,56+i,none⟩ (.string p)):=by
 refine ⟨fun k hk j hj=>?_,fun k hk=>?_,fun k hk=>?_,fun j hj=>by rw[iu];exact h.free j hj,by have:=h.lt;simpa [World.setCell] using this⟩
 ·have hj':j<6:=hj;rw[xl (by omega)];exact h.node k hk j hj
 ·rw[xl (by omega)];exact h.uL k hk
 by_cases e:k=i
 ·subst e;rw[ov _ _ _ (h.rS k hk),aN rfl]
 rw[xl (by omega),h.rS k hk,aM e]
theorem eH.kind (h:eH B N F P W) {i:Nat} (hi:i<8):ad W B (i*6) (aa (N i).k):=h.node i hi 0 (by simp[dw.ie])
theorem eH.Aw (h:eH B N F P W) {i:Nat} (hi:i<8):ad W B (i*6+5) (.slice (N i).ae (N i).ne (N i).ce):=h.node i hi 5 (by simp[dw.ie])
def Fe (F:Nat->Nat) (K:Nat->Int) (k:Nat):Prop:=∀ i,0<i->i<k->sH F K i=true
theorem abJ {F:Nat->Nat} {K:Nat->Int} {i:Nat} (h0:0<i) (h8:i<8) (h:sH F K i=false):qZ F K=false:=by
 cases h':qZ F K with
 | false=>rfl
 | true=>rw[BW.1 h' i h0 h8] at h;cases h
theorem Jv {a b:Bool} (h:a=b):Ending.returned (.bool a)=.returned (.bool b):=by rw[h]
theorem abK (w:World) (hT:eH B N F P w) (hF:∀ i,i<8->F i<=281474976710656):Calls prog 140 #[ao B 0] w (el (.bool (qZ F (fun i=>(N i).k))) w):=by
 go_enter func140,ntmps140;go_wp2;go_loop [3] (fun i=>∃ k:Nat,0<k/\k<=8/\Fe F (fun i=>(N i).k) k/\i=aa k) (fun i=>8-(intOf i).toNat)
 case atStart=>exact ⟨1,by decide,by decide,fun i h0 h1=>by omega,rfl⟩
 case round=>
 obtain ⟨k,hk0,hk,hok,rfl⟩:=hrel;by_cases hlt:k<8
 ·have x1:=hT.kind hlt;have x2:=hT.uL k hlt;have hF':=hF k hlt;have e1:(0:Int)<=(k:Int):=by omega
  have e2:(k:Int)<8:=by omega
  have hon:sH F (fun i=>(N i).k) k=decide (F k=if (N k).k=0 then 0 else 1):=rfl
  obtain ⟨f,ef⟩:∃ f,F k=f:=⟨_,rfl⟩;obtain ⟨q,eq⟩:∃ q,(N k).k=q:=⟨_,rfl⟩;rw[ef] at x2 hon hF';rw[eq] at x1 hon;have HY:Hid (sH F (fun i=>(N i).k) k=true->Fe F (fun i=>(N i).k) (k+1)):=fun h i h0 h1=>by
   by_cases e:i=k
   ·subst e;exact h
   exact hok i h0 (by omega)
  have HN:Hid (sH F (fun i=>(N i).k) k=false->qZ F (fun i=>(N i).k)=false):=fun h=>abJ hk0 hlt h;clear hok hT hF ef eq;by_cases hq:q=0
  ·rw[aN hq] at hon;subst hq;by_cases hf:f=0
   ·have HS:=HY.out (by rw[hon];simpa using hf);have AN:Hid (Fe F (fun i=>(N i).k) (k+1)):=HS;have g1:((f:Int) != 0)=false:=by simpa using hf
    clear HS hon HN HY;go_wp2;go_round;case rel=>exact ⟨k+1,by omega,by omega,AN.out,by go_num⟩
    case measure=>simp[intOf];omega
   have HS:Hid (qZ F (fun i=>(N i).k)=false):=HN.out (by rw[hon];simpa using hf);have g1:((f:Int) != 0)=true:=by simp;omega
   clear hon HN HY;go_wp2;go_ret;exact ⟨Jv HS.out.symm,rfl⟩
  rw[aM hq] at hon;have g0:(q == 0)=false:=by simpa using hq
  by_cases hf:f=1
  ·have HS:=HY.out (by rw[hon];simpa using hf);have AN:Hid (Fe F (fun i=>(N i).k) (k+1)):=HS;have g1:((f:Int) != 1)=false:=by simp;omega
   clear HS hon HN HY;go_wp2;go_round;case rel=>exact ⟨k+1,by omega,by omega,AN.out,by go_num⟩
   case measure=>simp[intOf];omega
  have HS:Hid (qZ F (fun i=>(N i).k)=false):=HN.out (by rw[hon];simpa using hf);have g1:((f:Int) != 1)=true:=by simp;omega
  clear hon HN HY;go_wp2;go_ret;exact ⟨Jv HS.out.symm,rfl⟩
 obtain rfl:k=8:=by omega
 have HR:Hid (qZ F (fun i=>(N i).k)=true):=BW.2 fun i h0 h8=>hok i h0 h8;clear hok hT hF;go_wp2;go_ret;exact ⟨Jv HR.out.symm,rfl⟩
end
section
variable {B : Nat} {N : Nat → dw} {F : Nat → Nat} {P : Nat → ByteArray} {w W W' : World}
theorem pU {a b:World} {row:Option Nat} (h:a.grownBy b row):a.grownBy b.drew row:=⟨h.os,h.tape,h.output,h.size,h.block⟩
theorem abL (d x:Nat) (nm:ByteArray) (w:World) (hT:eH B N F P w) (hd:d<8) (hx:x<8) (hF:F x<281474976710656) (hpz:(P d).size<=281474976710656) (hnz:nm.size<=281474976710656):Calls prog 189 #[ao B 0,aa (d:Int),.agg #[aa (x:Int),.string nm]] w fun e w'=>e=.returned (.tuple #[])/\eH B N (nQ F x) (nS P x (P d++jQ d++nm)) w'/\w.grownBy w' (some B):=by
 have e1:(0:Int)<=(x:Int):=by omega
 have e2:(x:Int)<8:=by omega
 have e3:(0:Int)<=(d:Int):=by omega
 have e4:(d:Int)<8:=by omega
 have hn:=aA w (.cells #[aa (x:Int),.string nm] 47);have b0:=aY [aa (x:Int),.string nm] w 47;have t0:=hT.below hn hT.lt;have c0:=b0.c0;have c1:=b0.c1;have x0:=t0.uL x hx;have y0:=t0.free (48+x) (by omega);have z0:=t0.rS x hx;have g0:w.grownBy (w.alloc (.cells #[aa (x:Int),.string nm] 47)) (some B):=qK _ _ _;have hw:IntKind.i64.wrap ((F x:Int)+1)=(F x:Int)+1:=by rw[Be];omega
 have t1:=t0.akn hx (F x+1);have eF:(fun y=>if y=x then F x+1 else F y)=nQ F x:=by
  funext y
  unfold nQ;by_cases e:y=x;·rw[aN e,aN e,e]
  rw[aM e,aM e]
 rw[eF] at t1;have eC:(((F x+1:Nat)):Int)=(F x:Int)+1:=by omega
 rw[eC] at t1;have g1:=g0.trans (YZ _ B (48+x) (aa ((F x:Int)+1)));have b1:=b0.aP (B':=B) (by have:=hT.lt;omega) (48+x) (aa ((F x:Int)+1));have d0:=b1.c0;have d1:=b1.c1;have x1:=t1.rS d hd;have y1:=t1.free (56+x) (by omega);have t2:=t1.VQ hx (P d++jQ d++nm);have g2:=g1.trans (YZ _ B (56+x) (.string (P d++jQ d++nm)));have HD:Hid (eH B N (nQ F x) (nS P x (P d++jQ d++nm)) ((((w.alloc (.cells #[aa (x:Int),.string nm] 47)).setCell ⟨B,48+x,none⟩ (aa ((F x:Int)+1)))).setCell ⟨B,56+x,none⟩ (.string (P d++jQ d++nm)))/\w.grownBy ((((w.alloc (.cells #[aa (x:Int),.string nm] 47)).setCell ⟨B,48+x,none⟩ (aa ((F x:Int)+1)))).setCell ⟨B,56+x,none⟩ (.string (P d++jQ d++nm))) (some B)):=⟨t2,g2⟩;clear t2 g2 t1 g1 b1 t0 g0 b0 hT hn eF eC;obtain ⟨f,hf⟩:∃ f,F x=f:=⟨_,rfl⟩;obtain ⟨p,hp⟩:∃ p,P d=p:=⟨_,rfl⟩;have HF:Hid (F x=f):=hf;have HP:Hid (P d=p):=hp;rw[hf] at x0 hw d0 d1 x1 y1 HD hF;rw[hp] at x1 HD hpz ⊢;have s1:¬ (9223372036854775807<p.size):=by omega
 have s2:¬ (9223372036854775807<p.size+1):=by omega
 have s3:¬ (9223372036854775807<p.size+nm.size):=by omega
 have s4:¬ (9223372036854775807<p.size+1+nm.size):=by omega
 clear hf hp;by_cases h0:d=0
 ·subst h0;rw[show jQ 0=⟨#[]⟩ from rfl] at HD ⊢
  go_enter func189,ntmps189;go_wp2;go_region
  go_wp2;go_region
  go_wp2;refine mu (v:=.tuple #[]) (by simp[results,results189,go_sem]) rfl ?_;exact ⟨rfl,HD.out.1.drew.drew,pU (pU HD.out.2)⟩
 have h0':((d:Int) == 0)=false:=by simpa using h0
 rw[show jQ d=⟨#[47]⟩ from aM h0] at HD ⊢
 go_enter func189,ntmps189;go_wp2;go_region
 go_wp2;go_region
 go_wp2;refine mu (v:=.tuple #[]) (by simp[results,results189,go_sem]) rfl ?_;exact ⟨rfl,HD.out.1.drew.drew,pU (pU HD.out.2)⟩
end
abbrev bJ:=Int × Int
def bB (l:List bJ) (i:Nat):bJ:=l.getD i (0,0)
def bN (l:List bJ) (i:Nat):Int:=(bB l i).1
theorem oK (l:List bJ) (i:Nat) (h:i<l.length):bB l i=l[i]:=by simp[bB,List.getD,h]
def jR (l:List bJ) (i j:Nat):List bJ:=(l.set i (bB l j)).set j (bB l i)
theorem tR (l:List bJ) (i j:Nat):(jR l i j).length=l.length:=by simp[jR]
theorem Ca (l:List bJ) (i j k:Nat) (hi:i<l.length) (hj:j<l.length):bB (jR l i j) k=if k=j then bB l i else if k=i then bB l j else bB l k:=by
 by_cases hk:k<l.length
 ·rw[oK _ _ (by rw[tR];exact hk)];unfold jR;rw[Y3,Y3];by_cases e1:k=j;·rw[aN e1.symm,aN e1]
  rw[aM (fun e=>e1 e.symm),aM e1];by_cases e2:k=i;·rw[aN e2.symm,aN e2]
  rw[aM (fun e=>e2 e.symm),aM e2,oK _ _ hk]
 rw[aM (by omega),aM (by omega)];have h1:bB (jR l i j) k=(0,0):=by
  have:(jR l i j).length<=k:=by rw[tR];omega
  simp[bB,List.getD,lL this]
 have h2:bB l k=(0,0):=by simp[bB,List.getD,lL (show l.length<=k by omega)]
 rw[h1,h2]
theorem Ff (l:List bJ) (i j k:Nat) (hi:i<l.length) (hj:j<l.length):bN (jR l i j) k=if k=j then bN l i else if k=i then bN l j else bN l k:=by
 unfold bN;rw[Ca l i j k hi hj];split;·rfl
 split <;> rfl
theorem Cb (l:List bJ) (i j:Nat) (hi:i<l.length) (hj:j<l.length):(jR l i j).Perm l:=by unfold jR;rw[oK l i hi,oK l j hj];exact List.set_set_perm hi hj
def jv (l:List bJ) (n:Nat):Prop:=∀ i,0<i->i<n->bN l ((i-1) / 2)<=bN l i
def vm (l:List bJ) (j:Nat):Prop:=(∀ i,0<i->i<l.length->i≠j->bN l ((i-1) / 2)<=bN l i)/\(0<j->∀ c,0<c->c<l.length->(c-1) / 2=j->bN l ((j-1) / 2)<=bN l c)/\j<l.length
def xm (l:List bJ) (n i:Nat):Prop:=(∀ k,0<k->k<n->(k-1) / 2≠i->bN l ((k-1) / 2)<=bN l k)/\(0<i->∀ c,0<c->c<n->(c-1) / 2=i->bN l ((i-1) / 2)<=bN l c)/\n<=l.length
theorem Qs {l:List bJ} {j:Nat} (h:vm l j) (he:j=0\/¬ bN l j<bN l ((j-1) / 2)):jv l l.length:=by
 intro i h0 hi;by_cases e:i=j
 ·subst e;rcases he with he | he;·omega
  omega
 exact h.1 i h0 hi e
theorem abM {l:List bJ} {j:Nat} (h:vm l j) (hj:0<j) (hl:bN l j<bN l ((j-1) / 2)):vm (jR l ((j-1) / 2) j) ((j-1) / 2):=by
 obtain ⟨h1,h2,h3⟩:=h;have hp:(j-1) / 2<l.length:=by omega
 have hpj:(j-1) / 2<j:=by omega
 have K:=fun k=>Ff l ((j-1) / 2) j k hp h3;refine ⟨fun i h0 hi hne=>?_,fun hp0 c hc0 hc he=>?_,by rw[tR];exact hp⟩
 ·rw[tR] at hi;rw[K,K];by_cases e:i=j
  ·subst e;rw[aM (by omega),aN rfl,aN rfl];omega
  rw[aM e,aM hne];by_cases e1:(i-1) / 2=j
  ·rw[aN e1];exact h2 hj i h0 hi e1
  rw[aM e1];by_cases e2:(i-1) / 2=(j-1) / 2
  ·rw[aN e2];have:=h1 i h0 hi e;rw[e2] at this;omega
  rw[aM e2];exact h1 i h0 hi e
 rw[tR] at hc;rw[K,K];have hg:bN l (((j-1) / 2-1) / 2)<=bN l ((j-1) / 2):=h1 ((j-1) / 2) hp0 hp (by omega);rw[aM (by omega),aM (by omega)];by_cases e:c=j
 ·rw[aN e];exact hg
 rw[aM e,aM (by omega)];have:=h1 c hc0 hc e;rw[he] at this;omega
def jw (l:List bJ) (n i:Nat):Nat:=if 2*i+2<n/\bN l (2*i+2)<bN l (2*i+1) then 2*i+2 else 2*i+1
theorem Fg {l:List bJ} {n i:Nat} (h:2*i+1<n):jw l n i<n/\i<jw l n i/\(jw l n i-1) / 2=i:=by unfold jw;split <;> omega
theorem Qt {l:List bJ} {n i c:Nat} (hc0:0<c) (hc:c<n) (he:(c-1) / 2=i):bN l (jw l n i)<=bN l c:=by
 have:c=2*i+1\/c=2*i+2:=by omega
 unfold jw;rcases this with e | e
 ·subst e;split
  ·rename_i h;omega
  exact Io _
 subst e;split;·exact Io _
 rename_i h;omega
theorem Fh {l:List bJ} {n i:Nat} (h:xm l n i) (he:¬ 2*i+1<n\/¬ bN l (jw l n i)<bN l i):jv l n:=by
 intro k h0 hk;by_cases e:(k-1) / 2=i
 ·rcases he with he | he;·omega
  have:=Qt (l:=l) h0 hk e;rw[e];omega
 exact h.1 k h0 hk e
theorem Jw {l:List bJ} {n i:Nat} (h:xm l n i) (hc:2*i+1<n) (hl:bN l (jw l n i)<bN l i):xm (jR l i (jw l n i)) n (jw l n i):=by
 obtain ⟨h1,h2,h3⟩:=h;obtain ⟨k1,k2,k3⟩:=Fg (l:=l) hc;obtain ⟨j,hj⟩:∃ j,jw l n i=j:=⟨_,rfl⟩;have hle:=fun c h0 hc he=>Qt (l:=l) (n:=n) (i:=i) (c:=c) h0 hc he;rw[hj] at k1 k2 k3 hl hle ⊢;have K:=fun k=>Ff l i j k (by omega) (by omega);refine ⟨fun k h0 hk hne=>?_,fun _ c hc0 hc' he=>?_,by rw[tR];exact h3⟩
 ·rw[K,K,aM hne];by_cases e:k=j
  ·subst e;rw[aN k3,aN rfl];omega
  rw[aM e];by_cases e1:(k-1) / 2=i
  ·rw[aN e1,aM (by omega)];exact hle k h0 hk e1
  rw[aM e1];by_cases e2:k=i
  ·rw[aN e2];subst e2;exact h2 h0 j (by omega) k1 k3
  rw[aM e2];exact h1 k h0 hk e1
 rw[K,K,aM (by omega),aN k3,aM (by omega),aM (by omega)];have:=h1 c hc0 hc' (by omega);rw[he] at this;exact this
theorem abN {l:List bJ} {n:Nat} (h:jv l n):∀ i,i<n->bN l 0<=bN l i:=by
 intro i;induction i using Nat.strongRecOn with
 | _ i ih=>
  intro hi;by_cases h0:i=0
  ·rw[h0];exact Io _
  ·have h1:=h i (by omega) hi;have h2:=ih ((i-1) / 2) (by omega) (by omega);omega
theorem abO {l:List bJ} {m:Nat} (h:jv l l.length) (hm:l.length=m+1):xm (jR l 0 m) m 0:=by refine ⟨fun k h0 hk hne=>?_,fun h=>absurd h (by decide),by rw[tR];omega⟩;rw[Ff _ _ _ _ (by omega) (by omega),Ff _ _ _ _ (by omega) (by omega),aM (by omega),aM (by omega),aM (by omega),aM (by omega)];exact h k h0 (by omega)
theorem abP {l:List bJ} (h:jv l l.length) (r:bJ):vm (l ++ [r]) l.length:=by
 have hk:∀ i,i<l.length->bN (l ++ [r]) i=bN l i:=by intro i hi;unfold bN bB;rw[jl,jl,nD hi]
 refine ⟨fun i h0 hi hne=>?_,fun _ c h0 hc he=>?_,by simp⟩
 ·have hi':i<l.length:=by simp at hi;omega
  rw[hk _ (by omega),hk _ hi'];exact h i h0 hi'
 simp at hc;omega
def Cc (l:List bJ) (k:Int):Bool:=l.any fun r=>decide (r.1<=k/\k<r.1+r.2)
theorem Fi {l:List bJ} {k:Int}:Cc l k=true ↔ ∃ r ∈ l,r.1<=k/\k<r.1+r.2:=by
 unfold Cc;rw[Bd];constructor
 ·rintro ⟨r,hr,h⟩;exact ⟨r,hr,by simpa using h⟩
 rintro ⟨r,hr,h⟩;exact ⟨r,hr,by simpa using h⟩
def sL (l:List bJ) (i:Int) (n:Nat):Bool:=(List.range n).all fun j=>Cc l (i+(j:Int))
theorem Fj {l:List bJ} {i:Int} {n:Nat}:sL l i n=true ↔ ∀ k,i<=k->k<i+(n:Int)->Cc l k=true:=by
 unfold sL;rw[oz];constructor
 ·intro h k h0 h1;have:=h (k-i).toNat (kY.2 (by omega));rwa [show i+((k-i).toNat:Int)=k by omega] at this
 intro h j hj;have:=kY.1 hj;exact h _ (by omega) (by omega)
structure mT (all done rest:List bJ) (i0 i:Int):Prop where
 perm:(done++rest).Perm all
 heap:jv rest rest.length
 low:∀ d ∈ done,∀ r ∈ rest,d.1<=r.1
 not:∀ d ∈ done,¬ (d.1<=i/\i<d.1+d.2)
 yes:∀ k,i0<=k->k<i->Cc all k=true
 le:i0<=i
theorem abQ {l:List bJ} {r:bJ} (h:r ∈ l):∃ i,i<l.length/\bN l i=r.1:=by obtain ⟨i,hi,e⟩:=yQ.1 h;exact ⟨i,hi,by rw[bN,oK l i hi,e]⟩
theorem mT.pop {all done rest:List bJ} {i0 i:Int} {r:bJ} {rest':List bJ} (h:mT all done rest i0 i) (h0:0<rest.length) (hr:r=bB rest 0) (hp:(r :: rest').Perm rest) (hh:jv rest' rest'.length):(r.1<=i/\i<r.1+r.2->mT all (r :: done) rest' i0 (r.1+r.2))/\(¬ (r.1<=i/\i<r.1+r.2)->mT all (r :: done) rest' i0 i):=by
 have hmem:∀ x ∈ rest',x ∈ rest:=fun x hx=>hp.mem_iff.1 (yW _ hx);have hrm:r ∈ rest:=hp.mem_iff.1 (by simp);have hmin:∀ x ∈ rest,r.1<=x.1:=by intro x hx;obtain ⟨j,hj,e⟩:=abQ hx;have:=abN h.heap j hj;rw[e] at this;rw[hr];exact this
 have hperm:(r :: done++rest').Perm all:=by
  refine (List.Perm.trans ?_ h.perm);have:(r :: done++rest').Perm (done++(r :: rest')):=by rw[qJ];exact (Y4 (l₁:=done) (l₂:=rest') (a:=r)).symm
  exact this.trans (hp.append_left done)
 have hlow:∀ d ∈ r :: done,∀ x ∈ rest',d.1<=x.1:=by
  intro d hd x hx;rcases jC.1 hd with rfl | hd;·exact hmin x (hmem x hx)
  exact h.low d hd x (hmem x hx)
 constructor
 ·intro hc;refine ⟨hperm,hh,hlow,fun d hd=>?_,fun k hk0 hk=>?_,by have:=h.le;omega⟩
  ·rcases jC.1 hd with rfl | hd;·omega
   have h1:=h.not d hd;have h2:=h.low d hd r hrm;omega
  by_cases hki:k<i;·exact h.yes k hk0 hki
  exact Fi.2 ⟨r,h.perm.mem_iff.1 (DU _ hrm),by omega,by omega⟩
 intro hc;refine ⟨hperm,hh,hlow,fun d hd=>?_,h.yes,h.le⟩;rcases jC.1 hd with rfl | hd;·exact hc
 exact h.not d hd
theorem mT.alG {all done rest:List bJ} {i0 i:Int} {n:Nat} (h:mT all done rest i0 i) (hi:i0+(n:Int)<=i):sL all i0 n=true:=Fj.2 fun k h0 h1=>h.yes k h0 (by omega)
theorem mT.ak5 {all done:List bJ} {i0 i:Int} {n:Nat} (h:mT all done [] i0 i) (hi:i<i0+(n:Int)):sL all i0 n=false:=by
 cases hc:sL all i0 n with
 | false=>rfl
 | true=>
  exfalso;obtain ⟨r,hr,h1,h2⟩:=Fi.1 (Fj.1 hc i h.le hi);have:=h.perm.mem_iff.2 hr;rw[qH] at this;exact h.not r this ⟨h1,h2⟩
end Go.Proofs.YtgpfmgaidbjcpaaGreatDoor
