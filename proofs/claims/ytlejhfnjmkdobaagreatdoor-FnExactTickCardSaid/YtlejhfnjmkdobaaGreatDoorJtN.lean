/- Joined texts. -/
import Derived.Test.YtlejhfnjmkdobaaGreatDoorJtA
import Derived.Maps.AppendAt
set_option linter.unusedVariables false
set_option linter.unusedSimpArgs false
set_option maxRecDepth 10000
set_option maxHeartbeats 16000000
namespace Go.Proofs.YtlejhfnjmkdobaaGreatDoor
open Go.Proofs.Tryz
namespace TR
open T0 (Ent)
def flat (E:Nat->List Ent):Nat->List (Nat × Ent)
 | 0=>[]
 | i+1=>flat E i++(E i).map fun e=>(i,e)
def pre (E:Nat->List Ent) (i k:Nat):List (Nat × Ent):=flat E i++((E i).take k).map fun e=>(i,e)
theorem pre_zero (E:Nat->List Ent) (i:Nat):pre E i 0=flat E i:=by simp[pre]
theorem pre_all (E:Nat->List Ent) (i:Nat):pre E i (E i).length=flat E (i+1):=by simp[pre,flat]
theorem pre_succ (E:Nat->List Ent) (i k:Nat) (h:k<(E i).length):pre E i (k+1)=pre E i k ++ [(i,T0.ent (E i) k)]:=by
 unfold pre;rw[List.take_succ_eq_append_getElem h,List.map_append,T0.ent_get _ _ h,List.append_assoc];rfl
theorem flat_mem {E:Nat->List Ent} {d:Nat} {e:Ent}:∀ {n:Nat},(d,e) ∈ flat E n ↔ d<n/\e ∈ E d
 | 0=>by simp[flat]
 | n+1=>by
  rw[flat,List.mem_append,flat_mem];simp only[List.mem_map,Prod.mk.injEq];constructor
  ·rintro (⟨h1,h2⟩ | ⟨a,h1,rfl,rfl⟩)
   ·exact ⟨by omega,h2⟩
   ·exact ⟨by omega,h1⟩
  ·rintro ⟨h1,h2⟩
   by_cases h:d=n
   ·subst h
    exact Or.inr ⟨e,h2,rfl,rfl⟩
   ·exact Or.inl ⟨by omega,h2⟩
def own (l:List (Nat × Ent)) (x:Int):List (Nat × Ent):=l.filter fun p=>p.2.1 == x
def par (l:List (Nat × Ent)) (x:Int):Int:=match own l x with
 | []=>-1
 | [p]=>p.1
 | _=>-2
def nam (l:List (Nat × Ent)) (x:Int):ByteArray:=match own l x with
 | []=>⟨#[]⟩
 | p :: _=>p.2.2
theorem own_snoc (l:List (Nat × Ent)) (i:Nat) (e:Ent) (x:Int):own (l ++ [(i,e)]) x=if e.1=x then own l x ++ [(i,e)] else own l x:=by
 unfold own;rw[List.filter_append]
 by_cases h:e.1=x <;> simp[h]
theorem par_nil (l:List (Nat × Ent)) (x:Int):par l x = -1 ↔ own l x=[]:=by
 unfold par
 split
 ·simp[*]
 ·rename_i p h
  simp[h]
 ·rename_i h1 h2
  constructor
  ·intro h
   omega
  ·intro h
   exact absurd h h1
theorem par_step (l:List (Nat × Ent)) (i:Nat) (e:Ent) (x:Int):par (l ++ [(i,e)]) x=if e.1=x then (if par l x = -1 then (i:Int) else -2) else par l x:=by
 by_cases h:e.1=x
 ·rw[if_pos h]
  by_cases hn:own l x=[]
  ·rw[if_pos ((par_nil l x).2 hn)]
   unfold par;rw[own_snoc,if_pos h,hn];rfl
  ·rw[if_neg (fun h'=>hn ((par_nil l x).1 h'))]
   unfold par;rw[own_snoc,if_pos h]
   rcases hl:own l x with _ | ⟨p,_ | ⟨q,r⟩⟩
   ·exact absurd hl hn
   ·rfl
   ·rfl
 ·rw[if_neg h]
  unfold par;rw[own_snoc,if_neg h]
theorem nam_step (l:List (Nat × Ent)) (i:Nat) (e:Ent) (x:Int):nam (l ++ [(i,e)]) x=if e.1=x/\par l x = -1 then e.2 else nam l x:=by
 unfold nam;rw[own_snoc]
 by_cases h:e.1=x
 ·rw[if_pos h]
  by_cases hn:own l x=[]
  ·rw[if_pos ⟨h,(par_nil l x).2 hn⟩,hn]
   rfl
  ·rw[if_neg (fun h'=>hn ((par_nil l x).1 h'.2))]
   rcases hl:own l x with _ | ⟨p,r⟩
   ·exact absurd hl hn
   ·rfl
 ·rw[if_neg h,if_neg (fun h'=>h h'.1)]
theorem par_ge (l:List (Nat × Ent)) (x:Int):par l x = -1\/par l x = -2\/∃ p,own l x=[p]/\par l x=p.1:=by
 unfold par
 split
 ·exact Or.inl rfl
 ·exact Or.inr (Or.inr ⟨_,by assumption,rfl⟩)
 ·exact Or.inr (Or.inl rfl)
def root (p:Int->Int):Nat->Int->Bool
 | 0,i=>i == 0
 | n+1,i=>if i=0 then true else if i<0 then false else root p n (p i)
theorem root_zero (p:Int->Int) (n:Nat):root p n 0=true:=by cases n <;> simp[root]
theorem root_neg (p:Int->Int) (n:Nat) (i:Int) (h:i<0):root p n i=false:=by
 cases n with
 | zero=>simp[root];omega
 | succ n=>rw[root,if_neg (by omega),if_pos h]
theorem root_pos (p:Int->Int) (n:Nat) (i:Int) (h:0<i):root p (n+1) i=root p n (p i):=by rw[root,if_neg (by omega),if_neg (by omega)]
def oneOk (E:Nat->List Ent) (K:Nat->Int) (i:Nat):Bool:=((K i == 0) == (par (flat E 8) i == -1)) && (K i == 0 || root (par (flat E 8)) 8 i)
def treeOk (E:Nat->List Ent) (K:Nat->Int):Bool:=(List.range 7).all fun j=>oneOk E K (j+1)
theorem treeOk_iff {E:Nat->List Ent} {K:Nat->Int}:treeOk E K=true ↔ ∀ i,0<i->i<8->oneOk E K i=true:=by
 unfold treeOk;rw[List.all_eq_true];constructor
 ·intro h i h0 h8
  have:=h (i-1) (List.mem_range.2 (by omega))
  rwa [show i-1+1=i by omega] at this
 ·intro h j hj
  have:=List.mem_range.1 hj;exact h _ (by omega) (by omega)
def once (F:Nat->Nat) (K:Nat->Int) (i:Nat):Bool:=decide (F i=if K i=0 then 0 else 1)
def onceAll (F:Nat->Nat) (K:Nat->Int):Bool:=(List.range 7).all fun j=>once F K (j+1)
theorem onceAll_iff {F:Nat->Nat} {K:Nat->Int}:onceAll F K=true ↔ ∀ i,0<i->i<8->once F K i=true:=by
 unfold onceAll;rw[List.all_eq_true];constructor
 ·intro h i h0 h8
  have:=h (i-1) (List.mem_range.2 (by omega))
  rwa [show i-1+1=i by omega] at this
 ·intro h j hj
  have:=List.mem_range.1 hj;exact h _ (by omega) (by omega)
def sep (d:Nat):ByteArray:=if d=0 then ⟨#[]⟩ else ⟨#[47]⟩
def At (E:Nat->List Ent):Nat->Nat->ByteArray->Prop
 | x,0,p=>x=0/\p=⟨#[47]⟩
 | x,k+1,p=>∃ d q nm,At E d k q/\((x:Int),nm) ∈ E d/\p=q++sep d++nm
theorem At.zero {E:Nat->List Ent}:At E 0 0 ⟨#[47]⟩:=⟨rfl,rfl⟩
theorem At.down {E:Nat->List Ent} {d k:Nat} {q:ByteArray} {x:Nat} {nm:ByteArray} (h:At E d k q) (hm:((x:Int),nm) ∈ E d):At E x (k+1) (q++sep d++nm):=⟨d,q,nm,h,hm,rfl⟩
theorem At.or {E:Nat->List Ent} {x:Nat} {p:ByteArray}:∀ {k:Nat},At E x k p->(x=0/\k=0/\p=⟨#[47]⟩)\/∃ d k' q nm,k=k'+1/\At E d k' q/\((x:Int),nm) ∈ E d/\p=q++sep d++nm
 | 0,h=>Or.inl ⟨h.1,rfl,h.2⟩
 | k+1,⟨d,q,nm,h,hm,e⟩=>Or.inr ⟨d,k,q,nm,rfl,h,hm,e⟩
theorem At.ind {E:Nat->List Ent} {motive:(x k:Nat)->(p:ByteArray)->At E x k p->Prop} (zero:motive 0 0 ⟨#[47]⟩ At.zero) (down:∀ {d k:Nat} {q:ByteArray} {x:Nat} {nm:ByteArray} (hd:At E d k q) (hm:((x:Int),nm) ∈ E d),motive d k q hd->motive x (k+1) (q++sep d++nm) (At.down hd hm)):∀ {x k:Nat} {p:ByteArray} (h:At E x k p),motive x k p h
 | x,0,p,h=>by
  obtain ⟨rfl,rfl⟩:=h;exact zero
 | x,k+1,p,h=>by
  obtain ⟨d,q,nm,hd,hm,rfl⟩:=h;exact down hd hm (At.ind zero down hd)
def onS (S:List (Nat × Nat)) (d:Nat):Nat:=(S.filter fun q=>q.1 == d).length
def metIn (S:List (Nat × Nat)) (d:Nat):Bool:=S.any fun q=>q.1 == d
def heads (l:List Ent) (x:Nat):Nat:=(l.filter fun e=>e.1 == (x:Int)).length
def part (E:Nat->List Ent) (S:List (Nat × Nat)) (x:Nat):Nat:=(S.map fun q=>heads ((E q.1).take q.2) x).sum
def sumC (E:Nat->List Ent) (c:Nat->Nat) (x:Nat):Nat:=((own (flat E 8) x).map fun p=>c p.1).sum
def Chain (E:Nat->List Ent):List (Nat × Nat)->Prop
 | []=>True
 | [q]=>q.1=0
 | q :: q' :: r=>(∃ nm,((q.1:Int),nm) ∈ E q'.1)/\0<q.1/\Chain E (q' :: r)
structure Inv (E:Nat->List Ent) (K:Nat->Int) (S:List (Nat × Nat)) (F:Nat->Nat) (P:Nat->ByteArray):Prop where
 lt:∀ q ∈ S,q.1<8/\q.2<=(E q.1).length
 nodup:(S.map (·.1)).Nodup
 chain:Chain E S
 cnt:∃ c:Nat->Nat,(∀ x:Nat,F x=sumC E c x+part E S x)/\(∀ d,K d=2->0<d->c d+onS S d=F d)/\c 0+onS S 0=1
 at_:∀ x,0<F x->∃ k,k<=8/\At E x k (P x)
 atS:∀ S1 q S2,S=S1++q :: S2->At E q.1 S2.length (P q.1)
 zero:P 0=⟨#[47]⟩
variable {E : Nat → List Ent} {K : Nat → Int} {S R : List (Nat × Nat)} {F : Nat → Nat} {P : Nat → ByteArray} {d n x : Nat}
theorem Inv.len (h:Inv E K S F P):S.length<=8:=by
 have:=List.Nodup.length_le_of_subset (l₂:=List.range 8) h.nodup (fun y hy=>by
  obtain ⟨q,hq,rfl⟩:=List.mem_map.1 hy
  exact List.mem_range.2 (h.lt q hq).1)
 simpa using this
theorem sumC_zero (x:Nat):sumC E (fun _=>0) x=0:=by
 unfold sumC
 induction own (flat E 8) x with
 | nil=>rfl
 | cons a l ih=>simp[ih]
theorem start:Inv E K [(0,0)] (fun _=>0) (fun i=>if i=0 then ⟨#[47]⟩ else ⟨#[]⟩):=by
 refine ⟨fun q hq=>?_,by simp,rfl,⟨fun _=>0,fun x=>?_,fun d _ hd=>?_,rfl⟩,fun x h=>absurd h (by omega),fun S1 q S2 e=>?_,rfl⟩
 ·simp only[List.mem_singleton] at hq
  subst hq;exact ⟨by decide,Nat.zero_le _⟩
 ·rw[sumC_zero]
  simp[part,heads]
 ·have:onS [(0,0)] d=0:=by
   have:¬ (0=d):=by omega
   simp[onS,this]
  rw[this]
 ·rcases S1 with _ | ⟨a,_ | ⟨b,l⟩⟩
  ·simp only[List.nil_append,List.cons.injEq] at e
   obtain ⟨rfl,rfl⟩:=e;exact At.zero
  ·simp at e
  ·simp at e
theorem heads_step (l:List Ent) (k y:Nat) (h:k<l.length):heads (l.take (k+1)) y=heads (l.take k) y+if (T0.ent l k).1=(y:Int) then 1 else 0:=by
 unfold heads;rw[List.take_succ_eq_append_getElem h,List.filter_append,List.length_append,T0.ent_get _ _ h]
 by_cases e:l[k].1=(y:Int) <;> simp[e]
theorem metIn_no (h:metIn S x=false):∀ q ∈ S,q.1≠x:=by
 intro q hq e;have:=List.any_eq_false.1 h q hq;simp[e] at this
theorem onS_top (d n m:Nat) (R:List (Nat × Nat)) (y:Nat):onS ((d,n) :: R) y=onS ((d,m) :: R) y:=by
 unfold onS
 by_cases e:d=y <;> simp[List.filter_cons,e]
def upF (F:Nat->Nat) (x:Nat):Nat->Nat:=fun y=>if y=x then F y+1 else F y
def upP (P:Nat->ByteArray) (x:Nat) (p:ByteArray):Nat->ByteArray:=fun y=>if y=x then p else P y
theorem mem_ent {l:List Ent} {k:Nat} (h:k<l.length):T0.ent l k ∈ l:=by
 rw[T0.ent_get _ _ h];exact List.getElem_mem h
theorem suffix_cons {a b:Nat × Nat} {R S1 S2:List (Nat × Nat)} {q:Nat × Nat} (e:a :: R=S1++q :: S2):(S1=[]/\q=a/\S2=R)\/∃ S3,S1=a :: S3/\b :: R=(b :: S3)++q :: S2:=by
 rcases S1 with _ | ⟨y,S3⟩
 ·simp only[List.nil_append,List.cons.injEq] at e
  exact Or.inl ⟨rfl,e.1.symm,e.2.symm⟩
 ·simp only[List.cons_append,List.cons.injEq] at e
  obtain ⟨rfl,rfl⟩:=e;exact Or.inr ⟨S3,rfl,rfl⟩
theorem chain_top {a b:Nat × Nat} (e:a.1=b.1) (h:Chain E (a :: R)):Chain E (b :: R):=by
 cases R with
 | nil=>
  have:a.1=0:=h;exact (e.symm.trans this:b.1=0)
 | cons q r=>
  obtain ⟨h1,h2,h3⟩:=h;exact ⟨e ▸ h1,e ▸ h2,h3⟩
theorem step_at (h:Inv E K ((d,n) :: R) F P) (hn:n<(E d).length) (hx:(T0.ent (E d) n).1=(x:Int)) (hm:metIn ((d,n) :: R) x=false) :
  At E x (R.length+1) (P d++sep d++(T0.ent (E d) n).2):=by
 refine At.down (h.atS [] (d,n) R rfl) ?_;have:=mem_ent hn;rw[<- hx];exact this
theorem step_old (h:Inv E K ((d,n) :: R) F P) (hm:metIn ((d,n) :: R) x=false) (p:ByteArray) (S1:List (Nat × Nat)) (q:Nat × Nat) (S2:List (Nat × Nat)) (e:(d,n+1) :: R=S1++q :: S2):At E q.1 S2.length (upP P x p q.1):=by
 have hne:=metIn_no hm
 rcases suffix_cons (b:=(d,n)) e with ⟨rfl,rfl,rfl⟩ | ⟨S3,rfl,e'⟩
 ·have h1:=hne (d,n) (by simp)
  have h2:=h.atS [] (d,n) S2 rfl;rw[upP,if_neg h1];exact h2
 ·have h1:=hne q (by rw[e'];simp)
  have h2:=h.atS _ q S2 e';rw[upP,if_neg h1];exact h2
theorem step_cnt (h:Inv E K ((d,n) :: R) F P) (hn:n<(E d).length) (hx:(T0.ent (E d) n).1=(x:Int)) (c:Nat->Nat) (hc:∀ y:Nat,F y=sumC E c y+part E ((d,n) :: R) y) (y:Nat):upF F x y=sumC E c y+part E ((d,n+1) :: R) y:=by
 have e:=hc y;have hs:=heads_step (E d) n y hn;rw[hx] at hs;simp only[part,List.map_cons,List.sum_cons] at e ⊢;rw[hs,upF]
 by_cases hy:y=x
 ·subst hy
  rw[if_pos rfl,if_pos rfl];omega
 ·have:¬ ((x:Int)=(y:Int)):=by omega
  rw[if_neg hy,if_neg this];omega
theorem step_found (h:Inv E K ((d,n) :: R) F P) (hn:n<(E d).length) (hx:(T0.ent (E d) n).1=(x:Int)) (hm:metIn ((d,n) :: R) x=false):∀ y,0<upF F x y->∃ k,k<=8/\At E y k (upP P x (P d++sep d++(T0.ent (E d) n).2) y):=by
 intro y hy
 by_cases e:y=x
 ·subst e
  refine ⟨R.length+1,by have:=h.len;simpa using this,?_⟩;rw[upP,if_pos rfl];exact step_at h hn hx hm
 ·rw[upF,if_neg e] at hy
  rw[upP,if_neg e];exact h.at_ y hy
theorem Inv.file (h:Inv E K ((d,n) :: R) F P) (hn:n<(E d).length) (hx:(T0.ent (E d) n).1=(x:Int)) (hm:metIn ((d,n) :: R) x=false) (hK:¬ K x=2) (h0:0<x) :
  Inv E K ((d,n+1) :: R) (upF F x) (upP P x (P d++sep d++(T0.ent (E d) n).2)):=by
 obtain ⟨c,h1,h2,h3⟩:=h.cnt;refine ⟨fun q hq=>?_,h.nodup,chain_top (a:=(d,n)) rfl h.chain,⟨c,step_cnt h hn hx c h1,fun d' hd hp=>?_,by rw[onS_top d (n+1) n];exact h3⟩,step_found h hn hx hm,step_old h hm _,by rw[upP,if_neg (by omega)];exact h.zero⟩
 ·rcases List.mem_cons.1 hq with rfl | hq
  ·exact ⟨(h.lt (d,n) (by simp)).1,hn⟩
  ·exact h.lt q (List.mem_cons_of_mem _ hq)
 ·have e:d'≠x:=fun e=>hK (e ▸ hd)
  rw[upF,if_neg e,onS_top d (n+1) n];exact h2 d' hd hp
theorem Inv.dir (h:Inv E K ((d,n) :: R) F P) (hn:n<(E d).length) (hx:(T0.ent (E d) n).1=(x:Int)) (hm:metIn ((d,n) :: R) x=false) (hK:K x=2) (h0:0<x) (h8:x<8) :
  Inv E K ((x,0) :: (d,n+1) :: R) (upF F x) (upP P x (P d++sep d++(T0.ent (E d) n).2)):=by
 obtain ⟨c,h1,h2,h3⟩:=h.cnt;have hne:=metIn_no hm;refine ⟨fun q hq=>?_,?_,⟨⟨(T0.ent (E d) n).2,?_⟩,h0,chain_top (a:=(d,n)) rfl h.chain⟩,⟨c,fun y=>?_,fun d' hd hp=>?_,?_⟩,step_found h hn hx hm,fun S1 q S2 e=>?_,by rw[upP,if_neg (by omega)];exact h.zero⟩
 ·rcases List.mem_cons.1 hq with rfl | hq
  ·exact ⟨h8,Nat.zero_le _⟩
  ·rcases List.mem_cons.1 hq with rfl | hq
   ·exact ⟨(h.lt (d,n) (by simp)).1,hn⟩
   ·exact h.lt q (List.mem_cons_of_mem _ hq)
 ·rw[List.map_cons,List.nodup_cons]
  refine ⟨fun hmem=>?_,h.nodup⟩;have hmem':x ∈ ((d,n) :: R).map (·.1):=hmem;obtain ⟨q,hq,e⟩:=List.mem_map.1 hmem';exact hne q hq e
 ·have:=mem_ent hn
  rw[<- hx];exact this
 ·rw[step_cnt h hn hx c h1 y]
  simp[part,heads]
 ·have ho:onS ((x,0) :: (d,n+1) :: R) d'=(if x=d' then 1 else 0)+onS ((d,n) :: R) d':=by
   unfold onS
   by_cases e1:x=d' <;> by_cases e2:d=d' <;> simp[List.filter_cons,e1,e2] <;> omega
  rw[ho,upF];have:=h2 d' hd hp
  by_cases e:d'=x
  ·rw[if_pos e,if_pos e.symm]
   omega
  ·rw[if_neg e,if_neg (fun e'=>e e'.symm)]
   omega
 ·have ho:onS ((x,0) :: (d,n+1) :: R) 0=onS ((d,n) :: R) 0:=by
   have:¬ (x=0):=by omega
   unfold onS
   by_cases e2:d=0 <;> simp[List.filter_cons,this,e2]
  rw[ho];exact h3
 ·rcases S1 with _ | ⟨y,S3⟩
  ·simp only[List.nil_append,List.cons.injEq] at e
   obtain ⟨rfl,rfl⟩:=e;simp only[List.length_cons];rw[upP,if_pos rfl];exact step_at h hn hx hm
  ·simp only[List.cons_append,List.cons.injEq] at e
   obtain ⟨rfl,e⟩:=e;exact step_old h hm _ S3 q S2 e
theorem heads_flat (d y:Nat):∀ m,((own (flat E m) y).filter fun p=>p.1 == d).length=if d<m then heads (E d) y else 0
 | 0=>by simp[flat,own]
 | m+1=>by
  have ih:=heads_flat d y m;unfold own at ih ⊢;rw[flat,List.filter_append,List.filter_append,List.length_append,ih]
  have e:((((E m).map fun e=>(m,e)).filter fun p=>p.2.1 == (y:Int)).filter fun p=>p.1 == d).length=if m=d then heads (E d) y else 0:=by
   rw[List.filter_map,List.filter_map,List.length_map]
   by_cases e:m=d
   ·subst e
    rw[if_pos rfl];unfold heads;rw[List.filter_filter];simp[Function.comp_def]
   ·rw[if_neg e,List.length_eq_zero_iff,List.filter_eq_nil_iff]
    intro a _
    simpa [Function.comp_def] using e
  rw[e]
  by_cases h1:d<m
  ·rw[if_pos h1,if_neg (by omega),if_pos (by omega)]
   rfl
  ·by_cases h2:m=d
   ·rw[if_neg h1,if_pos h2,if_pos (by omega)]
    omega
   ·rw[if_neg h1,if_neg h2,if_neg (by omega)]
theorem sum_up (c:Nat->Nat) (d:Nat) (l:List (Nat × Ent)):(l.map fun p=>(fun i=>if i=d then c i+1 else c i) p.1).sum=(l.map fun p=>c p.1).sum+(l.filter fun p=>p.1 == d).length:=by
 induction l with
 | nil=>rfl
 | cons a l ih=>
  simp only[List.map_cons,List.sum_cons] at ih ⊢;rw[ih,List.filter_cons]
  by_cases e:a.1=d
  ·simp[e]
   omega
  ·simp[e]
   omega
theorem sumC_up (c:Nat->Nat) (hd:d<8) (y:Nat):sumC E (fun i=>if i=d then c i+1 else c i) y=sumC E c y+heads (E d) y:=by
 have:=sum_up c d (own (flat E 8) y);rw[heads_flat,if_pos hd] at this;exact this
theorem Inv.pop (h:Inv E K ((d,n) :: R) F P) (hn:¬ n<(E d).length):Inv E K R F P:=by
 obtain ⟨c,h1,h2,h3⟩:=h.cnt;have hl:=h.lt (d,n) (by simp)
 have hnd:d ∉ R.map (·.1)/\(R.map (·.1)).Nodup:=by
  have:=h.nodup;rw[List.map_cons,List.nodup_cons] at this;exact this
 have h0:onS R d=0:=by
  unfold onS;rw[List.length_eq_zero_iff,List.filter_eq_nil_iff];intro q hq e;exact hnd.1 (List.mem_map.2 ⟨q,hq,by simpa using e⟩)
 have hon:∀ d',onS ((d,n) :: R) d'=(if d'=d then 1 else 0)+onS R d':=by
  intro d';unfold onS
  by_cases e:d'=d
  ·subst e
   simp;omega
  ·have:¬ (d=d'):=fun e'=>e e'.symm
   simp[List.filter_cons,e,this]
 refine ⟨fun q hq=>h.lt q (List.mem_cons_of_mem _ hq),hnd.2,?_,⟨fun i=>if i=d then c i+1 else c i,fun y=>?_,fun d' hd hp=>?_,?_⟩,h.at_,fun S1 q S2 e=>h.atS ((d,n) :: S1) q S2 (by rw[e];rfl),h.zero⟩
 ·cases R with
  | nil=>exact trivial
  | cons q r=>exact h.chain.2.2
 ·have e:=h1 y
  rw[sumC_up c hl.1];simp only[part,List.map_cons,List.sum_cons] at e ⊢;rw[List.take_of_length_le (by omega)] at e;omega
 ·have:=h2 d' hd hp
  rw[hon] at this
  show (if d'=d then c d'+1 else c d')+onS R d'=F d'
  by_cases e:d'=d
  ·rw[if_pos e] at this ⊢
   omega
  ·rw[if_neg e] at this ⊢
   omega
 ·rw[hon] at h3
  show (if 0=d then c 0+1 else c 0)+onS R 0=1
  by_cases e:0=d
  ·rw[if_pos e] at h3 ⊢
   omega
  ·rw[if_neg e] at h3 ⊢
   omega
structure Sane (E:Nat->List Ent) (K:Nat->Int):Prop where
 dir:∀ d,E d ≠ []->K d=2
 ino:∀ d e,e ∈ E d->0<e.1/\e.1<8
theorem sum_one {c:Nat->Nat} {l:List (Nat × Ent)} (h:∀ p ∈ l,c p.1=1):(l.map fun p=>c p.1).sum=l.length:=by
 induction l with
 | nil=>rfl
 | cons a l ih=>
  simp only[List.map_cons,List.sum_cons,List.length_cons];rw[h a (by simp),ih fun p hp=>h p (List.mem_cons_of_mem _ hp)];omega
theorem par_one {x:Int} {p:Nat × Ent} {l:List (Nat × Ent)} (h:(own l x).length=1) (hp:p ∈ l) (hx:p.2.1=x):par l x=p.1:=by
 have hm:p ∈ own l x:=List.mem_filter.2 ⟨hp,by simpa using hx⟩
 rcases ho:own l x with _ | ⟨q,_ | ⟨r,t⟩⟩
 ·rw[ho] at h
  simp at h
 ·rw[ho] at hm
  simp only[List.mem_singleton] at hm;subst hm;unfold par;rw[ho]
 ·rw[ho] at h
  simp at h
theorem mem_flat {e:Ent} (h:e ∈ E d) (hd:d<8):(d,e) ∈ flat E 8:=flat_mem.2 ⟨hd,h⟩
theorem At.lt (hS:Sane E K) {k:Nat} {p:ByteArray} (h:At E x k p):x<8:=by
 rcases h.or with ⟨rfl,_,_⟩ | ⟨d,k',q,nm,_,_,hm,_⟩
 ·decide
 ·have:=(hS.ino _ _ hm).2
  omega
theorem Inv.done (h:Inv E K [] F P) (hS:Sane E K) (hK0:K 0=2):onceAll F K=treeOk E K:=by
 obtain ⟨c,h1,h2,h3⟩:=h.cnt
 have h1':∀ y:Nat,F y=sumC E c y:=fun y=>by rw[h1 y];rfl
 have hc0:c 0=1:=h3
 have h2':∀ d,K d=2->0<d->c d=F d:=fun d a b=>h2 d a b
 have hown:∀ (x:Int) (p:Nat × Ent),p ∈ own (flat E 8) x->p.1<8/\p.2 ∈ E p.1/\p.2.1=x/\K p.1=2:=by
  intro x p hp;obtain ⟨a,b⟩:=List.mem_filter.1 hp;obtain ⟨i,e⟩:=p;have:=flat_mem.1 a;exact ⟨this.1,this.2,by simpa using b,hS.dir _ (List.ne_nil_of_mem this.2)⟩
 apply Bool.eq_iff_iff.2
 constructor
 ·intro ho
  have ho':=onceAll_iff.1 ho
  have hF:∀ i,0<i->i<8->F i=if K i=0 then 0 else 1:=fun i a b=>by simpa [once] using ho' i a b
  have hc:∀ d,d<8->K d=2->c d=1:=by
   intro d hd hk
   by_cases h0:d=0
   ·rw[h0]
    exact hc0
   ·rw[h2' d hk (by omega),hF d (by omega) hd,hk,if_neg (by decide)]
  have hlen:∀ y:Nat,F y=(own (flat E 8) y).length:=by
   intro y;rw[h1' y]
   exact sum_one fun p hp=>hc _ (hown _ p hp).1 (hown _ p hp).2.2.2
  have huni:∀ (y:Nat) (p:Nat × Ent),p ∈ own (flat E 8) y->(own (flat E 8) y).length=1:=by
   intro y p hp;obtain ⟨a,b,e,_⟩:=hown _ p hp;have hi:=hS.ino _ _ b
   have hy:0<y/\y<8:=by omega
   have hne:(own (flat E 8) y).length≠0:=by
    rw[Ne,List.length_eq_zero_iff];exact List.ne_nil_of_mem hp
   have:=hF y hy.1 hy.2;rw[<- hlen y] at hne ⊢;rw[this] at hne ⊢
   by_cases hk:K y=0
   ·rw[if_pos hk] at hne
    exact absurd rfl hne
   ·rw[if_neg hk]
  have hroot:∀ {y k:Nat} {p:ByteArray},At E y k p->∀ m,k<=m->root (par (flat E 8)) m y=true:=by
   intro y k p ha
   induction ha using At.ind with
   | zero=>exact fun m _=>root_zero _ m
   | @down d k p x nm hd hm ih=>
    intro m hkm;obtain ⟨m',rfl⟩:∃ m',m=m'+1:=⟨m-1,by omega⟩;have hx:=(hS.ino _ _ hm).1;have hdl:=At.lt hS hd;have hmem:=mem_flat hm hdl;rw[root_pos _ _ _ hx,par_one (p:=(d,((x:Int),nm))) (huni x (d,((x:Int),nm)) (List.mem_filter.2 ⟨hmem,by simp⟩)) hmem rfl];exact ih m' (by omega)
  refine treeOk_iff.2 fun i hi h8=>?_
  have hFi:=hF i hi h8;unfold oneOk
  by_cases hk:K i=0
  ·have:own (flat E 8) i=[]:=by
    rw[if_pos hk,hlen] at hFi;exact List.length_eq_zero_iff.1 hFi
   have hp:=(par_nil _ _).2 this;simp[hk,hp]
  ·rw[if_neg hk] at hFi
   obtain ⟨k,hk8,ha⟩:=h.at_ i (by omega);have hr:=hroot ha 8 hk8
   have hp:¬ par (flat E 8) i = -1:=by
    intro e;have:=(par_nil _ _).1 e;rw[hlen,this] at hFi;simp at hFi
   rw[hr,Bool.or_true,Bool.and_true,beq_eq_false_iff_ne.2 hk,beq_eq_false_iff_ne.2 hp];rfl
 ·intro ht
  have ht':=treeOk_iff.1 ht
  have hone:∀ i,0<i->i<8->(K i=0 ↔ par (flat E 8) i = -1)/\(K i≠0->root (par (flat E 8)) 8 i=true):=by
   intro i a b;have:=ht' i a b;unfold oneOk at this;simp only[Bool.and_eq_true,beq_iff_eq,Bool.or_eq_true] at this;refine ⟨?_,fun hk=>?_⟩
   ·have e:=this.1
    constructor
    ·intro hk
     rw[hk] at e
     simpa using e
    ·intro hp
     rw[hp] at e
     simpa using e
   ·rcases this.2 with hk' | hr
    ·exact absurd hk' hk
    ·exact hr
  have hup:∀ m (i:Nat),0<i->i<8->root (par (flat E 8)) m i=true->F i=1:=by
   intro m
   induction m with
   | zero=>
    intro i a b hr;simp only[root,beq_iff_eq] at hr;omega
   | succ m ih=>
    intro i a b hr;rw[root_pos _ _ _ (by omega)] at hr
    rcases par_ge (flat E 8) i with hp | hp | ⟨p,hp,hq⟩
    ·rw[hp,root_neg _ _ _ (by decide)] at hr
     cases hr
    ·rw[hp,root_neg _ _ _ (by decide)] at hr
     cases hr
    ·rw[hq] at hr
     obtain ⟨o1,o2,o3,o4⟩:=hown i p (by rw[hp];simp)
     have hFi:F i=c p.1:=by
      rw[h1' i,sumC,hp];simp
     by_cases h0:p.1=0
     ·rw[hFi,h0]
      exact hc0
     ·rw[hFi,h2' _ o4 (by omega)]
      exact ih _ (by omega) o1 hr
  refine onceAll_iff.2 fun i hi h8=>?_
  obtain ⟨q1,q2⟩:=hone i hi h8;unfold once
  by_cases hk:K i=0
  ·rw[if_pos hk]
   have:=(par_nil _ _).1 (q1.1 hk);simp only[decide_eq_true_eq];rw[h1' i,sumC,this];rfl
  ·rw[if_neg hk]
   simp only[decide_eq_true_eq];exact hup 8 i hi h8 (q2 hk)
theorem chain_mem:∀ {S:List (Nat × Nat)},Chain E S->∀ q ∈ S,0<q.1->∃ S1 q' S2,S=S1++q :: q' :: S2/\∃ nm,((q.1:Int),nm) ∈ E q'.1
 | [],_,q,hq,_=>by simp at hq
 | [a],h,q,hq,h0=>by
  simp only[List.mem_singleton] at hq;subst hq;have:q.1=0:=h;omega
 | a :: b :: r,h,q,hq,h0=>by
  obtain ⟨h1,h2,h3⟩:=h
  rcases List.mem_cons.1 hq with rfl | hq
  ·exact ⟨[],b,r,rfl,h1⟩
  ·obtain ⟨S1,q',S2,e,hm⟩:=chain_mem h3 q hq h0
   exact ⟨a :: S1,q',S2,by rw[e];rfl,hm⟩
theorem Inv.back (h:Inv E K ((d,n) :: R) F P) (hS:Sane E K) (hn:n<(E d).length) (hx:(T0.ent (E d) n).1=(x:Int)) (hm:metIn ((d,n) :: R) x=true):treeOk E K=false:=by
 cases ht:treeOk E K with
 | false=>rfl
 | true=>
  exfalso
  have hen:=mem_ent hn;have hi:=hS.ino _ _ hen
  have h0:0<x/\x<8:=by omega
  obtain ⟨q,hq,he⟩:=List.any_eq_true.1 hm
  have he':q.1=x:=by simpa using he
  obtain ⟨S1,q',S2,hS2,nm,hmem⟩:=chain_mem h.chain q hq (by omega);have hd8:=(h.lt (d,n) (by simp)).1;have hq8:=(h.lt q' (by rw[hS2];simp)).1;have hone:=treeOk_iff.1 ht x h0.1 h0.2;have m1:(d,T0.ent (E d) n) ∈ own (flat E 8) x:=List.mem_filter.2 ⟨mem_flat hen hd8,by simpa using hx⟩;have m2:(q'.1,((q.1:Int),nm)) ∈ own (flat E 8) x:=List.mem_filter.2 ⟨mem_flat hmem hq8,by simp[he']⟩
  have hpar:∃ p,own (flat E 8) x=[p]:=by
   unfold oneOk at hone;simp only[Bool.and_eq_true,beq_iff_eq,Bool.or_eq_true] at hone
   rcases par_ge (flat E 8) x with hp | hp | ⟨p,hp,_⟩
   ·rw[(par_nil _ _).1 hp] at m1
    simp at m1
   ·rcases hone.2 with hk | hr
    ·rw[hk,hp] at hone
     simp at hone
    ·rw[root_pos _ _ _ (by omega),hp,root_neg _ _ _ (by decide)] at hr
     cases hr
   ·exact ⟨p,hp⟩
  obtain ⟨p,hp⟩:=hpar;rw[hp] at m1 m2;simp only[List.mem_singleton] at m1 m2;have hdq:d=q'.1:=(congrArg Prod.fst m1).trans (congrArg Prod.fst m2).symm;have hnd:=h.nodup;rw[hS2] at hnd;have htop:∃ T,S1++q :: q' :: S2=(d,n) :: T:=⟨R,hS2.symm⟩;rw[List.map_append,List.map_cons,List.map_cons] at hnd
  rcases S1 with _ | ⟨a,S3⟩
  ·obtain ⟨T,hT⟩:=htop
   simp only[List.nil_append,List.cons.injEq] at hT
   have:q.1=d:=by rw[hT.1]
   simp only[List.map_nil,List.nil_append,List.nodup_cons,List.mem_cons,not_or] at hnd;exact hnd.1.1 (this.trans hdq)
  ·obtain ⟨T,hT⟩:=htop
   simp only[List.cons_append,List.cons.injEq] at hT
   have:a.1=d:=by rw[hT.1]
   simp only[List.map_cons,List.cons_append,List.nodup_cons,List.mem_append,List.mem_cons,not_or] at hnd;exact hnd.1.2.2.1 (this.trans hdq)
def left (E:Nat->List Ent):List (Nat × Nat)->Nat
 | []=>0
 | q :: R=>((E q.1).length-q.2+1)*16 ^ (8-(R.length+1))+left E R
theorem left_file (hn:n<(E d).length):left E ((d,n+1) :: R)<left E ((d,n) :: R):=by
 simp only[left]
 have:(E d).length-(n+1)+1<(E d).length-n+1:=by omega
 have hp:0<16 ^ (8-(R.length+1)):=Nat.pow_pos (by decide);have:=Nat.mul_lt_mul_of_pos_right this hp;omega
theorem left_pop:left E R<left E ((d,n) :: R):=by
 simp only[left];have hp:0<16 ^ (8-(R.length+1)):=Nat.pow_pos (by decide);have:=Nat.le_mul_of_pos_left (16 ^ (8-(R.length+1))) (n:=(E d).length-n+1) (by omega);omega
theorem left_dir (hn:n<(E d).length) (hl:(E x).length<=14) (h8:R.length+2<=8):left E ((x,0) :: (d,n+1) :: R)<left E ((d,n) :: R):=by
 simp only[left,List.length_cons]
 have e:16 ^ (8-(R.length+1))=16*16 ^ (8-(R.length+1+1)):=by
  rw[show 8-(R.length+1)=(8-(R.length+1+1))+1 by omega,Nat.pow_succ,Nat.mul_comm]
 obtain ⟨m,hm⟩:∃ m,(E d).length-(n+1)+1=m:=⟨_,rfl⟩
 have hm':(E d).length-n+1=m+1:=by omega
 rw[hm,hm',e];have hp:0<16 ^ (8-(R.length+1+1)):=Nat.pow_pos (by decide);have hq:((E x).length-0+1)*16 ^ (8-(R.length+1+1))<=15*16 ^ (8-(R.length+1+1)):=Nat.mul_le_mul_right _ (by omega)
 have:(m+1)*(16*16 ^ (8-(R.length+1+1)))=m*(16*16 ^ (8-(R.length+1+1)))+16*16 ^ (8-(R.length+1+1)):=by rw[Nat.succ_mul]
 omega
end TR
namespace TW
open ChangeShapes WideShapes ChangeAt RowKit
structure Nd where
 k:Int
 o:Int
 s:Int
 a:Option Addr
 n:Nat
 c:Nat
 x:ByteArray
 ae:Option Addr
 ne:Nat
 ce:Nat
def Nd.vals (d:Nd):List Value:=[.int .i64 d.k,.int .i64 d.o,.int .i64 d.s,.slice d.a d.n d.c,.string d.x,.slice d.ae d.ne d.ce]
theorem Nd.vals_length (d:Nd):d.vals.length=6:=rfl
structure Tb (B:Nat) (N:Nat->Nd) (F:Nat->Nat) (P:Nat->ByteArray) (W:World):Prop where
 node:∀ i,i<8->∀ j (h:j<(N i).vals.length),W.cell? ⟨B,i*6+j,none⟩=some (N i).vals[j]
 fnd:∀ i,i<8->W.cell? ⟨B,48+i,none⟩=some (.int .i64 (F i:Int))
 pth:∀ i,i<8->W.cell? ⟨B,56+i,none⟩=some (.string (P i))
 free:∀ j,j<64->W.frozen? ⟨B,j,none⟩=false
 lt:B<W.heap.size
variable {B : Nat} {N : Nat → Nd} {F : Nat → Nat} {P : Nat → ByteArray} {w W W' : World}
theorem Tb.below {b:Nat} (h:Tb B N F P W) (hb:Below b W W') (hB:B<b):Tb B N F P W':=
 ⟨fun i hi j hj=>(hb.cell (p:=⟨B,i*6+j,none⟩) hB).trans (h.node i hi j hj),fun i hi=>(hb.cell (p:=⟨B,48+i,none⟩) hB).trans (h.fnd i hi),fun i hi=>(hb.cell (p:=⟨B,56+i,none⟩) hB).trans (h.pth i hi),fun j hj=>(hb.frozen (p:=⟨B,j,none⟩) hB).trans (h.free j hj),Nat.lt_of_lt_of_le h.lt hb.size⟩
theorem Tb.drew (h:Tb B N F P W):Tb B N F P W.drew:=⟨h.node,h.fnd,h.pth,h.free,h.lt⟩
theorem Tb.drewN (h:Tb B N F P W) (n:Nat):Tb B N F P (W.drewN n):=⟨h.node,h.fnd,h.pth,h.free,h.lt⟩
theorem cell_far {B j k:Nat} (hne:j≠k) (v:Value):(W.setCell ⟨B,j,none⟩ v).cell? ⟨B,k,none⟩=W.cell? ⟨B,k,none⟩:=World.cell?_setCell_other _ _ _ _ (fun x=>hne (Addr.mk.inj x).2.1)
theorem Tb.setF (h:Tb B N F P W) {i:Nat} (hi:i<8) (n:Nat):Tb B N (fun y=>if y=i then n else F y) P (W.setCell ⟨B,48+i,none⟩ (Iv (n:Int))):=by
 refine ⟨fun k hk j hj=>?_,fun k hk=>?_,fun k hk=>?_,fun j hj=>by rw[World.frozen?_setCell];exact h.free j hj,by have:=h.lt;simpa [World.setCell] using this⟩
 ·have hj':j<6:=hj
  rw[cell_far (by omega)];exact h.node k hk j hj
 ·by_cases e:k=i
  ·subst e
   rw[World.cell?_setCell_same _ _ _ (h.fnd k hk),if_pos rfl]
  ·rw[cell_far (by omega),h.fnd k hk,if_neg e]
 ·rw[cell_far (by omega)]
  exact h.pth k hk
theorem Tb.setP (h:Tb B N F P W) {i:Nat} (hi:i<8) (p:ByteArray):Tb B N F (fun y=>if y=i then p else P y) (W.setCell ⟨B,56+i,none⟩ (.string p)):=by
 refine ⟨fun k hk j hj=>?_,fun k hk=>?_,fun k hk=>?_,fun j hj=>by rw[World.frozen?_setCell];exact h.free j hj,by have:=h.lt;simpa [World.setCell] using this⟩
 ·have hj':j<6:=hj
  rw[cell_far (by omega)];exact h.node k hk j hj
 ·rw[cell_far (by omega)]
  exact h.fnd k hk
 ·by_cases e:k=i
  ·subst e
   rw[World.cell?_setCell_same _ _ _ (h.pth k hk),if_pos rfl]
  ·rw[cell_far (by omega),h.pth k hk,if_neg e]
theorem Tb.kind (h:Tb B N F P W) {i:Nat} (hi:i<8):Ce W B (i*6) (Iv (N i).k):=h.node i hi 0 (by simp[Nd.vals])
theorem Tb.ents (h:Tb B N F P W) {i:Nat} (hi:i<8):Ce W B (i*6+5) (.slice (N i).ae (N i).ne (N i).ce):=h.node i hi 5 (by simp[Nd.vals])
def onceTo (F:Nat->Nat) (K:Nat->Int) (k:Nat):Prop:=∀ i,0<i->i<k->TR.once F K i=true
theorem onceTo_bad {F:Nat->Nat} {K:Nat->Int} {i:Nat} (h0:0<i) (h8:i<8) (h:TR.once F K i=false):TR.onceAll F K=false:=by
 cases h':TR.onceAll F K with
 | false=>rfl
 | true=>rw[TR.onceAll_iff.1 h' i h0 h8] at h;cases h
theorem ret_bool {a b:Bool} (h:a=b):Ending.returned (.bool a)=.returned (.bool b):=by rw[h]
theorem foundOnce (w:World) (hT:Tb B N F P w) (hF:∀ i,i<8->F i<=281474976710656) :
  Calls prog 172 #[Pv B 0] w (Rw (.bool (TR.onceAll F (fun i=>(N i).k))) w):=by
 go_enter func172,ntmps172;go_wp2
 go_loop [3] (fun i=>∃ k:Nat,0<k/\k<=8/\onceTo F (fun i=>(N i).k) k/\i=Iv k) (fun i=>8-(intOf i).toNat)
 case atStart=>exact ⟨1,by decide,by decide,fun i h0 h1=>by omega,rfl⟩
 case round=>
  obtain ⟨k,hk0,hk,hok,rfl⟩:=hrel
  by_cases hlt:k<8
  ·have x1:=hT.kind hlt
   have x2:=hT.fnd k hlt;have hF':=hF k hlt
   have e1:(0:Int)<=(k:Int):=by omega
   have e2:(k:Int)<8:=by omega
   have hon:TR.once F (fun i=>(N i).k) k=decide (F k=if (N k).k=0 then 0 else 1):=rfl
   obtain ⟨f,ef⟩:∃ f,F k=f:=⟨_,rfl⟩;obtain ⟨q,eq⟩:∃ q,(N k).k=q:=⟨_,rfl⟩;rw[ef] at x2 hon hF';rw[eq] at x1 hon
   have HY:Hid (TR.once F (fun i=>(N i).k) k=true->onceTo F (fun i=>(N i).k) (k+1)):=fun h i h0 h1=>by
    by_cases e:i=k
    ·subst e
     exact h
    ·exact hok i h0 (by omega)
   have HN:Hid (TR.once F (fun i=>(N i).k) k=false->TR.onceAll F (fun i=>(N i).k)=false):=fun h=>onceTo_bad hk0 hlt h
   clear hok hT hF ef eq
   by_cases hq:q=0
   ·rw[if_pos hq] at hon
    subst hq
    by_cases hf:f=0
    ·have HS:=HY.out (by rw[hon];simpa using hf)
     have HS':Hid (onceTo F (fun i=>(N i).k) (k+1)):=HS
     have g1:((f:Int) != 0)=false:=by simpa using hf
     clear HS hon HN HY;go_wp2
     go_round
     case rel=>exact ⟨k+1,by omega,by omega,HS'.out,by go_num⟩
     case measure=>simp[intOf];omega
    ·have HS:Hid (TR.onceAll F (fun i=>(N i).k)=false):=HN.out (by rw[hon];simpa using hf)
     have g1:((f:Int) != 0)=true:=by simp;omega
     clear hon HN HY;go_wp2;go_ret;exact ⟨ret_bool HS.out.symm,rfl⟩
   ·rw[if_neg hq] at hon
    have g0:(q == 0)=false:=by simpa using hq
    by_cases hf:f=1
    ·have HS:=HY.out (by rw[hon];simpa using hf)
     have HS':Hid (onceTo F (fun i=>(N i).k) (k+1)):=HS
     have g1:((f:Int) != 1)=false:=by simp;omega
     clear HS hon HN HY;go_wp2
     go_round
     case rel=>exact ⟨k+1,by omega,by omega,HS'.out,by go_num⟩
     case measure=>simp[intOf];omega
    ·have HS:Hid (TR.onceAll F (fun i=>(N i).k)=false):=HN.out (by rw[hon];simpa using hf)
     have g1:((f:Int) != 1)=true:=by simp;omega
     clear hon HN HY;go_wp2;go_ret;exact ⟨ret_bool HS.out.symm,rfl⟩
  ·obtain rfl:k=8:=by omega
   have HR:Hid (TR.onceAll F (fun i=>(N i).k)=true):=TR.onceAll_iff.2 fun i h0 h8=>hok i h0 h8
   clear hok hT hF;go_wp2;go_ret;exact ⟨ret_bool HR.out.symm,rfl⟩
end TW
namespace TW
open ChangeShapes WideShapes ChangeAt RowKit
variable {B : Nat} {N : Nat → Nd} {F : Nat → Nat} {P : Nat → ByteArray} {w W W' : World}
theorem grown_drew {a b:World} {row:Option Nat} (h:a.grownBy b row):a.grownBy b.drew row:=⟨h.os,h.tape,h.output,h.size,h.block⟩
theorem find (d x:Nat) (nm:ByteArray) (w:World) (hT:Tb B N F P w) (hd:d<8) (hx:x<8) (hF:F x<281474976710656) (hpz:(P d).size<=281474976710656) (hnz:nm.size<=281474976710656) :
  Calls prog 200 #[Pv B 0,Iv (d:Int),.agg #[Iv (x:Int),.string nm]] w fun e w'=>e=.returned (.tuple #[])/\Tb B N (TR.upF F x) (TR.upP P x (P d++TR.sep d++nm)) w'/\w.grownBy w' (some B):=by
 have e1:(0:Int)<=(x:Int):=by omega
 have e2:(x:Int)<8:=by omega
 have e3:(0:Int)<=(d:Int):=by omega
 have e4:(d:Int)<8:=by omega
 have hn:=K0.below_new w (.cells #[Iv (x:Int),.string nm] 133);have b0:=K0.blk_new [Iv (x:Int),.string nm] w 133;have t0:=hT.below hn hT.lt;have c0:=b0.c0;have c1:=b0.c1;have x0:=t0.fnd x hx;have y0:=t0.free (48+x) (by omega);have z0:=t0.pth x hx;have g0:w.grownBy (w.alloc (.cells #[Iv (x:Int),.string nm] 133)) (some B):=World.grownBy_alloc _ _ _
 have hw:IntKind.i64.wrap ((F x:Int)+1)=(F x:Int)+1:=by rw[IntKind.wrap_i64];omega
 have t1:=t0.setF hx (F x+1)
 have eF:(fun y=>if y=x then F x+1 else F y)=TR.upF F x:=by
  funext y
  unfold TR.upF
  by_cases e:y=x
  ·rw[if_pos e,if_pos e,e]
  ·rw[if_neg e,if_neg e]
 rw[eF] at t1
 have eC:(((F x+1:Nat)):Int)=(F x:Int)+1:=by omega
 rw[eC] at t1;have g1:=g0.trans (Lib.grownBy_setCell _ B (48+x) (Iv ((F x:Int)+1)));have b1:=b0.setOther (B':=B) (by have:=hT.lt;omega) (48+x) (Iv ((F x:Int)+1));have d0:=b1.c0;have d1:=b1.c1;have x1:=t1.pth d hd;have y1:=t1.free (56+x) (by omega);have t2:=t1.setP hx (P d++TR.sep d++nm);have g2:=g1.trans (Lib.grownBy_setCell _ B (56+x) (.string (P d++TR.sep d++nm)));have HD:Hid (Tb B N (TR.upF F x) (TR.upP P x (P d++TR.sep d++nm)) ((((w.alloc (.cells #[Iv (x:Int),.string nm] 133)).setCell ⟨B,48+x,none⟩ (Iv ((F x:Int)+1)))).setCell ⟨B,56+x,none⟩ (.string (P d++TR.sep d++nm)))/\w.grownBy ((((w.alloc (.cells #[Iv (x:Int),.string nm] 133)).setCell ⟨B,48+x,none⟩ (Iv ((F x:Int)+1)))).setCell ⟨B,56+x,none⟩ (.string (P d++TR.sep d++nm))) (some B)):=⟨t2,g2⟩;clear t2 g2 t1 g1 b1 t0 g0 b0 hT hn eF eC;obtain ⟨f,hf⟩:∃ f,F x=f:=⟨_,rfl⟩;obtain ⟨p,hp⟩:∃ p,P d=p:=⟨_,rfl⟩;have HF:Hid (F x=f):=hf;have HP:Hid (P d=p):=hp;rw[hf] at x0 hw d0 d1 x1 y1 HD hF;rw[hp] at x1 HD hpz ⊢
 have s1:¬ (9223372036854775807<p.size):=by omega
 have s2:¬ (9223372036854775807<p.size+1):=by omega
 have s3:¬ (9223372036854775807<p.size+nm.size):=by omega
 have s4:¬ (9223372036854775807<p.size+1+nm.size):=by omega
 clear hf hp
 by_cases h0:d=0
 ·subst h0
  rw[show TR.sep 0=⟨#[]⟩ from rfl] at HD ⊢
  go_enter func200,ntmps200;go_wp2
  go_region
  go_wp2
  go_region
  go_wp2;refine bodyPost_end (v:=.tuple #[]) (by simp[results,results200,go_sem]) rfl ?_;exact ⟨rfl,HD.out.1.drew.drew,grown_drew (grown_drew HD.out.2)⟩
 ·have h0':((d:Int) == 0)=false:=by simpa using h0
  rw[show TR.sep d=⟨#[47]⟩ from if_neg h0] at HD ⊢
  go_enter func200,ntmps200;go_wp2
  go_region
  go_wp2
  go_region
  go_wp2;refine bodyPost_end (v:=.tuple #[]) (by simp[results,results200,go_sem]) rfl ?_;exact ⟨rfl,HD.out.1.drew.drew,grown_drew (grown_drew HD.out.2)⟩
end TW
end Go.Proofs.YtlejhfnjmkdobaaGreatDoor
