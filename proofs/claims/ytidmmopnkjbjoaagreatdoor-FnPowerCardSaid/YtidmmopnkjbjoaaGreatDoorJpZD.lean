/- Joined texts. -/
import Derived.Test.YtidmmopnkjbjoaaGreatDoorJpZB
import Derived.Test.YtidmmopnkjbjoaaGreatDoorJpZA
set_option linter.unusedVariables false
set_option linter.unusedSimpArgs false
set_option maxRecDepth 10000
set_option maxHeartbeats 16000000
namespace Go.Proofs.YtidmmopnkjbjoaaGreatDoor
open ChangeShapes WideShapes ChangeAt RowKit
open Go.Proofs.Tryz
def mr (s:ByteArray):ByteArray:=if s.size=0 then ⟨#[45]⟩ else Cg s
def vO (n:Int):ByteArray:=⟨(Lib.itoa n).toArray⟩
def vP (k:Int):ByteArray:=if k=2 then ⟨#[100]⟩ else ⟨#[102]⟩
def vQ (ps:List ByteArray):ByteArray:=⟨(Lib.join (ps.map (·.data.toList)) [32]).toArray⟩
def xS (f:cz):List ByteArray:=[vP f.kind,f.path,vO f.owner,mr f.data]
def lG (f:cz):ByteArray:=vQ (xS f) ++ ⟨#[10]⟩
structure kR (w:World):Prop where
 h:Lib.TabIs prog w "loop.example/g00278/impl.hexDigits" .u8 Ci
 p:Lib.TabIs prog w "internal/strconv.uint64pow10" .u64 Lib.pow10Tab
theorem aeR (s:ByteArray) (w:World) (hs:s.size<=70368744177664) (htab:Lib.TabIs prog w "loop.example/g00278/impl.hexDigits" .u8 Ci):Calls prog 108 #[.string s] w fun e w'=>e=.returned (.string (mr s))/\Below w.heap.size w w':=by
 by_cases h:s.size=0
 ·have e:mr s=⟨#[45]⟩:=aF h;have es:s=⟨#[]⟩:=by
   apply gm;exact Array.eq_empty_of_size_eq_zero h
  rw[e];subst es;go_enter func108,ntmps108;go_wp2;go_ret;exact ⟨rfl,aK _ _⟩
 have e:mr s=Cg s:=aG h;rw[e];have hne:(s.toList == [])=false:=by rw[wG];simp;intro h';exact h (by rw[cV,h'];rfl)
 have HH:Hid (Calls prog 161 #[.string s] w fun e w'=>e=.returned (.string (Cg s))/\Below w.heap.size w w'):=abR s w hs htab;clear htab;go_enter func108,ntmps108;go_wp2_with (go_at_call 161;refine HH.out.mono ?_;rintro e w1 ⟨rfl,b1⟩);go_ret;exact ⟨rfl,b1⟩
theorem kR.below {w W:World} (t:kR w) (hb:Below w.heap.size w W):kR W:=⟨Jn t.h hb,Jn t.p hb⟩
structure vR (w:World) (f:cz) (W:World):Prop where
 b:av w.heap.size [.int .i64 f.ino,.string f.path,.int .i64 f.kind,.int .i64 f.owner,.string f.data] W
 t:kR W
 ah:Below w.heap.size w W
theorem vR.below {w W W':World} {f:cz} (h:vR w f W) (hb:Below W.heap.size W W'):vR w f W':=⟨h.b.below hb,h.t.below hb,h.ah.trans (hb.mono h.ah.size)⟩
theorem aeS (w:World) (f:cz) (ht:kR w):vR w f (w.alloc (.cells #[.int .i64 f.ino,.string f.path,.int .i64 f.kind,.int .i64 f.owner,.string f.data] 75)):=⟨bu [.int .i64 f.ino,.string f.path,.int .i64 f.kind,.int .i64 f.owner,.string f.data] w 75,ht.below (aB _ _),aB _ _⟩
theorem Ko {W:World} {B:Nat} {a b c d e:Value} {l:List Value} (h:av B (a :: b :: c :: d :: e :: l) W):W.cell? ⟨B,4,none⟩=some e:=h.cell 4 (by simp)
theorem aeT (ps:List ByteArray) (w:World) (h4:ps.length=4) (hl:(vQ ps).size<=140737488355328):Calls prog 106 #[.slice (some ⟨w.heap.size,0,none⟩) 4 4,.string ⟨#[32]⟩] (w.alloc (.cells (ps.map Value.string).toArray 9)) fun e w'=>e=.returned (.string (vQ ps))/\Below w.heap.size w w':=by
 have b:=bu (ps.map Value.string) w 9;have hj:=Tryz.strings_Join w.heap.size 0 4 ps ⟨#[32]⟩ (w.alloc (.cells (ps.map Value.string).toArray 9)) (fun j x mr=>by
  obtain ⟨hl',he⟩:=pI.1 mr;have:=b.cell j (by simpa using hl');simpa [he] using this) b.lt (by omega) (by omega) (by
  have:(Lib.join (ps.map (·.data.toList)) [32]).toArray.size<=140737488355328:=hl;simpa using this)
 rw[h4] at hj;refine hj.mono ?_;rintro e w' ⟨rfl,hb⟩;exact ⟨rfl,(aB _ _).trans (hb.mono (by simp))⟩
theorem vR.drew {w W:World} {f:cz} (h:vR w f W):vR w f W.drew:=h.below (aK _ _).drew
section
variable {E : Nat → List aV}
theorem aeU:∀ {l1 l2 n1 n2:List UInt8},47 ∉ n1->47 ∉ n2->l1++47 :: n1=l2++47 :: n2->l1=l2/\n1=n2:=by
 intro l1 l2 n1 n2 h1 h2 h;rcases List.append_eq_append_iff.1 h with ⟨a,ha,hb⟩ | ⟨a,ha,hb⟩
 ·cases a with
  | nil=>simp at ha hb;exact ⟨ha.symm,hb⟩
  | cons c r=>
   simp at hb;exact absurd (by rw[hb.2];simp) h1
 cases a with
 | nil=>simp at ha hb;exact ⟨ha,hb.symm⟩
 | cons c r=>
  simp at hb;exact absurd (by rw[hb.2];simp) h2
theorem F9 (a b:ByteArray):(a++b).data.toList=a.data.toList++b.data.toList:=by rw[mz];simp
theorem aeV (a:ByteArray):a.size=a.data.toList.length:=rfl
structure Ga (E:Nat->List aV):Prop where
 no:∀ d e,e ∈ E d->47 ∉ e.2.data.toList
 pos:∀ d e,e ∈ E d->0<e.2.size
 one:∀ d (x y:Int) nm,(x,nm) ∈ E d->(y,nm) ∈ E d->x=y
theorem aeW (hN:Ga E):∀ {x k:Nat} {q:ByteArray},eh E x k q->∀ {y k':Nat} {q':ByteArray},eh E y k' q'->q=q'->x=y:=by
 intro x k q h;induction h using eh.ind with
 | zero=>
  intro y k' q' h' e;rcases h'.or with ⟨e',_,_⟩ | ⟨d,j,p,nm,_,hd,hm,rfl⟩;·exact e'.symm
  ·have:=fK (fun a:ByteArray=>a.data.toList.length) e;simp[F9] at this
 | @down d k q x nm hd hm ih=>
  intro y k' q' h' e;rcases h'.or with ⟨_,_,rfl⟩ | ⟨d',j,p,nm',_,hd',hm',rfl⟩
  ·have:=fK (fun a:ByteArray=>a.data.toList.length) e;simp[F9] at this
  ·have:=fK (fun a:ByteArray=>a.data.toList) e;simp only[F9] at this;obtain ⟨h1,h2⟩:=aeU (hN.no _ _ hm) (hN.no _ _ hm') this;have e1:q=p:=gm (jB.1 h1);have e2:nm=nm':=gm (jB.1 h2);have e3:=ih hd' e1;subst e3;subst e2;have:=hN.one _ _ _ _ hm hm';omega
theorem Th (hN:Ga E) {x k:Nat} {q:ByteArray} (h:eh E x k q):q.size=0\/2<=q.size:=by
 rcases h.or with ⟨_,_,rfl⟩ | ⟨d,j,p,nm,_,hd,hm,rfl⟩;·exact Or.inl rfl
 right;have h0:0<nm.size:=hN.pos _ _ hm;rw[fk,fk];show 2<=p.size+(1+nm.size)
 omega
theorem aeX (hN:Ga E) {x k y k':Nat} {q q':ByteArray} (h:eh E x k q) (h':eh E y k' q') (e:od q=od q'):x=y:=by
 refine aeW hN h h' ?_;unfold od at e;rcases Th hN h with a | a <;> rcases Th hN h' with b | b
 ·rw[aeV] at a b;have a':=AY.1 a;have b':=AY.1 b;exact gm (jB.1 (a'.trans b'.symm))
 ·rw[aF a,aG (by omega)] at e;rw[<- e] at b;exact absurd b (by decide)
 ·rw[aG (by omega),aF b] at e;rw[e] at a;exact absurd a (by decide)
 rwa [aG (by omega),aG (by omega)] at e
theorem aeY (o:ByteArray) (f:cz):((((((o++(vP f.kind ++ ⟨#[32]⟩))++f.path) ++ ⟨#[32]⟩)++vO f.owner) ++ ⟨#[32]⟩)++mr f.data) ++ ⟨#[10]⟩=o++lG f:=by apply gm;apply jB.1;unfold lG vQ xS;simp only[F9,Lib.join,Lib.joinTail,mX,AS,jQ,tA,List.intercalate,List.intersperse,List.flatten_cons,List.flatten_nil]
end
section
variable {mem : ByteArray}
theorem Ti (mem:ByteArray) (i:Int) {k:Nat} (hk:k<(dw mem i).length):pO (dw mem i) k=true:=by obtain ⟨_,hD,hE⟩:=FO mem i (fun h=>by rw[h] at hk;cases hk);have hd:=(uQ hD).2.2.2.2;rw[<- hE] at hd;simp only[gL,cj,dC] at hd;exact Ek hd.2 hk
theorem Tk (mem:ByteArray) (i:Int) (e:aV) (h:e ∈ dw mem i):gQ e.2=true:=by obtain ⟨k,hk,he⟩:=uK.1 h;have h1:=(Bs (Ti mem i hk)).1;rw[qG _ _ hk,he] at h1;exact (Bh h1).1
theorem aeZ (mem:ByteArray):Ga (bK mem):=by
 refine ⟨fun d e h hm=>?_,fun d e h=>?_,fun d x y nm h1 h2=>?_⟩
 ·have:=Tk mem _ e h;simp only[gQ,cj,AV] at this;have:=this.1 _ hm;revert this
  decide
 ·exact (Ec (Tk mem _ e h)).1
 obtain ⟨i,hi,ei⟩:=uK.1 h1;obtain ⟨j,hj,ej⟩:=uK.1 h2;have key:∀ (i j:Nat) (x y:Int) (hi:i<(bK mem d).length) (hj:j<(bK mem d).length),(bK mem d)[i]=(x,nm)->(bK mem d)[j]=(y,nm)->i<j->False:=by
  intro i j x y hi hj ei ej hij;have h:iy ((bK mem d).take j) (bS (bK mem d) j)=false:=(Bs (Ti mem _ hj)).2;rw[qG _ _ hj,ej] at h;simp only[iy,List.any_eq_false] at h;refine h (x,nm) ?_ ?_
  ·rw[<- ei];exact aiS.2 ⟨i,by omega,rfl⟩
  simp[sw]
 rcases Nat.lt_trichotomy i j with h | h | h;·exact (key i j x y hi hj ei ej h).elim
 ·subst h;rw[ei] at ej;exact fK Prod.fst ej
 exact (key j i y x hj hi ej ei h).elim
theorem Tl {P:Nat->ByteArray}:∀ {n:Nat} {f:cz},f ∈ fz mem P n->∃ x,x<n/\bZ mem x≠0/\f=sU mem P x
 | 0,f,h=>by cases h
 | n+1,f,h=>by
  rw[fz,gP] at h;rcases h with h | h
  ·obtain ⟨x,h1,h2,h3⟩:=Tl h;exact ⟨x,by omega,h2,h3⟩
  ·by_cases hk:bZ mem n=0;·rw[aF hk] at h;cases h
   rw[aG hk] at h;exact ⟨n,by omega,hk,by simpa using h⟩
end
theorem ae0 {p q:ByteArray} (h:p.size+q.size<=9223372036854775807) (W:World):(binOp .add 9 (.string p) (.string q)).run prog W=.ok (.string (p++q)) W:=by simp[binOp,Op.stringOp,go_sem];omega
theorem Tm {p q:ByteArray} {A:Act} {o:Oper} {W:World} {x y:Operand} (h:p.size+q.size<=9223372036854775807) (ho:o.op=.binOp .add 9 x y 9:=by rfl) (hx:A.eval x=.string p:=by rfl) (hy:A.eval y=.string q:=by rfl):(execOp A.eval o).run prog W=.ok (.value (.string (p++q))) W:=by have hr:=ae0 h W;obtain ⟨ev,hev⟩:∃ ev,A.eval=ev:=⟨_,rfl⟩;rw[hev] at hx hy ⊢;simp[execOp,ho,hx,hy,go_sem,hr];exact h
theorem ae1 (f:cz) (w:World) (hd:f.data.size<=1048576) (ho:(Lit.int .i64 f.owner).wf=true) (hl:(vQ (xS f)).size<=1073741824) (ht:kR w):Calls prog 49 #[.agg #[.int .i64 f.ino,.string f.path,.int .i64 f.kind,.int .i64 f.owner,.string f.data]] w fun e w'=>e=.returned (.string (lG f))/\Below w.heap.size w w':=by
 have HD:Hid (∀ W,kR W->Calls prog 107 #[.int .i64 f.owner] W fun e w'=>e=.returned (.string (vO f.owner))/\Below W.heap.size W w'):=fun W h=>acd _ ho W h.p;have HX:Hid (∀ W,kR W->Calls prog 108 #[.string f.data] W fun e w'=>e=.returned (.string (mr f.data))/\Below W.heap.size W w'):=fun W h=>aeR _ W (by omega) h.h;have HJ:Hid (∀ W,Calls prog 106 #[.slice (some ⟨W.heap.size,0,none⟩) 4 4,.string ⟨#[32]⟩] (W.alloc (.cells #[.string (vP f.kind),.string f.path,.string (vO f.owner),.string (mr f.data)] 9)) fun e w'=>e=.returned (.string (vQ (xS f)))/\Below W.heap.size W w'):=fun W=>aeT (xS f) W rfl (by omega);have hS:(vQ (xS f)).size+(⟨#[10]⟩:ByteArray).size<=9223372036854775807:=by show _+1<=_;omega
 have t0:=aeS w f ht;unfold lG;generalize vQ (xS f)=G at HJ hS ⊢;obtain ⟨io,pa,ki,ow,da⟩:=f;simp only at t0 HD HX HJ ⊢;generalize vO ow=y at HD HJ;generalize mr da=x at HX HJ;have c0:=t0.b.c0;have c1:=t0.b.c1;have c2:=t0.b.c2;have c3:=t0.b.c3;have uC:=Ko t0.b;have u0:=t0.drew;clear ht hl hd ho;have HS:Hid (∀ W,vR w ⟨io,pa,ki,ow,da⟩ W->W.cell? ⟨w.heap.size,1,none⟩=some (.string pa)/\W.cell? ⟨w.heap.size,3,none⟩=some (.int .i64 ow)/\W.cell? ⟨w.heap.size,4,none⟩=some (.string da)):=fun W h=>⟨h.b.c1,h.b.c3,Ko h.b⟩;have s0:=HS.out _ u0;by_cases hk:ki=2
 ·subst hk;have e:vP 2=⟨#[100]⟩:=by unfold vP;rw[aF rfl]
  rw[e] at HJ;clear e;go_enter func49,ntmps49;go_wp2;refine et (S:=fun W=>W.cell? ⟨w.heap.size,1,none⟩=some (.string pa)/\W.cell? ⟨w.heap.size,3,none⟩=some (.int .i64 ow)/\W.cell? ⟨w.heap.size,4,none⟩=some (.string da)) (by kernel_rfl) ?_;refine bG (i:=0) (v:=.string ⟨#[100]⟩) rfl (by kernel_rfl) (by kernel_rfl) (by kernel_rfl) (fun _ _ _ h=>h) (Or.inl ⟨by rfl,fun w' hS'=>by rfl⟩) s0 ?_;simp only[ao,Act.put,Nat.reduceAdd];refine bG (i:=1) (v:=.pointer (some ⟨w.heap.size,1,none⟩)) rfl (by kernel_rfl) (by kernel_rfl) (by kernel_rfl) (fun _ _ _ h=>h) (Or.inl ⟨by rfl,fun w' hS'=>by rfl⟩) s0 ?_;simp only[ao,Act.put,Nat.reduceAdd];refine bG (i:=2) (v:=.string pa) rfl (by kernel_rfl) (by kernel_rfl) (by kernel_rfl) (fun _ _ _ h=>h) (Or.inl ⟨by rfl,fun w' hS'=>?_⟩) s0 ?_
  ·obtain ⟨p1,p3,p4⟩:=hS';go_simp
  simp only[ao,Act.put,Nat.reduceAdd];refine bG (i:=3) (v:=.pointer (some ⟨w.heap.size,3,none⟩)) rfl (by kernel_rfl) (by kernel_rfl) (by kernel_rfl) (fun _ _ _ h=>h) (Or.inl ⟨by rfl,fun w' hS'=>by rfl⟩) s0 ?_;simp only[ao,Act.put,Nat.reduceAdd];refine bG (i:=4) (v:=.int .i64 ow) rfl (by kernel_rfl) (by kernel_rfl) (by kernel_rfl) (fun _ _ _ h=>h) (Or.inl ⟨by rfl,fun w' hS'=>?_⟩) s0 ?_
  ·obtain ⟨p1,p3,p4⟩:=hS';go_simp
  simp only[ao,Act.put,Nat.reduceAdd];refine bG (i:=6) (v:=.pointer (some ⟨w.heap.size,4,none⟩)) rfl (by kernel_rfl) (by kernel_rfl) (by kernel_rfl) (fun _ _ _ h=>h) (Or.inl ⟨by rfl,fun w' hS'=>by rfl⟩) s0 ?_;simp only[ao,Act.put,Nat.reduceAdd];refine bG (i:=7) (v:=.string da) rfl (by kernel_rfl) (by kernel_rfl) (by kernel_rfl) (fun _ _ _ h=>h) (Or.inl ⟨by rfl,fun w' hS'=>?_⟩) s0 ?_
  ·obtain ⟨p1,p3,p4⟩:=hS';go_simp
  simp only[ao,Act.put,Nat.reduceAdd];refine fY (i:=5) (by kernel_rfl) rfl (by rfl) (.tmp 11) _ rfl (.int .i64 ow) (by rfl) (bh func107 (by kernel_rfl) rfl) ((HD.out _ u0.t).mono ?_);rintro e w1 ⟨rfl,b1⟩;have t1:=u0.below b1;have s1:=HS.out _ t1;refine ⟨_,rfl,s1,?_⟩;simp only[ao,Act.put,Nat.reduceAdd];refine fY (i:=8) (by kernel_rfl) rfl (by rfl) (.tmp 14) _ rfl (.string da) (by rfl) (bh func108 (by kernel_rfl) rfl) ((HX.out _ t1.t).mono ?_);rintro e w2 ⟨rfl,b2⟩;have t2:=t1.below b2;have s2:=HS.out _ t2;refine ⟨_,rfl,s2,?_⟩;simp only[ao,Act.put,Nat.reduceAdd];have tz:=t2.below (aB w2 (.cells #[.string ⟨#[100]⟩,.string pa,.string y,.string x] 9));have sz:=HS.out _ tz;refine tJ (i:=9) (u:=.slice (some ⟨w2.heap.size,0,none⟩) 4 4) (w':=w2.alloc (.cells #[.string ⟨#[100]⟩,.string pa,.string y,.string x] 9)) (by kernel_rfl) rfl (by rfl) (by go_simp) sz ?_;simp only[ao,Act.put,Nat.reduceAdd];refine jm (i:=10) (by kernel_rfl) rfl (by rfl) (.tmp 16) (.const (.string ⟨#[32]⟩)) _ rfl (.slice (some ⟨w2.heap.size,0,none⟩) 4 4) (.string ⟨#[32]⟩) (by rfl) (by rfl) (bh func106 (by kernel_rfl) rfl) ((HJ.out w2).mono ?_);rintro e w4 ⟨rfl,b4⟩;have t4:=t2.below b4;have s4:=HS.out _ t4;refine ⟨_,rfl,s4,?_⟩;simp only[ao,Act.put,Nat.reduceAdd];refine bG (i:=11) (v:=.string (G ++ ⟨#[10]⟩)) rfl (by kernel_rfl) (by kernel_rfl) (by kernel_rfl) (fun _ _ _ h=>h) (Or.inl ⟨by rfl,fun w' hS'=>?_⟩) s4 ?_;·(refine Tm ?_;exact hS)
  simp only[ao,Act.put,Nat.reduceAdd];refine bG (i:=12) (v:=.string (G ++ ⟨#[10]⟩)) rfl (by kernel_rfl) (by kernel_rfl) (by kernel_rfl) (fun _ _ _ h=>h) (Or.inl ⟨by rfl,fun w' hS'=>by rfl⟩) s4 ?_;simp only[ao,Act.put,Nat.reduceAdd];refine dV (by kernel_rfl) ?_ _;go_wp2;go_ret;exact ⟨rfl,t4.ah⟩
 have e:vP ki=⟨#[102]⟩:=by unfold vP;rw[aG hk]
 rw[e] at HJ;clear e;go_enter func49,ntmps49;go_wp2;refine et (S:=fun W=>W.cell? ⟨w.heap.size,1,none⟩=some (.string pa)/\W.cell? ⟨w.heap.size,3,none⟩=some (.int .i64 ow)/\W.cell? ⟨w.heap.size,4,none⟩=some (.string da)) (by kernel_rfl) ?_;refine bG (i:=0) (v:=.string ⟨#[102]⟩) rfl (by kernel_rfl) (by kernel_rfl) (by kernel_rfl) (fun _ _ _ h=>h) (Or.inl ⟨by rfl,fun w' hS'=>by rfl⟩) s0 ?_;simp only[ao,Act.put,Nat.reduceAdd];refine bG (i:=1) (v:=.pointer (some ⟨w.heap.size,1,none⟩)) rfl (by kernel_rfl) (by kernel_rfl) (by kernel_rfl) (fun _ _ _ h=>h) (Or.inl ⟨by rfl,fun w' hS'=>by rfl⟩) s0 ?_;simp only[ao,Act.put,Nat.reduceAdd];refine bG (i:=2) (v:=.string pa) rfl (by kernel_rfl) (by kernel_rfl) (by kernel_rfl) (fun _ _ _ h=>h) (Or.inl ⟨by rfl,fun w' hS'=>?_⟩) s0 ?_
 ·obtain ⟨p1,p3,p4⟩:=hS';go_simp
 simp only[ao,Act.put,Nat.reduceAdd];refine bG (i:=3) (v:=.pointer (some ⟨w.heap.size,3,none⟩)) rfl (by kernel_rfl) (by kernel_rfl) (by kernel_rfl) (fun _ _ _ h=>h) (Or.inl ⟨by rfl,fun w' hS'=>by rfl⟩) s0 ?_;simp only[ao,Act.put,Nat.reduceAdd];refine bG (i:=4) (v:=.int .i64 ow) rfl (by kernel_rfl) (by kernel_rfl) (by kernel_rfl) (fun _ _ _ h=>h) (Or.inl ⟨by rfl,fun w' hS'=>?_⟩) s0 ?_
 ·obtain ⟨p1,p3,p4⟩:=hS';go_simp
 simp only[ao,Act.put,Nat.reduceAdd];refine bG (i:=6) (v:=.pointer (some ⟨w.heap.size,4,none⟩)) rfl (by kernel_rfl) (by kernel_rfl) (by kernel_rfl) (fun _ _ _ h=>h) (Or.inl ⟨by rfl,fun w' hS'=>by rfl⟩) s0 ?_;simp only[ao,Act.put,Nat.reduceAdd];refine bG (i:=7) (v:=.string da) rfl (by kernel_rfl) (by kernel_rfl) (by kernel_rfl) (fun _ _ _ h=>h) (Or.inl ⟨by rfl,fun w' hS'=>?_⟩) s0 ?_
 ·obtain ⟨p1,p3,p4⟩:=hS';go_simp
 simp only[ao,Act.put,Nat.reduceAdd];refine fY (i:=5) (by kernel_rfl) rfl (by rfl) (.tmp 11) _ rfl (.int .i64 ow) (by rfl) (bh func107 (by kernel_rfl) rfl) ((HD.out _ u0.t).mono ?_);rintro e w1 ⟨rfl,b1⟩;have t1:=u0.below b1;have s1:=HS.out _ t1;refine ⟨_,rfl,s1,?_⟩;simp only[ao,Act.put,Nat.reduceAdd];refine fY (i:=8) (by kernel_rfl) rfl (by rfl) (.tmp 14) _ rfl (.string da) (by rfl) (bh func108 (by kernel_rfl) rfl) ((HX.out _ t1.t).mono ?_);rintro e w2 ⟨rfl,b2⟩;have t2:=t1.below b2;have s2:=HS.out _ t2;refine ⟨_,rfl,s2,?_⟩;simp only[ao,Act.put,Nat.reduceAdd];have tz:=t2.below (aB w2 (.cells #[.string ⟨#[102]⟩,.string pa,.string y,.string x] 9));have sz:=HS.out _ tz;refine tJ (i:=9) (u:=.slice (some ⟨w2.heap.size,0,none⟩) 4 4) (w':=w2.alloc (.cells #[.string ⟨#[102]⟩,.string pa,.string y,.string x] 9)) (by kernel_rfl) rfl (by rfl) (by go_simp) sz ?_;simp only[ao,Act.put,Nat.reduceAdd];refine jm (i:=10) (by kernel_rfl) rfl (by rfl) (.tmp 16) (.const (.string ⟨#[32]⟩)) _ rfl (.slice (some ⟨w2.heap.size,0,none⟩) 4 4) (.string ⟨#[32]⟩) (by rfl) (by rfl) (bh func106 (by kernel_rfl) rfl) ((HJ.out w2).mono ?_);rintro e w4 ⟨rfl,b4⟩;have t4:=t2.below b4;have s4:=HS.out _ t4;refine ⟨_,rfl,s4,?_⟩;simp only[ao,Act.put,Nat.reduceAdd];refine bG (i:=11) (v:=.string (G ++ ⟨#[10]⟩)) rfl (by kernel_rfl) (by kernel_rfl) (by kernel_rfl) (fun _ _ _ h=>h) (Or.inl ⟨by rfl,fun w' hS'=>?_⟩) s4 ?_;·(refine Tm ?_;exact hS)
 simp only[ao,Act.put,Nat.reduceAdd];refine bG (i:=12) (v:=.string (G ++ ⟨#[10]⟩)) rfl (by kernel_rfl) (by kernel_rfl) (by kernel_rfl) (fun _ _ _ h=>h) (Or.inl ⟨by rfl,fun w' hS'=>by rfl⟩) s4 ?_;simp only[ao,Act.put,Nat.reduceAdd];refine dV (by kernel_rfl) ?_ _;go_wp2;go_ret;exact ⟨rfl,t4.ah⟩
section
def Gb (k:aL) (w:World) (e:Ending) (w':World):Prop:=∃ a' c' ss,e=.returned (aU k a' c')/\aZ w' a' k.ds ss/\Below w.heap.size w w'
structure kS (w:World) (k:aL) (ss:Nat->aA) (a1:Option Addr) (c1 base:Nat) (m p:ByteArray) (W:World):Prop where
 box:av w.heap.size [.string m,.string p,.slice a1 k.ds.length c1,.int .i64 k.ck] W
 az:av (w.heap.size+1) gV W
 lq:gN base k.ds k.ds.length ss a1 c1 W
 ah:Below w.heap.size w W
 hb:w.heap.size+2<=base
variable {w W W' : World} {k : aL} {ss : Nat → aA} {a1 : Option Addr} {c1 base : Nat} {m p : ByteArray}
theorem kS.below (h:kS w k ss a1 c1 base m p W) (hb:Below W.heap.size W W'):kS w k ss a1 c1 base m p W':=⟨h.box.below hb,h.az.below hb,h.lq.below hb,h.ah.trans (hb.mono h.ah.size),h.hb⟩
theorem kS.drew (h:kS w k ss a1 c1 base m p W):kS w k ss a1 c1 base m p W.drew:=h.below ((aK _ _).drew)
theorem kS.Ao (h:kS w k ss a1 c1 base m p W) (m':ByteArray):kS w k ss a1 c1 base m' p (W.setCell ⟨w.heap.size,0,none⟩ (.string m')):=⟨h.box.set 0 _,h.az.aR (by omega) _ _,h.lq.set (by have:=h.hb;omega) _ _,h.ah.setCell (p:=⟨w.heap.size,0,none⟩) (aq _) _,h.hb⟩
theorem kS.DF (h:kS w k ss a1 c1 base m p W) (p':ByteArray):kS w k ss a1 c1 base m p' (W.setCell ⟨w.heap.size,1,none⟩ (.string p')):=⟨h.box.set 1 _,h.az.aR (by omega) _ _,h.lq.set (by have:=h.hb;omega) _ _,h.ah.setCell (p:=⟨w.heap.size,1,none⟩) (aq _) _,h.hb⟩
theorem qe {a:Option Addr} {c:Nat} (h:zY w k a c W) (hl:gN base k.ds k.ds.length ss a1 c1 W) (hb:w.heap.size+2<=base):kS w k ss a1 c1 base k.mem k.ay ((((W.setCell ⟨w.heap.size,0,none⟩ (.string k.mem)).setCell ⟨w.heap.size,1,none⟩ (.string k.ay)).setCell ⟨w.heap.size,2,none⟩ (.slice a1 k.ds.length c1)).setCell ⟨w.heap.size,3,none⟩ (.int .i64 k.ck)):=⟨h.box.eU _ _ _ _,(((h.az.aR (by omega) _ _).aR (by omega) _ _).aR (by omega) _ _).aR (by omega) _ _,(((hl.set (by omega) _ _).set (by omega) _ _).set (by omega) _ _).set (by omega) _ _,(((h.ah.setCell (p:=⟨w.heap.size,0,none⟩) (aq _) _).setCell (p:=⟨w.heap.size,1,none⟩) (aq _) _).setCell (p:=⟨w.heap.size,2,none⟩) (aq _) _).setCell (p:=⟨w.heap.size,3,none⟩) (aq _) _,hb⟩
theorem ae2 (k:aL) (a:Option Addr) (c:Nat) (s0:Nat->aA) (ka:Option Addr) (kc:Nat) (kept:List Int) (w:World) (hz:rf k) (hkn:kept.length<=1048576) (hL:aZ w a k.ds s0) (hR:aI w ka kept):Calls prog 8 #[aU k a c,.slice ka kept.length kc] w (Gb (mq k kept) w):=by
 have hnn:k.ds.length<=1048576:=by have:=hz.t;omega
 have t0:=tX w k a c;have hcp:=Aa k a c s0 _ (by have:=hz.t;omega) hz.small (hL.below t0.ah);have HR:Hid (∀ W,Below w.heap.size w W->aI W ka kept):=fun W hb=>hR.below hb;have HK:Hid (∀ a1 c1 ss W,aZ W a1 k.ds ss->_):=fun a1 c1 ss W h=>(xK k) ▸ xJ k a1 c1 ss W hz.m hz.d hz.t (hz.fits ss) h;have HF:Hid (∀ ss,jJ k.ds ss):=fun ss=>hz.fits ss;have c0:=t0.box.c0;have c1:=t0.box.c1;have c2:=t0.box.c2;have c3:=t0.box.c3;have g0:=t0.box.f0;have z0:w.heap.size+2=((w.alloc (cJ k a c)).alloc df).heap.size:=by simp
 obtain ⟨W0,hW0⟩:∃ W0,(w.alloc (cJ k a c)).alloc df=W0:=⟨_,rfl⟩;rw[hW0] at t0 hcp c0 c1 c2 c3 z0 g0;unfold vL at hcp;clear hL hR g0;unfold Gb;cases hok:fj k with
 | false=>
  rw[show mq k kept=k from aG (by rw[hok];decide)]
  rw[hok] at HK;clear hok HR HF;go_enter func8,ntmps8;go_wp2_with (first
   | (go_at_call 20;refine hcp.mono ?_;rintro e w1 ⟨a1,c1',ss,rfl,l1,b1⟩;have t1:=t0.below b1;have x0:=t1.box.c0;have x1:=t1.box.c1;have x2:=t1.box.c2;have x3:=t1.box.c3;have g0:=t1.box.f0;have g1:=t1.box.f1;have g2:=t1.box.f2;have g3:=t1.box.f3;have u1:=qe t1 l1 (by omega);have d0:=u1.box.c0;have d1:=u1.box.c1;have d2:=u1.box.c2;have d3:=u1.box.c3)
   | (go_at_call 9;refine (HK.out _ _ _ _ u1.lq.eN).mono ?_;rintro e w2 ⟨rfl,b2⟩;have u2:=u1.below b2;have d0:=u2.box.c0;have d1:=u2.box.c1;have d2:=u2.box.c2;have d3:=u2.box.c3;have y0:=u2.az.c0;have y1:=u2.az.c1;have y2:=u2.az.c2;have y3:=u2.az.c3;have e0:=u2.az.f0;have e1:=u2.az.f1;have e2:=u2.az.f2;have e3:=u2.az.f3))
  have qq:=u2.az.eU (.string k.mem) (.string k.ay) (.slice a1 k.ds.length c1') (.int .i64 k.ck);have ll:=(((u2.lq.set (B:=w.heap.size+1) (by omega) 0 (.string k.mem)).set (B:=w.heap.size+1) (by omega) 1 (.string k.ay)).set (B:=w.heap.size+1) (by omega) 2 (.slice a1 k.ds.length c1')).set (B:=w.heap.size+1) (by omega) 3 (.int .i64 k.ck);have mm:=(((u2.ah.setCell (p:=⟨w.heap.size+1,0,none⟩) (bP _) (.string k.mem)).setCell (p:=⟨w.heap.size+1,1,none⟩) (bP _) (.string k.ay)).setCell (p:=⟨w.heap.size+1,2,none⟩) (bP _) (.slice a1 k.ds.length c1')).setCell (p:=⟨w.heap.size+1,3,none⟩) (bP _) (.int .i64 k.ck);have v0:=qq.c0;have v1:=qq.c1;have v2:=qq.c2;have v3:=qq.c3;exact bL (v:=aU k a1 c1') (by simp[results,results8,go_sem,v0,v1,v2,v3]) rfl ⟨a1,c1',ss,rfl,ll.eN,mm⟩
 | true=>
  rw[show mq k kept=qd k kept from aF hok]
  rw[hok] at HK;have hdo:=S9 hok;obtain ⟨h1,h2⟩:=nW hdo;have hpw:Hid (∀ W,Below w.heap.size w W->Calls prog 21 #[.agg #[.string k.mem,.string k.ay],.slice ka kept.length kc] W fun e w'=>e=.returned (.agg #[.string (eT k.mem k.ay kept),.string (eT k.mem k.ay kept)])/\Below W.heap.size W w'):=fun W hb=>by
   have h:=ace k.mem k.ay ka kc kept W (by omega) (by omega) hkn (HR.out W hb);rw[show vu k.mem k.ay kept=eT k.mem k.ay kept from aF hdo,show vv k.mem k.ay kept=eT k.mem k.ay kept from aF hdo] at h
   exact h
  have hsz:=CD k.mem k.ay kept;have HC:Hid (qd k kept=⟨dB k.ds (eT k.mem k.ay kept) k.ds.length,fI (dB k.ds (eT k.mem k.ay kept) k.ds.length) (eT k.mem k.ay kept) k.ds k.ds.length,[],k.ck⟩):=rfl;obtain ⟨p,ep⟩:∃ p,eT k.mem k.ay kept=p:=⟨_,rfl⟩;rw[ep] at hpw hsz HC;clear hok hdo ep HR;go_enter func8,ntmps8;go_wp2_with (first
   | (go_at_call 20;refine hcp.mono ?_;rintro e w1 ⟨a1,c1',ss,rfl,l1,b1⟩;have t1:=t0.below b1;have x0:=t1.box.c0;have x1:=t1.box.c1;have x2:=t1.box.c2;have x3:=t1.box.c3;have g0:=t1.box.f0;have g1:=t1.box.f1;have g2:=t1.box.f2;have g3:=t1.box.f3;have u1:=qe t1 l1 (by omega);have d0:=u1.box.c0;have d1:=u1.box.c1;have d2:=u1.box.c2;have d3:=u1.box.c3)
   | (go_at_call 9;refine (HK.out _ _ _ _ u1.lq.eN).mono ?_;rintro e w2 ⟨rfl,b2⟩;have u2:=u1.below b2;have d0:=u2.box.c0;have d1:=u2.box.c1;have d2:=u2.box.c2;have d3:=u2.box.c3)
   | (go_at_call 21;refine (hpw.out _ u2.ah).mono ?_;rintro e w3 ⟨rfl,b3⟩;have u3:=u2.below b3;have d0:=u3.box.c0;have d1:=u3.box.c1;have e0:=u3.box.f0;have e1:=u3.box.f1))
  have u4:=(u3.Ao p).DF p;clear u1 u2 u3 hpw HK hcp l1 t1 t0 d0 d1 d2 d3;obtain ⟨bs,hbs⟩:∃ bs,W0.heap.size+3=bs:=⟨_,rfl⟩;rw[hbs] at u4;have hbs2:w.heap.size+5<=bs:=by omega
  clear hbs x0 x1 x2 x3 g0 g1 g2 g3 c0 c1 c2 c3 e0 e1 b1 b2 b3 z0 hW0;go_loopw [5] (fun i w'=>∃ j:Nat,j<=k.ds.length/\i=.int .i64 j/\kS w k ss a1 c1' bs (dB k.ds p j) p w') (fun i _=>k.ds.length-(intOf i).toNat);case atStart=>exact ⟨0,aS _,rfl,u4⟩
  case round=>
   obtain ⟨j,hj,rfl,ur⟩:=hrel;clear u4;have d2:=ur.box.c2;have jz:=ml k.ds p j;by_cases hlt:j<k.ds.length
   ·have hLn:=ur.lq.eN;have ls:=hLn.sub j hlt;obtain ⟨hf,hpo,hfr⟩:=HF.out ss j hlt;obtain ⟨b,off,rfl,fW,hc⟩:=hLn.row.get hlt;obtain ⟨y0,y1,y2,y3,y4,y5,y6,y7⟩:=hc j hlt;have hu:dy (dB k.ds p j) (au k.ds j)=dB k.ds p (j+1):=rfl;obtain ⟨d,ed⟩:∃ d,au k.ds j=d:=⟨_,rfl⟩;obtain ⟨s,es⟩:∃ s,ss j=s:=⟨_,rfl⟩;rw[ed,es] at ls hf;rw[ed] at y0 y1 y2 y3 y4 y5 y6 y7 hpo hfr hu;rw[es] at y4 y6 y7;obtain ⟨cur,ec⟩:∃ cur,dB k.ds p j=cur:=⟨_,rfl⟩;rw[ec] at ur jz hu;have HU:Hid (dy cur d=dB k.ds p (j+1)):=hu;have hun:Hid (Calls prog 22 #[.string cur,bH d s] wr.drew fun e w'=>e=.returned (.string (dy cur d))/\Below wr.drew.heap.size wr.drew w'):=JB _ d s wr.drew (by omega) hf hpo hfr (ls.below ((aK _ wr).drew));obtain ⟨jj,en⟩:∃ jj,dy cur d=jj:=⟨_,rfl⟩;rw[en] at hun HU;have x1:(0:Int)<=(j:Int):=by omega
    have x2:(j:Int)<(k.ds.length:Int):=by omega
    have d0:=ur.box.c0;have d1:=ur.box.c1;have UR:=ur.drew;clear ed es ec en hu hc ls hf hLn;go_wp2;go_region_with (go_at_call 22;refine hun.out.mono ?_;rintro e w5 ⟨rfl,b5⟩;have u5:=UR.below b5;have f0:=u5.box.c0;have g0:=u5.box.f0)
    all_goals
     go_wp2;have u6:=u5.Ao jj;go_roundw;case rel=>exact ⟨j+1,by omega,by go_num,by rw[<- HU.out];exact u6⟩
     case measure=>simp[intOf];omega
   obtain rfl:j=k.ds.length:=by omega
   obtain ⟨m,em⟩:∃ m,dB k.ds p k.ds.length=m:=⟨_,rfl⟩;rw[em] at ur jz HC;have hmz:m.size=768:=by omega
   have e9:decide ((k.ds.length:Int)<(k.ds.length:Int))=false:=by simp
   clear em;go_wp2;go_loopw [6] (fun i w'=>∃ j:Nat,j<=k.ds.length/\i=.int .i64 j/\kS w k ss a1 c1' bs m (fI m p k.ds j) w') (fun i _=>k.ds.length-(intOf i).toNat);case atStart=>exact ⟨0,aS _,rfl,ur⟩
   case round=>
   obtain ⟨j,hj,rfl,us⟩:=hrel;clear ur d2 e9;have d2:=us.box.c2;by_cases hlt:j<k.ds.length
   ·have hLn:=us.lq.eN;have ls:=hLn.sub j hlt;obtain ⟨hf,hpo,hfr⟩:=HF.out ss j hlt;obtain ⟨b,off,rfl,fW,hc⟩:=hLn.row.get hlt;obtain ⟨y0,y1,y2,y3,y4,y5,y6,y7⟩:=hc j hlt;have hlz:=vI m p k.ds hsz j;have hu:fI m p k.ds (j+1)=dG m (fI m p k.ds j) (aJ (au k.ds j)) (aJ (au k.ds j)).length:=rfl;obtain ⟨d,ed⟩:∃ d,au k.ds j=d:=⟨_,rfl⟩;obtain ⟨s,es⟩:∃ s,ss j=s:=⟨_,rfl⟩;rw[ed,es] at ls hf;rw[ed] at y0 y1 y2 y3 y4 y5 y6 y7 hpo hfr hu;rw[es] at y4 y6 y7;obtain ⟨cur,ec⟩:∃ cur,fI m p k.ds j=cur:=⟨_,rfl⟩;rw[ec] at us hlz hu;have HU:Hid (fI m p k.ds (j+1)=dG m cur (aJ d) (aJ d).length):=hu;have hsy:Hid (Calls prog 23 #[.agg #[.string m,.string cur],bH d s] wr.drew fun e w'=>e=.returned (.agg #[.string m,.string (dG m cur (aJ d) (aJ d).length)])/\Below wr.drew.heap.size wr.drew w'):=Sn m cur d s wr.drew hmz hlz hf hpo hfr (ls.below ((aK _ wr).drew));obtain ⟨jj,en⟩:∃ jj,dG m cur (aJ d) (aJ d).length=jj:=⟨_,rfl⟩;rw[en] at hsy HU;have x1:(0:Int)<=(j:Int):=by omega
    have x2:(j:Int)<(k.ds.length:Int):=by omega
    have d0:=us.box.c0;have d1:=us.box.c1;have US:=us.drew;clear ed es ec en hu hc ls hf hLn;go_wp2;go_region_with (go_at_call 23;refine hsy.out.mono ?_;rintro e w5 ⟨rfl,b5⟩;have u5:=US.below b5;have f0:=u5.box.c0;have f1:=u5.box.c1;have g0:=u5.box.f0;have g1:=u5.box.f1)
    all_goals
     go_wp2;have u6:=(u5.Ao m).DF jj;go_roundw;case rel=>exact ⟨j+1,by omega,by go_num,by rw[HU.out];exact u6⟩
     case measure=>simp[intOf];omega
   obtain rfl:j=k.ds.length:=by omega
   obtain ⟨u,eu⟩:∃ u,fI m p k.ds k.ds.length=u:=⟨_,rfl⟩;rw[eu] at us HC;have e9:decide ((k.ds.length:Int)<(k.ds.length:Int))=false:=by simp
   have nb:=aB wr (.cells #[] 49);have U:=us.below nb;have d0:=U.box.c0;have d1:=U.box.c1;have d2':=U.box.c2;have d3:=U.box.c3;have h2':=U.box.f2;have bx:=U.box.set 2 (.slice (some ⟨wr.heap.size,0,none⟩) 0 0);have an:=U.az.aR (B':=w.heap.size) (by omega) 2 (.slice (some ⟨wr.heap.size,0,none⟩) 0 0);have mb:=U.ah.setCell (p:=⟨w.heap.size,2,none⟩) (aq _) (.slice (some ⟨wr.heap.size,0,none⟩) 0 0);have y0:=an.c0;have y1:=an.c1;have y2:=an.c2;have y3:=an.c3;have f0:=an.f0;have f1:=an.f1;have f2:=an.f2;have f3:=an.f3;have q0:=bx.c0;have q1:=bx.c1;have q2:=bx.c2;have q3:=bx.c3;have qq:=an.eU (.string m) (.string u) (.slice (some ⟨wr.heap.size,0,none⟩) 0 0) (.int .i64 k.ck);have mm:=(((mb.setCell (p:=⟨w.heap.size+1,0,none⟩) (bP _) (.string m)).setCell (p:=⟨w.heap.size+1,1,none⟩) (bP _) (.string u)).setCell (p:=⟨w.heap.size+1,2,none⟩) (bP _) (.slice (some ⟨wr.heap.size,0,none⟩) 0 0)).setCell (p:=⟨w.heap.size+1,3,none⟩) (bP _) (.int .i64 k.ck);have v0:=qq.c0;have v1:=qq.c1;have v2:=qq.c2;have v3:=qq.c3;clear eu HF;go_wp2;rw[HC.out];exact bL (v:=.agg #[.string m,.string u,.slice (some ⟨wr.heap.size,0,none⟩) 0 0,.int .i64 k.ck]) (by simp[results,results8,go_sem,v0,v1,v2,v3]) rfl ⟨some ⟨wr.heap.size,0,none⟩,0,fun _=>Qi,rfl,⟨Or.inl rfl,fun j hj=>by simp at hj⟩,mm⟩
end
def qg (cl i n:Int) (d:ak):Bool:=decide (d.cl=cl) && xA d i n
def vS (cl i n:Int) (ds:List ak):Bool:=(List.range ds.length).any fun j=>qg cl i n (au ds j)
theorem ae3 {cl i n:Int} {ds:List ak} {j:Nat} (hj:j<ds.length) (h:qg cl i n (au ds j)=true):vS cl i n ds=true:=Ht.2 ⟨j,mA.2 hj,h⟩
theorem ae4 {cl i n:Int} {ds:List ak} (h:∀ j,j<ds.length->qg cl i n (au ds j)=false):vS cl i n ds=false:=by apply Bool.eq_false_iff.2;intro e;obtain ⟨j,hj,h1⟩:=Ht.1 e;rw[h j (mA.1 hj)] at h1;cases h1
abbrev Gc (k:aL) (a:Option Addr) (c:Nat):Obj:=.cells #[.string k.mem,.string k.ay,.slice a k.ds.length c,.int .i64 k.ck] 28
theorem Tn (k:aL) (a:Option Addr) (c:Nat) (ss:Nat->aA) (cl i n:Int) (w:World) (hn:k.ds.length<=1048576) (hF:jJ k.ds ss) (hR:aZ w a k.ds ss):Calls prog 120 #[aU k a c,.int .i64 cl,.int .i64 i,.int .i64 n] w fun e w'=>e=.returned (.bool (vS cl i n k.ds))/\Below w.heap.size w w':=by
 have n0:=aB w (Gc k a c);have b0:=bu (cU k a c) w 28;have HB:Hid (∀ W,Below (w.alloc (Gc k a c)).heap.size (w.alloc (Gc k a c)) W->W.cell? ⟨w.heap.size,2,none⟩=some (.slice a k.ds.length c)/\aZ W a k.ds ss/\Below w.heap.size w W):=fun W hb=>⟨(b0.below hb).c2,(hR.below n0).below hb,n0.trans (hb.mono (by simp))⟩;obtain ⟨W0,hW0⟩:∃ W0,w.alloc (Gc k a c)=W0:=⟨_,rfl⟩;rw[hW0] at HB;clear n0 b0 hR;go_enter func120,ntmps120;go_wp2;go_loopw [9] (fun x w'=>∃ j:Nat,j<=k.ds.length/\x=.int .i64 j/\Hid (∀ y,y<j->qg cl i n (au k.ds y)=false)/\Below W0.heap.size W0 w') (fun x _=>k.ds.length-(intOf x).toNat);case atStart=>exact ⟨0,aS _,rfl,fun x hx=>absurd hx (tF _),by rw[<- hW0];exact aK _ _⟩
 case round=>
 obtain ⟨j,hj,rfl,HN,hbel⟩:=hrel;obtain ⟨c2,hl,hb⟩:=HB.out _ hbel;have hB:=hbel.size;by_cases hlt:j<k.ds.length
 ·obtain ⟨b,off,rfl,fW,hc⟩:=hl.row.get hlt;obtain ⟨y0,y1,y2,y3,y4,y5,y6,y7⟩:=hc j hlt;have ls:=hl.sub j hlt;obtain ⟨f1,f2,f3⟩:=hF j hlt;have e1:(0:Int)<=(j:Int):=by omega
  have e2:(j:Int)<(k.ds.length:Int):=by omega
  have HY:Hid (qg cl i n (au k.ds j)=true->vS cl i n k.ds=true):=ae3 hlt;have HM:Hid (qg cl i n (au k.ds j)=false->∀ y,y<j+1->qg cl i n (au k.ds y)=false):=fun h y hy=>by
   rcases Nat.lt_or_eq_of_le (Nat.le_of_lt_succ hy) with h1 | h1;·exact HN.out y h1
   rw[h1];exact h
  obtain ⟨d,ed⟩:∃ d,au k.ds j=d:=⟨_,rfl⟩;obtain ⟨s,es⟩:∃ s,ss j=s:=⟨_,rfl⟩;rw[ed,es] at ls f1;rw[ed] at y0 y1 y2 y3 y4 y5 y6 y7 f2 f3 HY HM;rw[es] at y4 y6 y7;have hw:=adL d s i n wr f1 f2 f3 ls;clear ed es hc HB HN ls f1 f2 f3 hl;by_cases h1:d.cl=cl
  ·cases hq:xA d i n with
   | true=>
    have HY':Hid (vS cl i n k.ds=true):=HY.out (by simp[qg,h1,hq]);rw[hq] at hw;subst h1;clear HY HM hq;go_wp2_with (go_at_call 169;refine hw.mono ?_;rintro e w1 ⟨rfl,b1⟩);go_ret;exact ⟨by rw[HY'.out];rfl,hb.trans (b1.mono hb.size)⟩
   | false=>
    have uz:Hid (∀ y,y<j+1->qg cl i n (au k.ds y)=false):=HM.out (by simp[qg,hq]);rw[hq] at hw;have h1':(d.cl == cl)=true:=by simpa using h1
    clear HY HM hq h1;go_wp2_with (go_at_call 169;refine hw.mono ?_;rintro e w1 ⟨rfl,b1⟩);go_roundw;case rel=>exact ⟨j+1,by omega,by go_num,uz,hbel.trans (b1.mono hB)⟩
    case measure=>simp[intOf];omega
  have uz:Hid (∀ y,y<j+1->qg cl i n (au k.ds y)=false):=HM.out (by simp[qg,h1]);have h1':(d.cl == cl)=false:=by simpa using h1
  clear HY HM h1 hw;go_wp2;go_roundw;case rel=>exact ⟨j+1,by omega,by go_num,uz,hbel⟩
  case measure=>simp[intOf];omega
 obtain rfl:j=k.ds.length:=by omega
 have HZ:Hid (vS cl i n k.ds=false):=ae4 HN.out;clear HB HN hl;go_wp2;go_ret;exact ⟨by rw[HZ.out];rfl,hb⟩
end Go.Proofs.YtidmmopnkjbjoaaGreatDoor
