/- Joined texts. -/
import Derived.Test.YtidmmopnkjbjoaaGreatDoorJpN
set_option linter.unusedVariables false
set_option linter.unusedSimpArgs false
set_option maxRecDepth 10000
set_option maxHeartbeats 16000000
namespace Go.Proofs.YtidmmopnkjbjoaaGreatDoor
open ChangeShapes WideShapes ChangeAt RowKit
open Go.Proofs.Tryz
section
def zH (mem:ByteArray) (i:Int) (w:World) (e:Ending) (w':World):Prop:=∃ a c,e=.returned (.tuple #[bO (mF mem i) (qH mem i) (jV mem i) a (mG mem i).length c,.string (qI mem i),.bool (dY mem i)])/\aQ w.heap.size w' a (mG mem i)/\(mG mem i).length<=c/\aj w w'
theorem abx {mem:ByteArray} {i:Int} {w w':World} (h:dY mem i=false) (hb:aj w w'):zH mem i w (.returned (.tuple #[bO 0 0 0 none 0 0,.string ⟨#[]⟩,.bool false])) w':=by obtain ⟨h1,h2,h3,h4,h5⟩:=En h;exact ⟨none,0,by rw[h1,h2,h3,h4,h5,h];rfl,by rw[h4];exact Or.inl rfl,by rw[h4];exact aq _,hb⟩
theorem aby {mem:ByteArray} {i:Int} {w w':World} {a:Option Addr} {c:Nat} (h:dY mem i=true) (ho:aQ w.heap.size w' a (aN (ar mem i))) (hc:(aN (ar mem i)).length<=c) (hb:aj w w'):zH mem i w (.returned (.tuple #[bO (aX (ar mem i)) (cq (ar mem i)) (bX (ar mem i)) a (aN (ar mem i)).length c,.string ((dj mem (aN (ar mem i)) (aN (ar mem i)).length).extract 0 (bX (ar mem i)).toNat),.bool true])) w':=by obtain ⟨h1,h2,h3,h4,h5⟩:=wO h;exact ⟨a,c,by rw[h1,h2,h3,h4,h5,h],by rw[h4];exact ho,by rw[h4];exact hc,hb⟩
structure abz (w:World) (B:Nat) (k o s:Int) (a:Option Addr) (zs:List Int) (c:Nat) (W:World):Prop where
 rs:sA w a zs W
 nb:av B (eV k o s a zs.length c) W
 ne:w.heap.size<B
variable {w W W' : World} {B : Nat} {k o s : Int} {a : Option Addr} {zs : List Int} {c : Nat}
theorem QG (h:sA w a zs W):abz w W.heap.size k o s a zs c (W.alloc (.cells (bj k o s a zs.length c) 117)):=⟨h.below (aB _ _),bu (eV k o s a zs.length c) W 117,h.res.lt⟩
end
theorem vw (mem:ByteArray) (i:Int) (w:World) (hms:mem.size<=281474976710656):Calls prog 81 #[.string mem,ad i] w (zH mem i w):=by
 have hrs:=yX mem i hms;have hG:Hid (∀ W,Calls prog 135 #[.string (ar mem i)] W (iZ (ar mem i) W)):=fun W=>uX _ _ hrs;have GJ:Hid (∀ W,_):=fun W=>vo mem i W hms;by_cases hL:dY mem i=true
 ·have hl:=hL;simp only[dY,cj,dC,lV] at hl;obtain ⟨hm,hI,hk⟩:=hl;have hk':¬ aP (ar mem i) 0=0:=WK hk;have g8:((mem.size:Int) != 768)=false:=by simp;omega
  have hg:=mH hI;have mR:(aX (ar mem i) == 0)=false:=by rw[(yW hI).1];simpa using hk'
  have HF:Hid (∀ a c w',aQ w.heap.size w' a (aN (ar mem i))->(aN (ar mem i)).length<=c->aj w w'->zH mem i w (.returned (.tuple #[bO (aX (ar mem i)) (cq (ar mem i)) (bX (ar mem i)) a (aN (ar mem i)).length c,.string ((dj mem (aN (ar mem i)) (aN (ar mem i)).length).extract 0 (bX (ar mem i)).toNat),.bool true])) w'):=fun a c w'=>aby hL;have hA:Hid (∀ W e w',iZ (ar mem i) W e w'->∃ a c,e=.returned (.tuple #[bO (aX (ar mem i)) (cq (ar mem i)) (bX (ar mem i)) a (aN (ar mem i)).length c,.bool true])/\aQ W.heap.size w' a (aN (ar mem i))/\(aN (ar mem i)).length<=c/\aj W w'):=fun W e w' ⟨a,c,he,ho,hc,hb⟩=>⟨a,c,by rw[he,hI],ho,hc,hb⟩;clear hk hk' hL hI hrs;obtain ⟨R,hR⟩:∃ R,ar mem i=R:=⟨_,rfl⟩;rw[hR] at hg HF hA hG GJ mR;obtain ⟨K,hK⟩:∃ K,aX R=K:=⟨_,rfl⟩;obtain ⟨O,hO⟩:∃ O,cq R=O:=⟨_,rfl⟩;obtain ⟨S,hS⟩:∃ S,bX R=S:=⟨_,rfl⟩;obtain ⟨Z,hZ⟩:∃ Z,aN R=Z:=⟨_,rfl⟩;rw[hK,hO,hS,hZ] at HF hA;rw[hK,hS,hZ] at hg;rw[hK] at mR;obtain ⟨⟨s0,s1⟩,zl,s2,hp,-⟩:=hg;clear hK hO hS hZ hR;go_enter func81,ntmps81;go_wp2_with (first
   | (go_at_call 85;refine (GJ.out _).mono ?_;rintro e w' ⟨rfl,rfl⟩)
   | (go_at_call 135;refine (hG.out _).mono ?_;intro e w1 hans;obtain ⟨a,c,rfl,ho,hc,b1⟩:=hA.out _ _ _ hans;clear hans;have r1:sA w a Z w1:=zc b1 ho;have l1:=QG (k:=K) (o:=O) (s:=S) (c:=c) r1))
  obtain ⟨W1,hW1⟩:∃ W1,w1.alloc (.cells (bj K O S a Z.length c) 117)=W1:=⟨_,rfl⟩;rw[hW1] at l1 ⊢;have x0:=l1.nb.c0;have x1:=l1.nb.c1;have x2:=l1.nb.c2;have x3:=l1.nb.c3;clear hW1 b1 ho r1;go_loop [9,10] (fun t j=>∃ k:Nat,k<=Z.length/\j=ad k/\t=.string (dj mem Z k)) (fun _ j=>Z.length-(intOf j).toNat)
  case atStart=>exact ⟨0,aS _,rfl,rfl⟩
  case round=>
  obtain ⟨k,hk,rfl,rfl⟩:=hrel;have hjs:=Bt hm hp k hk;by_cases hlt:k<Z.length
  ·obtain ⟨b,off,rfl,hb,hcell⟩:=l1.rs.own.row.get hlt;have y1:=hcell k hlt;have hz:=wJ hp hlt;have hu:dj mem Z (k+1)=dj mem Z k++aO mem (Z.getD k 0*32) 32:=rfl;obtain ⟨z,ez⟩:∃ z,Z.getD k 0=z:=⟨_,rfl⟩;rw[ez] at y1 hz hu;have hps:=Em hm hz.1 hz.2;have e1:(0:Int)<=(k:Int):=by omega
   have e2:(k:Int)<(Z.length:Int):=by omega
   have zz:32*k+32<=9223372036854775807:=by omega
   have fN:Hid (∀ W,Calls prog 74 #[.string mem,ad z] W fun e w'=>e=.returned (.string (aO mem (z*32) 32))/\W=w'):=fun W=>(BY mem z W hms hz.1 hz.2).mono fun _ _ h=>⟨h.1,h.2.symm⟩;have HU:Hid (dj mem Z (k+1)=dj mem Z k++aO mem (z*32) 32):=hu;clear hu ez hcell hz;go_wp2_with (go_at_call 74;refine (fN.out _).mono ?_;rintro e w' ⟨rfl,rfl⟩);go_round;case rel=>exact ⟨k+1,by omega,by go_num,by rw[HU.out]⟩
   case measure=>simp[intOf];omega
  obtain rfl:k=Z.length:=by omega
  have i1:S<=32*(Z.length:Int):=s2;have c0:=l1.rs.res.c0;have c1:=l1.rs.res.c1;have c2:=l1.rs.res.c2;have c3:=l1.rs.res.c3;have f0:=l1.rs.res.f0;have f1:=l1.rs.res.f1;have f2:=l1.rs.res.f2;have f3:=l1.rs.res.f3;have i2:S<=((32*Z.length:Nat):Int):=by omega
  have hnb:=(((l1.nb.aR (B':=w.heap.size) (by have:=l1.ne;omega) 0 (ad K)).aR (B':=w.heap.size) (by have:=l1.ne;omega) 1 (ad O)).aR (B':=w.heap.size) (by have:=l1.ne;omega) 2 (ad S)).aR (B':=w.heap.size) (by have:=l1.ne;omega) 3 (.slice a Z.length c);have y2:=hnb.c2;clear hnb;go_wp2;go_region
  all_goals
   have q:=l1.rs.res.eU (ad K) (ad O) (ad S) (.slice a Z.length c);have d:=l1.rs.done (ad K) (ad O) (ad S) (.slice a Z.length c);go_wp2;refine bL (v:=.tuple #[bO K O S a Z.length c,.string ((dj mem Z Z.length).extract 0 S.toNat),.bool true]) (by simp[results,results81,go_sem,q.c0,q.c1,q.c2,q.c3]) rfl (HF.out _ _ _ ?_ hc ?_);·exact d.1.drew
   ·exact d.2.drew
 have hL':dY mem i=false:=by simpa using hL
 have HF:Hid (∀ w',aj w w'->zH mem i w (.returned (.tuple #[bO 0 0 0 none 0 0,.string ⟨#[]⟩,.bool false])) w'):=fun w'=>abx hL';have hA:Hid (∀ W e w',iZ (ar mem i) W e w'->∃ a c,e=.returned (.tuple #[bO (aX (ar mem i)) (cq (ar mem i)) (bX (ar mem i)) a (aN (ar mem i)).length c,.bool (bp (ar mem i))])/\aQ W.heap.size w' a (aN (ar mem i))/\(aN (ar mem i)).length<=c/\aj W w'):=fun W e w' h=>h;have hcase:((mem.size:Int) != 768)=true\/(((mem.size:Int) != 768)=false/\bp (ar mem i)=false)\/(((mem.size:Int) != 768)=false/\bp (ar mem i)=true/\(aX (ar mem i) == 0)=true):=by
  by_cases hm:mem.size=768
  ·right;have g8:((mem.size:Int) != 768)=false:=by simp;omega
   cases hI:bp (ar mem i) with
   | false=>exact Or.inl ⟨g8,rfl⟩
   | true=>
    refine Or.inr ⟨g8,rfl,?_⟩;rw[(yW hI).1];by_cases h0:aP (ar mem i) 0=0;·simpa using h0
    ·rw[OB hm hI h0] at hL';cases hL'
  left;simp;omega
 clear hL hL' hrs;obtain ⟨R,hR⟩:∃ R,ar mem i=R:=⟨_,rfl⟩;rw[hR] at hA hG GJ hcase;obtain ⟨K,hK⟩:∃ K,aX R=K:=⟨_,rfl⟩;obtain ⟨O,hO⟩:∃ O,cq R=O:=⟨_,rfl⟩;obtain ⟨S,hS⟩:∃ S,bX R=S:=⟨_,rfl⟩;obtain ⟨Z,hZ⟩:∃ Z,aN R=Z:=⟨_,rfl⟩;rw[hK,hO,hS,hZ] at hA;rw[hK] at hcase;clear hK hO hS hZ hR;rcases hcase with g8 | ⟨g8,gI⟩ | ⟨g8,gI,gK⟩;all_goals
  go_enter func81,ntmps81;go_wp2_with (first
   | (go_at_call 85;refine (GJ.out _).mono ?_;rintro e w' ⟨rfl,rfl⟩)
   | (go_at_call 135;refine (hG.out _).mono ?_;intro e w1 hans;obtain ⟨a,c,rfl,ho,hc,b1⟩:=hA.out _ _ _ hans;clear hans;have r1:sA w a Z w1:=zc b1 ho;have l1:=QG (k:=K) (o:=O) (s:=S) (c:=c) r1;have x0:=l1.nb.c0;have c0:=l1.rs.res.c0;have c1:=l1.rs.res.c1;have c2:=l1.rs.res.c2;have c3:=l1.rs.res.c3;have f0:=l1.rs.res.f0;have f1:=l1.rs.res.f1;have f2:=l1.rs.res.f2;have f3:=l1.rs.res.f3))
  have q:=l1.rs.res.eU (ad 0) (ad 0) (ad 0) (.slice none 0 0);have d:=l1.rs.done (ad 0) (ad 0) (ad 0) (.slice none 0 0);exact bL (v:=.tuple #[bO 0 0 0 none 0 0,.string ⟨#[]⟩,.bool false]) (by simp[results,results81,go_sem,q.c0,q.c1,q.c2,q.c3]) rfl (HF.out _ d.2)
section
open Go.Sort (Holds putRow grow)
variable {B : Nat} {N : Nat → cW} {F : Nat → Nat} {P : Nat → ByteArray} {w W W' : World} {E : Nat → List aV}
theorem Fs {g:Nat} {zs:List Int} (h:av g (bU zs) W):Holds (Value.int .i64) W g 0 zs.toArray:=by
 intro j hj;have hj':j<zs.length:=by simpa using hj
 have h1:=h.cell j (by simpa using hj');have h2:=h.free j (by simpa using hj');refine ⟨?_,by simpa using h2⟩;rw[cR,h1];simp[hj']
theorem abA {g:Nat} {zs:List Int} (hg:g<W.heap.size) (h:Holds (Value.int .i64) W g 0 zs.toArray):av g (bU zs) W:=by
 refine ⟨fun j hj=>?_,fun j hj=>?_,hg⟩
 ·have hj':j<zs.length:=by simpa using hj
  have:=(h j (by simpa using hj')).1;rw[cR] at this;rw[this];simp[hj']
 have hj':j<zs.length:=by simpa using hj
 have:=(h j (by simpa using hj')).2;rwa [cR] at this
theorem QH {g n:Nat} {zs ys:List Int} {os:Array Obj} (h:av g (bU zs) W) (hl:ys.length=zs.length):av g (bU ys) (grow (putRow (Value.int .i64) (Sort.ahead W n) g 0 ys.toArray) os):=by
 have h0:Holds (Value.int .i64) (Sort.ahead W n) g 0 zs.toArray:=Go.Sort.holds_ahead _ _ _ _ _ _ (Fs h);have hlt:g<(putRow (Value.int .i64) (Sort.ahead W n) g 0 ys.toArray).heap.size:=by rw[Bc];exact h.lt
 refine abA (by rw[NF];omega) (Go.Sort.holds_grow _ _ _ _ _ _ hlt (Go.Sort.holds_putRow _ _ _ _ _ _ h0 (by simpa using hl)))
theorem QI {g n base:Nat} {ys:List Int} {os:Array Obj} (hb:base<=g) (hg:base<=W.heap.size):Below base W (grow (putRow (Value.int .i64) (Sort.ahead W n) g 0 ys.toArray) os):=by
 refine ⟨rfl,rfl,rfl,?_,fun k hk=>?_⟩
 ·rw[NF,Bc];exact sh _ _
 rw[Go.Sort.heap_grow_old _ _ (by rw[Bc];exact cS hk hg)];show (W.heap.modify g _)[k]? = W.heap[k]?
 rw[NG];rw[aG (by omega)]
def fT (zs:List Int):List Int:=zs.mergeSort fun x y=>decide (x<=y)
theorem Jk (zs:List Int):(fT zs).Perm zs:=List.mergeSort_perm zs _
theorem zI (zs:List Int):(fT zs).length=zs.length:=(Jk zs).length_eq
theorem QJ (zs:List Int):(fT zs).Pairwise (·<=·):=by have:=aiQ (le:=fun x y:Int=>decide (x<=y)) (fun a b c h1 h2=>by simp only[dC] at h1 h2 ⊢;omega) (fun a b=>by simp only[kY,dC];omega) zs;exact this.imp fun h=>by simpa using h
def dh (Z:Nat->List Int):Nat->List Int
 | 0=>[]
 | i+1=>dh Z i++Z i
theorem xu {Z:Nat->List Int} (h:∀ i,(Z i).length<=12):∀ i,(dh Z i).length<=12*i
 | 0=>aq _
 | i+1=>by have:=xu h i;have:=h i;rw[dh,bY];omega
def kI (N:Nat->cW):Nat->List Value
 | 0=>[]
 | i+1=>kI N i++(N i).ee
theorem qV (N:Nat->cW):∀ i,(kI N i).length=i*6
 | 0=>rfl
 | i+1=>by rw[kI,bY,qV N i,cW.MM];omega
theorem Jl (N:Nat->cW):∀ n i,i<n->((kI N n).drop (i*6)).take 6=(N i).ee
 | 0,i,h=>by omega
 | n+1,i,h=>by
  rw[kI];by_cases e:i=n
  ·subst e;rw[aiR (by rw[qV];exact aq _),List.drop_eq_nil_of_le (by rw[qV];exact aq _),iX];exact qx (Nat.le_of_eq (cW.MM _))
  ·have hl:=qV N n;rw[aiR (by omega),aiN (by rw[jC];omega)];exact Jl N n i (by omega)
theorem QK (N:Nat->cW) (i j:Nat) (hi:i<8) (hj:j<6):(kI N 8)[i*6+j]? = (N i).ee[j]?:=by have:=fK (fun l:List Value=>l[j]?) (Jl N 8 i hi);rw[tD,aF hj,qD] at this;exact this
theorem dN.range (h:dN B N F P W):W.rangeAt B 0 (kI N 8):=by
 intro j v hv;have hj:j<48:=by have:=(pI.1 hv).1;rw[qV] at this;exact this
 have e:j=j / 6*6+j % 6:=by omega
 rw[e,QK N (j / 6) (j % 6) (by omega) (by omega)] at hv;rw[cR,e];obtain ⟨h1,h2⟩:=pI.1 hv;rw[h.node (j / 6) (by omega) (j % 6) h1,h2]
theorem QL:(prog.info? 132).map (·.size)=some 48:=by kernel_rfl
theorem abB:(prog.info? 131).map (·.size)=some 6:=by kernel_rfl
theorem QM (N:Nat->cW) (i:Nat) (hi:i<8) (W:World):(Instr.index 132 (.agg (kI N 8).toArray) (ad (i:Int))).run prog W=.ok (.agg #[ad (N i).k,ad (N i).o,ad (N i).s,.slice (N i).a (N i).n (N i).c,.string (N i).x,.slice (N i).ae (N i).ne (N i).ce]) W:=by
 have e1:(0:Int)<=(i:Int):=by omega
 have e2:(i:Int)<8:=by omega
 obtain ⟨q,hq,hs⟩:∃ q,prog.info? 131=some q/\q.size=6:=by
  have:=abB;cases h:prog.info? 131 with
  | none=>rw[h] at this;simp at this
  | some q=>rw[h] at this;exact ⟨q,rfl,by simpa using this⟩
 have hg:=Jl N 8 i hi;simp[Instr.index,asIntOf,Ho underlying132,e1,e2,sizeOf,typeInfo,hq,hs,part];rw[aF hi,hg];rfl
theorem abC (zs:List Int):(Lib.compact zs).length=zs.length ↔ ∀ j,j<zs.length->Lib.keeps zs.toArray j=true:=by
 unfold Lib.compact Lib.compactUpTo;rw[DS];constructor
 ·intro h j hj;have:=List.length_filter_eq_length_iff.1 (h.trans (List.length_range (n:=zs.length)).symm) j (mA.2 hj);exact this
 intro h;rw[List.filter_eq_self.2 fun j hj=>h j (mA.1 hj),List.length_range]
theorem QN (zs:List Int) (j:Nat) (hj:j<zs.length):Lib.keeps zs.toArray j=true ↔ (j=0\/zs[j]≠zs[j-1]'(by omega)):=by
 have e1:zs.toArray[j]! = zs[j]:=by simp[hj]
 have e2:zs.toArray[j-1]! = zs[j-1]'(by omega):=by
  have:j-1<zs.length:=by omega
  simp[this]
 unfold Lib.keeps;rw[e1,e2];simp
theorem abD (zs:List Int):(Lib.compact (fT zs)).length=zs.length ↔ zs.Nodup:=by
 rw[<- zI zs,abC,<- (Jk zs).nodup_iff];have hs:=sc.1 (QJ zs);constructor
 ·intro h;refine sc.2 fun i j hi hj hij=>?_;have hk:=(QN (fT zs) j hj).1 (h j hj);rcases hk with hk | hk;·omega
  have h1:(fT zs)[j-1]'(by omega)<=(fT zs)[j]:=hs (j-1) j (by omega) hj (by omega);have h2:(fT zs)[i]<=(fT zs)[j-1]'(by omega):=by
   by_cases e:i=j-1
   ·subst e;exact Int.le_refl _
   exact hs i (j-1) hi (by omega) (by omega)
  omega
 intro h j hj;refine (QN (fT zs) j hj).2 ?_;by_cases h0:j=0;·exact Or.inl h0
 right;have:=sc.1 h (j-1) j (by omega) hj (by omega);exact fun e=>this e.symm
theorem abE {ops:Array Oper} {rest:List Oper} {o:Oper} {A:Act} {Q:Exit->Act->World->Prop} {base g n cap:Nat} {zs:List Int} (hgd:o.guard=none) (sl x:Operand) (ho:o.op=.call { callee:=.builtin .append,args:=#[sl,x],argTypes:=#[29,29] }) (hbuf:bo base w (some ⟨g,0,none⟩) n cap zs) (ax:Option Addr) (cx:Nat) (xs:List Int) (hs:A.eval sl=bg g n cap) (hx:A.eval x=.slice ax xs.length cx) (hR:aI w ax xs) (hlen:n+xs.length<=4194304) (hb:base<=w.heap.size) (h:∀ g' cap' w',bo base w' (some ⟨g',0,none⟩) (n+xs.length) cap' (zs++xs)->Below base w w'->wpList prog ops Q rest (A.put o.dst (bg g' (n+xs.length) cap')) w'):wpList prog ops Q (o :: rest) A w:=by
 obtain ⟨i0,hi,hz0,hz1,hz2⟩:=iW tL;by_cases h0:xs=[]
 ·subst h0;refine Hw _ hgd sl x 29 29 ho _ _ hs hx _ _ (yZ w 29 _ 3 i0 underlying29 hi _ n cap hbuf.fits ax cx) ?_;exact h g cap w (by rw[tA];exact hbuf) (aK _ _)
 rcases hR with hR | ⟨b,off,rfl,hb2,hc⟩;·exact absurd hR h0
 have hm:0<xs.length:=Nu.2 h0;refine rY _ hgd sl x 29 ho base 3 i0 (ad 0) 1 8 underlying29 hi hz0 hz1 hz2 rfl (by omega) _ n _ hs hbuf.2 ⟨b,off,none⟩ xs.length cx (bU xs) hx (by simp) ?_ (IE xs) hm (by unfold maxLen;omega) (by omega) hb _ rfl ?_
 ·intro j u hj;have hj':j<xs.length:=by
   have:=(pI.1 hj).1;simpa using this
  rw[nT,hc j hj',eS _ _ hj',<- hj];simp[hj']
 intro g' cap' w' ho' hg' _ _;refine h g' cap' w' ⟨by rw[hbuf.1];simp,?_⟩ ?_
 ·rw[show bU (zs++xs)=bU zs++bU xs by simp];exact ho'
 exact lY (aK _ _) hg' (tM hbuf) hb
end
section
open Go.Sort (Holds putRow grow)
variable {B : Nat} {N : Nat → cW} {F : Nat → Nat} {P : Nat → ByteArray} {w W W' : World} {Z : Nat → List Int}
structure Ft (N:Nat->cW) (Z:Nat->List Int) (W:World):Prop where
 n:∀ i,i<8->(N i).n=(Z i).length
 row:∀ i,i<8->aI W (N i).a (Z i)
 yK:∀ i,(Z i).length<=12
theorem QO (w:World) (hT:dN B N F P w) (hZ:Ft N Z w):Calls prog 88 #[aD B 0] w fun e w'=>∃ g c,e=.returned (bg g (dh Z 8).length c)/\(dh Z 8).length<=c/\w.heap.size<=g/\av g (bU (fT (dh Z 8))) w'/\aj w w':=by
 have hr:=World.rangeAt_alloc hT.range (.cells #[] 3);have LA:(kI N 8).length=48:=qV N 8;have hix:=fun i hi W=>QM N i hi W;obtain ⟨C,hC⟩:∃ C,(kI N 8).toArray=C:=⟨_,rfl⟩;have HC:Hid ((kI N 8).toArray=C):=hC;rw[hC] at hix;have HX:Hid (∀ i:Nat,i<8->∀ W,(Instr.index 132 (.agg C) (ad (i:Int))).run prog W=.ok (.agg #[ad (N i).k,ad (N i).o,ad (N i).s,.slice (N i).a (N i).n (N i).c,.string (N i).x,.slice (N i).ae (N i).ne (N i).ce]) W):=hix;have b0:=fq (base:=w.heap.size) w (aq _);have l0:=aB w (.cells #[] 3);have hlen:=xu hZ.yK;clear hC hix;go_enter func88,ntmps88;go_wp2_with (refine WW rfl 132 (.tmp 9) rfl B 0 rfl _ _ hr underlying132 rfl (by rw[QL,LA]) ?_;rw[HC.out]);clear hr;go_loopw [3,11] (fun v i w'=>∃ (k n c g:Nat),k<=8/\i=ad k/\v=bg g n c/\bo w.heap.size w' (some ⟨g,0,none⟩) n c (dh Z k)/\aj w w') (fun _ i _=>8-(intOf i).toNat);case atStart=>exact ⟨0,0,0,_,aS _,rfl,rfl,b0,l0⟩
 case round=>
 obtain ⟨k,n,c,g,hk,rfl,rfl,hbuf,hbel⟩:=hrel;clear b0 l0;by_cases hlt:k<8
 ·have hx:=HX.out k hlt;have hpn:=hZ.n k hlt;have hrow:=(hZ.row k hlt).below (hbel);have e1:(0:Int)<=(k:Int):=by omega
  have e2:(k:Int)<8:=by omega
  have hnl:n<=96:=by have:=hlen k;rw[hbuf.1];omega
  have G5:=hZ.yK k;have HS:Hid (dh Z k++Z k=dh Z (k+1)):=rfl;obtain ⟨zk,CV⟩:∃ zk,Z k=zk:=⟨_,rfl⟩;rw[CV] at hpn hrow G5 HS;obtain ⟨d,hd⟩:∃ d,N k=d:=⟨_,rfl⟩;rw[hd] at hx hpn hrow;rw[hpn] at hx;clear CV hd hpn;have nb:=bu d.ee wr 131;have nl:=aB wr (.cells #[ad d.k,ad d.o,ad d.s,.slice d.a zk.length d.c,.string d.x,.slice d.ae d.ne d.ce] 131);have mQ:=hbuf.below nl;have ail:=hrow.below nl;have AJ:=hbel.trans (nl.mono hbel.size);have c3:(wr.alloc (.cells #[ad d.k,ad d.o,ad d.s,.slice d.a zk.length d.c,.string d.x,.slice d.ae d.ne d.ce] 131)).cell? ⟨wr.heap.size,3,none⟩=some (.slice d.a zk.length d.c):=(bu [ad d.k,ad d.o,ad d.s,.slice d.a zk.length d.c,.string d.x,.slice d.ae d.ne d.ce] wr 131).cell 3 (by simp);go_wp2_with (at_builtin;refine abE rfl (.tmp 14) (.tmp 17) rfl mQ _ _ zk (by rfl) (by rfl) ail (by omega) AJ.size ?_;intro g2 c2 w2 lJ bl2);go_roundw;case rel=>exact ⟨k+1,n+zk.length,c2,g2,by omega,by go_num,rfl,by rw[<- HS.out];exact lJ,AJ.trans bl2⟩
  case measure=>simp[intOf];omega
 obtain rfl:k=8:=by omega
 have hn:n=(dh Z 8).length:=hbuf.1;have hc8:=hlen 8;subst hn;have hlt':=hbuf.2.lt g rfl;have hH:av g (bU (dh Z 8)) wr:=by
  rcases hbuf.own with h0 | ⟨g',e,_,hk'⟩
  ·rw[h0];exact ⟨fun j hj=>by simp at hj,fun j hj=>by simp at hj,hlt'.2⟩
  cases e;exact hk'
 have hsort:=Tryz.slices_Sort_int g 0 c (dh Z 8) wr (Fs hH) hlt'.2 (by omega);have HB:Hid (av g (bU (dh Z 8)) wr/\bo w.heap.size wr (some ⟨g,0,none⟩) (dh Z 8).length c (dh Z 8)):=⟨hH,hbuf⟩;clear hbuf hH hZ hT HX HC;go_wp2_with (go_at_call 95;refine hsort.mono ?_;rintro e w7 ⟨rfl,m7,os7,hw7⟩);go_ret;subst hw7;exact ⟨g,c,rfl,HB.out.2.fits,hlt'.1,QH HB.out.1 (zI _),hbel.trans (QI hlt'.1 hbel.size)⟩
end
def iD (d:Nat):UInt8:=UInt8.ofNat (if d<10 then 48+d else 87+d)
def sN (l:List UInt8):List UInt8:=l.flatMap fun c=>[iD (c.toNat / 16),iD (c.toNat % 16)]
theorem abF (l:List UInt8) (c:UInt8):sN (l ++ [c])=sN l ++ [iD (c.toNat / 16),iD (c.toNat % 16)]:=by simp[sN]
theorem QP (l:List UInt8):(sN l).length=2*l.length:=by
 induction l with
 | nil=>rfl
 | cons c l ih=>simp[sN] at ih ⊢;omega
theorem abG (s:ByteArray) (k:Nat) (h:k<s.size):s.data.toList.take (k+1)=s.data.toList.take k ++ [s[k]]:=by rw[kr (by rw[<- cV];exact h)];rfl
theorem abH (s:ByteArray):s.data.toList.take s.size=s.data.toList:=qx (by rw[<- cV];exact aq _)
theorem QQ (s:ByteArray) (k:Nat) (h:k<=s.size):(sN (s.data.toList.take k)).length=2*k:=by rw[QP,fO,<- cV];omega
def Cg (s:ByteArray):ByteArray:=⟨(sN s.data.toList).toArray⟩
section
open Go.Sort
theorem Jm {P:Program} {W:World} {name:String} {k:IntKind} {zs:List Int} {g:Nat} {t e:TypeId} {n:Nat} (hg:P.globalNamed name=some g) (hty:(P.globals[g]?).map (·.type)=some t) (ht:P.underlying t=some (.array n e)) (he:P.underlying e=some (.int k)) (hce:P.cellsOf e=1) (hct:P.cellsOf t=n):∀ (l:List (String × DataW Unit)) (ps:List MemPlace),DataW.LaidVars P W l ps->∀ j:Nat,l[j]? = some (name,Lib.tabData k zs)->Lib.TabIs P W name k zs
 | [],_,_,j,hj=>by simp at hj
 | (n0,d0) :: l,ps,h,0,hj=>by
  obtain ⟨g',t',cs,fuel,p,q,hg',ht',hvar,hd,_,_⟩:=h;obtain ⟨rfl,rfl⟩:n0=name/\d0=Lib.tabData k zs:=by simpa using hj
  obtain rfl:=jT (hg.symm.trans hg');obtain rfl:=jT (hty.symm.trans ht');unfold Lib.TabIs;rw[hvar,<- Lib.cells_of_tab ht he hce hct hd]
 | (n0,d0) :: l,ps,h,j+1,hj=>by obtain ⟨g',t',cs,fuel,p,q,_,_,_,_,hr,_⟩:=h;exact Jm hg hty ht he hce hct l q hr j (by simpa using hj)
theorem Jn {P:Program} {W W':World} {name:String} {k:IntKind} {zs:List Int} (h:Lib.TabIs P W name k zs) (hb:Below W.heap.size W W'):Lib.TabIs P W' name k zs:=by
 unfold Lib.TabIs at h ⊢;obtain ⟨g,hg⟩:∃ g,P.globalNamed name=some g:=by
  unfold World.var? at h;cases hq:P.globalNamed name with
  | none=>simp[hq] at h
  | some g=>exact ⟨g,rfl⟩
 refine var?_below hb hg ?_ h;unfold World.var? at h;simp only[hg,Option.bind_some] at h;cases hq:W.heap[g]? with
 | none=>simp[hq] at h
 | some o=>exact (mY.1 hq).1
theorem abI {W:World} (k:Nat) (os:Array Obj):Below W.heap.size W (grow (W.drewN k) os):=by
 refine ⟨rfl,rfl,rfl,?_,fun j hj=>?_⟩
 ·show W.heap.size<=(W.heap++os).size
  simp
 show (W.heap++os)[j]? = W.heap[j]?
 exact aiO hj
end
abbrev Ci:List Int:=[48,49,50,51,52,53,54,55,56,57,97,98,99,100,101,102]
theorem abJ (d:Nat) (h:d<16):Ci.getD d 0=((iD d).toNat:Int):=by
 have:∀ d:Fin 16,Ci.getD d.val 0=((iD d.val).toNat:Int):=by decide
 exact this ⟨d,h⟩
theorem QR:prog.globalNamed "loop.example/g00278/impl.hexDigits" = some 6:=by kernel_rfl
theorem abK:(prog.info? 5).map (fun i=>(i.zero,i.size,i.bytes))=some (some (.int .u8 0),1,1):=by kernel_rfl
def vz (w w':World) (s:ByteArray) (k:Nat):Prop:=
 Below w.heap.size w w'/\w.heap.size<w'.heap.size/\tG w' w.heap.size 0 (sN (s.data.toList.take k))/\
  ∀ j,j<2*s.size->(w'.cell? ⟨w.heap.size,j,none⟩).isSome=true/\w'.frozen? ⟨w.heap.size,j,none⟩=false
theorem abL (w:World) (M:Array Value) (s:ByteArray) (hM:M.size=2*s.size):vz w (w.alloc (.cells M 5)) s 0:=by
 refine ⟨(aK _ _).alloc (aq _) _,?_,fun j hj=>by simp[sN] at hj,fun j hj=>⟨?_,?_⟩⟩
 ·show w.heap.size<(w.heap.push _).size
  simp
 ·rw[rV,WO (by omega)];rfl
 have:=AP w M 5 0 0 j;rw[this];simp
theorem abM (w w':World) (s:ByteArray) (h:vz w w' s s.size):(convert 22 9 (.slice (some ⟨w.heap.size,0,none⟩) (2*s.size) (2*s.size))).run prog w'=.ok (.string (Cg s)) w':=by have:=qE (P:=prog) w' 22 9 5 w.heap.size 0 (2*s.size) _ underlying22 underlying5 underlying9 h.2.2.1 (2*s.size) (QQ s s.size (aq _)).symm;rw[abH] at this;exact this
theorem abN (wr:World) (x y:Int):∀ j u,[Value.int .u8 x,Value.int .u8 y][j]? = some u->((wr.alloc (.cells #[Value.int .u8 x,Value.int .u8 y] 5)).drew).cell? ((⟨wr.heap.size,0,none⟩:Addr).add j)=some u:=by
 intro j u h;show (wr.alloc (.cells #[Value.int .u8 x,Value.int .u8 y] 5)).cell? _=_
 rw[nT,cR,rV];simpa using h
theorem abO (x y:Int):∀ u ∈ [Value.int .u8 x,Value.int .u8 y],u.oneCell'=true:=by intro u h;simp at h;rcases h with rfl | rfl <;> rfl
theorem abP {w wr:World} {s:ByteArray} {k:Nat} (h:vz w wr s k) (hlt:k<s.size) (x y:Int):∀ j,j < [Value.int .u8 x,Value.int .u8 y].length->(((wr.alloc (.cells #[Value.int .u8 x,Value.int .u8 y] 5)).drew).cell? ⟨w.heap.size,0+2*k*1+j,none⟩).isSome=true/\((wr.alloc (.cells #[Value.int .u8 x,Value.int .u8 y] 5)).drew).frozen? ⟨w.heap.size,0+2*k*1+j,none⟩=false:=by intro j hj;have hj':j<2:=hj;have hb:Below wr.heap.size wr (wr.alloc (.cells #[Value.int .u8 x,Value.int .u8 y] 5)):=(aK _ _).alloc (aq _) _;have:=h.2.2.2 (0+2*k*1+j) (by omega);exact ⟨(fK Option.isSome (hb.cell (p:=⟨w.heap.size,0+2*k*1+j,none⟩) h.2.1)).trans this.1,(hb.frozen (p:=⟨w.heap.size,0+2*k*1+j,none⟩) h.2.1).trans this.2⟩
theorem abQ {w wr:World} {s:ByteArray} {k:Nat} (h:vz w wr s k) (hlt:k<s.size):vz w (((wr.alloc (.cells #[Value.int .u8 ((iD (s[k].toNat / 16)).toNat:Int),Value.int .u8 ((iD (s[k].toNat % 16)).toNat:Int)] 5)).drew).setCells w.heap.size (2*k) [Value.int .u8 ((iD (s[k].toNat / 16)).toNat:Int),Value.int .u8 ((iD (s[k].toNat % 16)).toNat:Int)]) s (k+1):=by
 obtain ⟨hb,hz,hH,hS⟩:=h;have hL:=QQ s k (by omega);generalize hV:(((wr.alloc (.cells #[Value.int .u8 ((iD (s[k].toNat / 16)).toNat:Int),Value.int .u8 ((iD (s[k].toNat % 16)).toNat:Int)] 5)).drew))=V;have hV1:Below wr.heap.size wr V:=by rw[<- hV];exact ((aK _ _).alloc (aq _) _).drew
 have KZ:∀ j,V.cell? ⟨w.heap.size,j,none⟩=wr.cell? ⟨w.heap.size,j,none⟩:=fun j=>hV1.cell (p:=⟨w.heap.size,j,none⟩) hz;have hVf:∀ j,V.frozen? ⟨w.heap.size,j,none⟩=wr.frozen? ⟨w.heap.size,j,none⟩:=fun j=>hV1.frozen (p:=⟨w.heap.size,j,none⟩) hz;have hin:∀ j,j<2->(V.cell? ⟨w.heap.size,2*k+j,none⟩).isSome=true:=fun j hj=>by rw[KZ];exact (hS _ (by omega)).1
 refine ⟨?_,?_,?_,?_⟩;·exact qF (aq _) _ _ _ (hb.trans (hV1.mono hb.size))
 ·rw[yP];have:=hV1.size;omega
 ·rw[abG s k hlt,abF];intro j hj;have hj':j<2*k+2:=by simp[hL] at hj;omega
  rw[cR];by_cases h1:j<2*k
  ·rw[Nj _ _ _ _ _ (fun _ _=>Or.inl h1),KZ];have:=hH j (by omega);rw[cR] at this;rw[this,Hp (by omega)]
  have:=World.cell?_setCells_in w.heap.size [Value.int .u8 ((iD (s[k].toNat / 16)).toNat:Int),Value.int .u8 ((iD (s[k].toNat % 16)).toNat:Int)] (2*k) V hin (j-2*k) (by show _<2;omega);rw[show 2*k+(j-2*k)=j by omega] at this;rw[this,Nl (by omega)];have:j=2*k\/j=2*k+1:=by omega
  rcases this with rfl | rfl;·simp[hL]
  simp[hL]
 intro j hj;refine ⟨NJ _ _ _ _ _ (by rw[KZ];exact (hS j hj).1),?_⟩;rw[World.frozen?_setCells,hVf];exact (hS j hj).2
theorem abR (s:ByteArray) (w:World) (hs:s.size<=70368744177664) (htab:Lib.TabIs prog w "loop.example/g00278/impl.hexDigits" .u8 Ci):Calls prog 161 #[.string s] w fun e w'=>e=.returned (.string (Cg s))/\Below w.heap.size w w':=by
 obtain ⟨i0,hi,hz0,hz1,hz2⟩:=iW abK;obtain ⟨M,hM⟩:∃ M,M=madeCells (Value.int .u8 0).cells ((2*(s.size:Int)).toNat*i0.size):=⟨_,rfl⟩;have hMs:M.size=2*s.size:=by rw[hM,size_madeCells,hz1];omega
 have hmk:(Instr.makeSlice 22 (.int .i64 0) (.int .i64 (2*(s.size:Int)))).run prog w=.ok (.slice (some ⟨w.heap.size,0,none⟩) 0 (2*s.size)) (w.alloc (.cells M 5)):=by have h:=run_make (P:=prog) w 22 5 i0 (.int .u8 0) underlying22 hi hz0 .i64 .i64 0 (2*(s.size:Int)) (by omega) (by omega) (by rw[hz2];omega) (by omega);rw[<- hM] at h;rw[h];congr 2
 clear hM;go_enter func161,ntmps161;go_wp2;go_loopw [3,4] (fun d i w'=>∃ k:Nat,k<=s.size/\i=.int .i64 k/\d=.slice (some ⟨w.heap.size,0,none⟩) (2*k) (2*s.size)/\vz w w' s k) (fun _ i _=>s.size-(intOf i).toNat);case atStart=>exact ⟨0,aS _,rfl,rfl,abL w M s hMs⟩
 case round=>
 obtain ⟨k,hk,rfl,rfl,hown⟩:=hrel;by_cases hlt:k<s.size
 ·have hc:=s[k].toNat_lt;have e1:(0:Int)<=(k:Int):=by omega
  have e2:(k:Int)<(s.size:Int):=by omega
  have ht2:=Jn htab hown.1;have c1:=ht2.cell QR (s[k].toNat / 16) (by show _<16;omega);have c2:=ht2.cell QR (s[k].toNat % 16) (by show _<16;omega);rw[abJ _ (by omega)] at c1 c2;have hlen:Hid (wr.heap.size≠w.heap.size):=show _≠_ by have:=hown.2.1;omega
  have e3:(0:Int)<=(s[k].toNat:Int) / 16:=by omega
  have e4:(s[k].toNat:Int) / 16<16:=by omega
  have e5:(0:Int)<=(s[k].toNat:Int) % 16:=by omega
  have e6:(s[k].toNat:Int) % 16<16:=by omega
  have e7:((s[k].toNat:Int) / 16).toNat=s[k].toNat / 16:=by omega
  have e8:((s[k].toNat:Int) % 16).toNat=s[k].toNat % 16:=by omega
  have e9:bits .and .u8 (s[k].toNat:Int) 15=(s[k].toNat:Int) % 16:=u8_and15 _ (by omega) (by omega);obtain ⟨W2,Ld⟩:∃ W2,W2=((wr.alloc (.cells #[Value.int .u8 ((iD (s[k].toNat / 16)).toNat:Int),Value.int .u8 ((iD (s[k].toNat % 16)).toNat:Int)] 5)).drew).setCells w.heap.size (2*k) [Value.int .u8 ((iD (s[k].toNat / 16)).toNat:Int),Value.int .u8 ((iD (s[k].toNat % 16)).toNat:Int)]:=⟨_,rfl⟩;have ho2:Hid (vz w W2 s (k+1)):=show vz w W2 s (k+1) by rw[Ld];exact abQ hown hlt
  have hW2:Hid (W2=((wr.alloc (.cells #[Value.int .u8 ((iD (s[k].toNat / 16)).toNat:Int),Value.int .u8 ((iD (s[k].toNat % 16)).toNat:Int)] 5)).drew).setCells w.heap.size (2*k) [Value.int .u8 ((iD (s[k].toNat / 16)).toNat:Int),Value.int .u8 ((iD (s[k].toNat % 16)).toNat:Int)]):=Ld;clear Ld;go_wp2;go_region_law (refine step_append_room rfl (.tmp 15) (.tmp 28) 22 rfl 5 i0 1 underlying22 hi hz1 w.heap.size 0 (2*k) (2*s.size) (by simp[Act.eval]) ⟨wr.heap.size,0,none⟩ 2 2 [.int .u8 ((iD (s[k].toNat / 16)).toNat:Int),.int .u8 ((iD (s[k].toNat % 16)).toNat:Int)] (by simp[Act.eval]) rfl (abN _ _ _) (abO _ _) (by omega) (abP hown hlt _ _) ?_)
  all_goals
   rw[<- hW2.out];go_wp2;go_roundw;case rel=>exact ⟨k+1,by omega,by go_num,by rw[show 2*(k+1)=2*k+2 by omega],ho2.out⟩
   case measure=>simp[intOf];omega
 obtain rfl:k=s.size:=by omega
 have hcv:=abM w wr s hown;go_wp2;go_ret;exact ⟨rfl,hown.1⟩
end Go.Proofs.YtidmmopnkjbjoaaGreatDoor
