/- Joined texts. -/
import Derived.Test.YtgpfmgaidbjcpaaGreatDoorJhI
set_option linter.unusedVariables false
set_option linter.unusedSimpArgs false
set_option maxRecDepth 10000
set_option maxHeartbeats 16000000
namespace Go.Proofs.YtgpfmgaidbjcpaaGreatDoor
open ChangeShapes WideShapes ChangeAt RowKit
open Go.Proofs.Tryz
section
theorem acm:(prog.info? 246).map (fun i=>(i.zero,i.size))=some (some (.agg (Array.replicate 768 (.int .u8 0))),768):=by kernel_rfl
theorem acn:(prog.info? 5).map (·.size)=some 1:=by kernel_rfl
theorem QN:(prog.info? 244).map (·.size)=some 8:=by kernel_rfl
variable {P : Program}
theorem aco (w:World) (dT sT ty elem:TypeId) (b o n cap:Nat) (t:ByteArray) (hu:P.underlying dT=some (.slice elem)) (hs:(P.info? elem).map (·.size)=some 1) (hle:n<=t.size) (ht:w.there b o n):(Builtin.copy_ #[dT,sT] ty #[.slice (some ⟨b,o,none⟩) n cap,.string t]).run P w=.ok (goInt n) (w.setCells b o (Lib.byteCells (t.data.toList.take n))):=by
 have hlen:(Lib.byteCells (t.data.toList.take n)).length=n:=by rw[nt,jk,<- dX];omega
 have hst:=YM (P:=P) b o (Lib.byteCells (t.data.toList.take n)) 0 w (by rw[hlen];intro j hj;simpa using (ht j hj).1) (by rw[hlen];intro j hj;simpa using (ht j hj).2) (H9 _);have hmin:Nat.min t.size n=n:=Nat.min_eq_right hle;have htk:List.take n (List.map (fun b:UInt8=>Value.int IntKind.u8 (b.toNat:Int)) t.data.toList)=Lib.byteCells (t.data.toList.take n):=by simp[Lib.byteCells,List.map_take]
 cases hq:P.info? elem with
 | none=>simp[hq] at hs
 | some i=>
  simp only[sr] at hst;simp[Builtin.copy_,DP hu,Builtin.lenOf,Builtin.firstCells,sizeOf,typeInfo,hq,hmin,htk,hst]
theorem JE {fn:Func} {p:Tmp} {ty:TypeId} (h:fn.results=#[.cell p ty]) (tmps:Array Value) (P:Program) (w:World):(results fn tmps).run P w=((asAddr (tmps.getD p undef)).run P w).andThen fun a w₁=>(loadVar ty a).run P w₁:=by simp only[results,h];simp[Oj,Result.andThen]
theorem acp {w:World} {b o:Nat} {l:List UInt8} (h:w.rangeAt b o (Lib.byteCells l)):wO w b o l:=fun j hj=>h j _ (by simp[Lib.byteCells,hj])
theorem Cj {w:World} {b o:Nat} {x:List Value} (h:w.rangeAt b o x) (k n:Nat):w.rangeAt b (o+k) ((x.drop k).take n):=fun j v hj=>by
 rw[yZ] at hj;split at hj
 ·rw[tJ] at hj;have:=h _ v hj;rwa [<- wK] at this
 cases hj
theorem Fp (l:List UInt8) (k n:Nat):((Lib.byteCells l).drop k).take n=Lib.byteCells ((l.drop k).take n):=by simp[Lib.byteCells,List.map_drop,List.map_take]
theorem Fq (w:World) (C:Array Value) (T:TypeId):(w.alloc (.cells C T)).there w.heap.size 0 C.size:=fun j hj=>by
 rw[dW];refine ⟨?_,?_⟩;·rw[uQ];simp[hj]
 simp[DO]
theorem QO (w:World) (b o:Nat):w.rangeAt b o []:=fun j v h=>by simp at h
theorem Fs {w:World} {b o:Nat} {x y:List Value} (h:w.rangeAt b o x) (k:w.rangeAt b (o+x.length) y):w.rangeAt b o (x++y):=fun j v hj=>by
 by_cases hl:j<x.length;·rw[nD hl] at hj;exact h j v hj
 rw[nF (by omega)] at hj;have:=k _ v hj;rwa [show o+x.length+(j-x.length)=o+j by omega] at this
theorem JF {w w':World} {B b o:Nat} {x:List Value} (h:w.rangeAt b o x) (hb:Below B w w') (hB:b<B):w'.rangeAt b o x:=fun j v hj=>(hb.cell (p:=⟨b,o+j,none⟩) hB).trans (h j v hj)
theorem acq {w w':World} {B b o n:Nat} (h:w.there b o n) (hb:Below B w w') (hB:b<B):w'.there b o n:=fun j hj=>by rw[hb.cell (p:=⟨b,o+j,none⟩) hB,hb.frozen (p:=⟨b,o+j,none⟩) hB];exact h j hj
theorem Ck {w:World} {b o n o' n':Nat} (h:w.there b o n) (h1:o<=o') (h2:o'+n'<=o+n):w.there b o' n':=fun j hj=>by have:=h (o'-o+j) (by omega);rwa [show o+(o'-o+j)=o'+j by omega] at this
theorem acr {w w':World} {v' sv xv:Value} {ops:Array Oper} {rest:List Oper} {o:Oper} {a:Act} {Q:Exit->Act->World->Prop} (hgd:o.guard=none) (s x:Operand) (t:TypeId) (ho:o.op=.call { callee:=.builtin .append,args:=#[s,x],argTypes:=#[t,t] }) (hs:a.eval s=sv) (hx:a.eval x=xv) (hr:(Builtin.append_ #[t,t] o.type #[sv,xv]).run P w=.ok v' w') (h:wpList P ops Q rest (a.put o.dst v') w'):wpList P ops Q (o :: rest) a w:=by refine wpList_plain hgd fun K hK=>?_;unfold Oper.wp execOp;simp only[ho,resolve,invoke,builtin,Oj,Ol,Om,List.map_toArray,qF,Ob,hs,hx,hr];exact hK _ _ h
theorem JG (off:Nat):∀ (l:List Value) (n:Nat) (Z:Array Value),off+n+l.length<=Z.size->((l.zipIdx n).foldl (fun (cs:Array Value) (p:Value × Nat)=>cs.setIfInBounds (off+p.2) p.1) Z).toList=Z.toList.take (off+n)++l++Z.toList.drop (off+n+l.length)
 | [],n,Z,h=>by simp
 | v :: r,n,Z,h=>by
  simp only[fv] at h;rw[List.zipIdx_cons,List.foldl_cons,JG off r (n+1) _ (by simp;omega)];have hlt:off+n<Z.toList.length:=by simp;omega
  rw[show off+(n+1)=off+n+1 by omega];simp only[Array.toList_setIfInBounds,fv];have hm:min (off+n) Z.toList.length=off+n:=by omega
  have e1:(Z.toList.set (off+n) v).take (off+n+1)=Z.toList.take (off+n) ++ [v]:=by rw[List.set_eq_take_append_cons_drop,aN hlt,List.take_append,jk,hm,Y9];rw[show min (off+n+1) (off+n)=off+n by omega,show off+n+1-(off+n)=1 by omega];rfl
  have e2:(Z.toList.set (off+n) v).drop (off+n+1+r.length)=Z.toList.drop (off+n+(r.length+1)):=by rw[List.drop_set_of_lt (by omega)];congr 1;omega
  rw[e1,e2];simp
theorem acs (A B Z:Array Value) (h:Z.size=A.size+B.size):(Array.foldl (fun (cs:Array Value) (x:Value × Nat)=>cs.setIfInBounds (0+x.snd) x.fst) Z A.zipIdx).size=Z.size/\Array.foldl (fun (cs:Array Value) (x:Value × Nat)=>cs.setIfInBounds (A.size+x.snd) x.fst) (Array.foldl (fun (cs:Array Value) (x:Value × Nat)=>cs.setIfInBounds (0+x.snd) x.fst) Z A.zipIdx) B.zipIdx=A++B:=by
 have Hl:A.toList.length=A.size:=by simp
 have hBl:B.toList.length=B.size:=by simp
 have yj:Z.toList.length=Z.size:=by simp
 have hf1:=JG 0 A.toList 0 Z (by rw[Hl];omega);have e1:(Array.foldl (fun (cs:Array Value) (x:Value × Nat)=>cs.setIfInBounds (0+x.snd) x.fst) Z A.zipIdx).toList=A.toList++Z.toList.drop A.size:=by rw[<- Array.foldl_toList,Array.toList_zipIdx,hf1,Hl,dW,dW];rfl
 generalize Array.foldl (fun (cs:Array Value) (x:Value × Nat)=>cs.setIfInBounds (0+x.snd) x.fst) Z A.zipIdx=G at e1;have hGl:G.toList.length=G.size:=by simp
 have hG:G.size=Z.size:=by rw[<- hGl,e1,de,kE,Hl,yj];omega
 refine ⟨hG,?_⟩;have hf2:=JG A.size B.toList 0 G (by rw[hBl];omega);apply sk.1;rw[<- Array.foldl_toList,Array.toList_zipIdx,hf2,sr,hBl,e1,amf (by omega),ox (by omega),List.drop_of_length_le (by rw[de,kE,Hl,yj];omega),qH,uS]
end
structure vo (B:Nat) (w:World) (l:List UInt8) (k:Nat) (W:World):Prop where
 t0:W.there B 0 768
 t1:W.there (B+1) 0 768
 row:W.rangeAt (B+1) 0 (Lib.byteCells (l.take (k*8)))
 au:Below B w W
 lt:B+1<W.heap.size
theorem acu (w:World) (Z:Array Value) (hZ:Z.size=768) (l:List UInt8):vo w.heap.size w l 0 ((w.alloc (.cells Z 246)).alloc (.cells Z 246)):=by have h0:=Fq w Z 246;have h1:=Fq (w.alloc (.cells Z 246)) Z 246;rw[Ir] at h1;rw[hZ] at h0 h1;exact ⟨World.there_alloc h0 _,h1,by simpa [Lib.byteCells] using QO _ _ _,((aQ _ _).alloc (av _) _).alloc (by simp) _,by simp⟩
theorem vo.drew {B:Nat} {w W:World} {l:List UInt8} {k:Nat} (h:vo B w l k W):vo B w l k W.drew:=⟨by simpa using h.t0,by simpa using h.t1,by simpa using h.row,h.au.drew,h.lt⟩
theorem vo.step {B:Nat} {w W:World} {l:List UInt8} {k:Nat} (h:vo B w l k W) (hl:l.length=768) (hk:k<96):vo B w l (k+1) (W.setCells (B+1) (k*8) (Lib.byteCells ((l.drop (k*8)).take 8))):=by
 have hlen:(Lib.byteCells ((l.drop (k*8)).take 8)).length=8:=by rw[nt,jk,kE];omega
 have hpl:(Lib.byteCells (l.take (k*8))).length=k*8:=by rw[nt,jk];omega
 refine ⟨Is h.t0 _ _ _,Is h.t1 _ _ _,?_,uX (by omega) _ _ _ h.au,by rw[wP];exact h.lt⟩;rw[show (k+1)*8=k*8+8 by omega,YT,On];refine Fs (DY h.row _ _ _ (by rw[hpl];omega)) ?_;rw[hpl,dW];exact DZ _ _ _ _ (by rw[hlen];exact Ck h.t1 (by omega) (by omega))
theorem acv (s:ByteArray) (k:Nat) (h:k+8<=768):(s.extract k 768).data.toList.take 8=(s.data.toList.drop k).take 8:=by rw[wH,Y9];congr 1;omega
theorem acw (s:ByteArray) (w:World) (hs:s.size=768):Calls prog 236 #[.string s] w (aV (.agg (Lib.byteCells s.data.toList).toArray) w):=by
 have hl:s.data.toList.length=768:=by rw[<- dX];exact hs
 obtain ⟨hz0,hsz⟩:=zero_of_info acm;obtain ⟨Z,Dz,hZ⟩:∃ Z:Array Value,Z=Array.replicate 768 (.int .u8 0)/\Z.size=768:=⟨_,rfl,by simp⟩;rw[<- Dz] at hz0;clear Dz;have h0:=acu w Z hZ s.data.toList;obtain ⟨C,hC⟩:∃ C,(Lib.byteCells s.data.toList).toArray=C:=⟨_,rfl⟩;rw[hC];go_enter func236,ntmps236;go_wp2;go_loopw [5] (fun i w'=>∃ k:Nat,k<=96/\i=aa k/\vo w.heap.size w s.data.toList k w') (fun i _=>96-(intOf i).toNat);case atStart=>exact ⟨0,bh _,rfl,h0⟩
 case round=>
 obtain ⟨k,hk,rfl,hc⟩:=hrel;by_cases hlt:k<96
 ·have e1:(0:Int)<=(k:Int):=by omega
  have e2:(k:Int)<96:=by omega
  have e3:(0:Int)<=(k:Int)*8:=by omega
  have e4:(k:Int)*8<=(s.size:Int):=by omega
  have hd:=hc.drew;have hcp:=aco (P:=prog) wr.drew 22 9 3 5 (w.heap.size+1) (k*8) 8 8 (s.extract (k*8) 768) underlying22 acn (by rw[pH];omega) (Ck hd.t1 (by omega) (by omega));rw[acv s (k*8) (by omega)] at hcp;have h1:=hd.step hl hlt;obtain ⟨W1,hW1⟩:∃ W1,wr.drew.setCells (w.heap.size+1) (k*8) (Lib.byteCells ((s.data.toList.drop (k*8)).take 8))=W1:=⟨_,rfl⟩;rw[hW1] at hcp h1;clear hW1;go_wp2;go_region
  all_goals
   go_wp2;go_roundw;case rel=>exact ⟨k+1,by omega,by go_num,h1⟩
   case measure=>simp[intOf];omega
 obtain rfl:k=96:=by omega
 have hr:=hc.row;rw[ox (by omega)] at hr;have hn:(Lib.byteCells s.data.toList).length=768:=by rw[nt,hl]
 have hrr:(wr.setCells w.heap.size 0 (Lib.byteCells s.data.toList)).rangeAt w.heap.size 0 (Lib.byteCells s.data.toList):=DZ _ _ _ _ (by rw[hn];exact hc.t0);have hlr:=Zb (P:=prog) _ w.heap.size 0 246 _ _ hrr underlying246 rfl (by rw[hsz,hn]);have hb:ah w (wr.setCells w.heap.size 0 (Lib.byteCells s.data.toList)):=uX (av _) _ _ _ hc.au;have hCl:C.toList=Lib.byteCells s.data.toList:=by rw[<- hC]
 have hCs:C.size=768:=by rw[<- hC];simpa using hn
 have h1:C.all (·.oneCell')=true:=by rw[<- hC];exact all_oneCell_toArray (H9 _)
 obtain ⟨W1,hW1⟩:∃ W1,wr.setCells w.heap.size 0 (Lib.byteCells s.data.toList)=W1:=⟨_,rfl⟩;rw[hW1] at hlr hb;rw[hC] at hlr;go_wp2_with (first
  | (refine Zc rfl 246 (.tmp 3) rfl (w.heap.size+1) 0 rfl _ _ hr underlying246 rfl (by rw[hsz,hn]) ?_;rw[hC])
  | (refine wpList_store_mid rfl 246 (.tmp 2) (.tmp 17) rfl w.heap.size 0 C rfl rfl (by rw[hCs];exact hc.t0) (by rw[hsz,hCs]) h1 ?_;rw[hCl,hW1]))
 refine bF (v:=.agg C) ?_ rfl ⟨rfl,hb⟩;rw[JE rfl];show ((asAddr (ao w.heap.size 0)).run prog W1).andThen _=_
 simp only[asAddr,Ol,Om,hlr]
section
structure vp (B:Nat) (w:World) (a b:ByteArray) (W:World):Prop where
 c0:W.cell? ⟨B,0,none⟩=some (.string a)
 c1:W.cell? ⟨B,1,none⟩=some (.string b)
 lt:B<W.heap.size
 au:Below B w W
variable {B : Nat} {w W W' : World} {a b : ByteArray}
theorem vp.below (h:vp B w a b W) (hb:ah W W'):vp B w a b W':=⟨(hb.cell (p:=⟨B,0,none⟩) h.lt).trans h.c0,(hb.cell (p:=⟨B,1,none⟩) h.lt).trans h.c1,cv h.lt hb.size,h.au.trans (hb.mono (pJ h.lt))⟩
theorem acx (a b:ByteArray) (w:World):vp w.heap.size w a b (w.alloc (.cells #[.string a,.string b] 25)):=by refine ⟨?_,?_,?_,?_⟩;all_goals first | exact (aQ _ _).alloc (av _) _ | (simp[go_sem];done) | (simp;done)
end
section
theorem acy:(prog.info? 248).map (fun i=>(i.zero,i.size))=some (some (.agg (Array.replicate 1536 (.int .u8 0))),1536):=by kernel_rfl
variable {B : Nat} {w W : World} {a b : ByteArray}
theorem acz (s:ByteArray) (hs:s.size=768) (h:vp B w a b W):Calls prog 236 #[.string s] W fun e w'=>e=.returned (.agg (Lib.byteCells s.data.toList).toArray)/\vp B w a b w':=(acw s W hs).mono fun _ _ ⟨he,hb⟩=>⟨he,h.below hb⟩
theorem acA (h:vp B w a b W):vp B w a b W.drew:=⟨h.c0,h.c1,h.lt,h.au.drew⟩
structure my (G:Nat) (la lb:List UInt8) (W:World):Prop where
 m:W.rangeAt G 0 (Lib.byteCells la)
 d:W.rangeAt G 768 (Lib.byteCells lb)
 t:W.there G 0 1536
 lt:G<W.heap.size
theorem acB (la lb:List UInt8) (h1:la.length=768) (h2:lb.length=768) (w:World):my w.heap.size la lb (w.alloc (.cells ((Lib.byteCells la).toArray++(Lib.byteCells lb).toArray) 248)):=by
 have hs:((Lib.byteCells la).toArray++(Lib.byteCells lb).toArray).size=1536:=by simp[Lib.byteCells,h1,h2]
 have h0:=Fq w ((Lib.byteCells la).toArray++(Lib.byteCells lb).toArray) 248;rw[hs] at h0;refine ⟨?_,?_,h0,by simp⟩
 ·intro j v hj;have hjl:j<(Lib.byteCells la).length:=(qI.1 hj).1;rw[dW,uQ,Array.getElem?_append_left (by simpa using hjl)];simpa using hj
 intro j v hj;have hla:(Lib.byteCells la).length=768:=by rw[nt,h1]
 rw[uQ,Array.getElem?_append_right (by simp[hla])];simpa [hla] using hj
set_option maxRecDepth 20000 in
theorem acC (a b:ByteArray) (w:World) (ha:a.size=768) (hb:b.size=768):Calls prog 202 #[.agg #[.string a,.string b]] w fun e w'=>∃ G,e=.returned (ao G 0)/\w.heap.size<=G/\my G a.data.toList b.data.toList w'/\ah w w':=by
 have hla:a.data.toList.length=768:=by rw[<- dX];exact ha
 have hlb:b.data.toList.length=768:=by rw[<- dX];exact hb
 have h0:=acx a b w;have hnew:=acB a.data.toList b.data.toList hla hlb;obtain ⟨X,hX⟩:∃ X,(Lib.byteCells a.data.toList).toArray=X:=⟨_,rfl⟩;obtain ⟨Y,hY⟩:∃ Y,(Lib.byteCells b.data.toList).toArray=Y:=⟨_,rfl⟩;have yN:X.size=768:=by rw[<- hX];simp[Lib.byteCells,hla]
 have hYs:Y.size=768:=by rw[<- hY];simp[Lib.byteCells,hlb]
 obtain ⟨hz0,-⟩:=zero_of_info acy;obtain ⟨Z0,Dz,akR⟩:∃ Z:Array Value,Z=Array.replicate 1536 (Value.int .u8 0)/\Z.size=1536:=⟨_,rfl,by rw[Array.size_replicate]⟩;rw[<- Dz] at hz0;clear Dz;obtain ⟨g1,g2⟩:=acs X Y Z0 (by omega);simp only[dW,Array.size_zipIdx,yN,hYs,akR] at g1 g2;rw[hX,hY] at hnew;obtain ⟨Z,hZ⟩:∃ Z,X++Y=Z:=⟨_,rfl⟩;rw[hZ] at g2 hnew;go_enter func202,ntmps202;go_wp2;obtain ⟨W,hW⟩:∃ W,w.alloc (.cells #[.string a,.string b] 25)=W:=⟨_,rfl⟩;rw[hW] at h0 ⊢;have c0:=h0.c0;have c1:=h0.c1;have hd:=acA h0;go_region_with (go_at_call 236;refine (acz (B:=w.heap.size) (w:=w) (a:=a) (b:=b) _ (by assumption) (by assumption)).mono ?_;rintro e w4 ⟨rfl,h4⟩;(first | rw[hX] | rw[hY]);have d0:=h4.c0;have d1:=h4.c1)
 all_goals
  go_wp2;go_ret;exact ⟨w4.heap.size,rfl,h4.au.size,hnew w4,h4.au.alloc h4.au.size _⟩
end
theorem QP (w:World):(sizeOf 5).run prog w=.ok 1 w:=sizeOf5 w
theorem Ft {α:Type} (x:List α) (h:x.length=8):∃ a b c d e f g i,x=[a,b,c,d,e,f,g,i]:=by
 match x,h with
 | [a,b,c,d,e,f,g,i],_=>exact ⟨a,b,c,d,e,f,g,i,rfl⟩
theorem acD (C:Array Value) (o:Nat) (v:Value) (w:World) (h:C[o]? = some v):(part 5 C o).run prog w=.ok v w:=by have ha:=isAgg5 w;simp[part,Oj,ha,QP,h]
theorem acE (x y:UInt8) (w:World):(Op.equalIn 9999 5 (.int .u8 (x.toNat:Int)) (.int .u8 (y.toNat:Int))).run prog w=.ok (decide (x=y)) w:=by
 rw[show (9999:Nat)=9998+1 from rfl,run_equalIn_int w 9998 5 .u8 .u8 _ _ underlying5]
 congr 1;by_cases h:x=y;·subst h;simp
 have:¬ x.toNat=y.toNat:=fun e=>h (UInt8.toNat_inj.1 e);simp[h];omega
theorem acF (x y:List UInt8) (hx:x.length=8) (hy:y.length=8) (w:World):(Op.equalIn 10000 244 (.agg (Lib.byteCells x).toArray) (.agg (Lib.byteCells y).toArray)).run prog w=.ok (decide (x=y)) w:=by
 obtain ⟨a,b,c,d,e,f,g,i,rfl⟩:=Ft x hx;obtain ⟨a',b',c',d',e',f',g',i',rfl⟩:=Ft y hy;rw[show (10000:Nat)=9998+1+1 from rfl]
 unfold Op.equalIn;simp[DP underlying244,Oj,QP,Lib.byteCells,Std.Legacy.Range.forIn_eq_forIn_range',List.range',acD,acE];by_cases h1:a=a' <;> by_cases h2:b=b' <;> by_cases h3:c=c' <;> by_cases h4:d=d' <;> by_cases h5:e=e' <;> by_cases h6:f=f' <;> by_cases h7:g=g' <;> by_cases h8:i=i' <;> simp[h1,h2,h3,h4,h5,h6,h7,h8]
end Go.Proofs.YtgpfmgaidbjcpaaGreatDoor
