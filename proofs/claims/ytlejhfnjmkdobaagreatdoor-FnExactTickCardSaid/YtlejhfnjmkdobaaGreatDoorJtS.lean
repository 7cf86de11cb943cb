/- Joined texts. -/
import Derived.RangeFuncNested
import Derived.Test.YtlejhfnjmkdobaaGreatDoorJtL
import Derived.Test.YtlejhfnjmkdobaaGreatDoorJtQ
import Derived.RangeFuncBound
set_option linter.unusedVariables false
set_option linter.unusedSimpArgs false
set_option maxRecDepth 10000
set_option maxHeartbeats 16000000
namespace Go.Proofs.YtlejhfnjmkdobaaGreatDoor
open Go.Proofs.Tryz
namespace R0
open Go.RowKit
def left (B:Nat) (I:Nat->World->Prop) (Ix:Code->World->Prop) (k:Nat) (W:World):Exit->Act->World->Prop
 | .normal,_,V=>KeepsFrom B W V/\I (k+1) V
 | .ret,_,V=>KeepsFrom B W V/\Ix .ret V
 | .exit id,_,V=>KeepsFrom B W V/\Ix (.exit id) V
 | .goto t,_,V=>KeepsFrom B W V/\Ix (.goto t) V
 | _,_,_=>False
theorem grown_drew (W:World):W.grownBy W.drew none:=⟨rfl,rfl,rfl,Nat.le_refl _,fun _ _ _=>rfl⟩
theorem drew_of {B:Nat} {I:Nat->World->Prop} (hI:OwnFrom B I) {k:Nat} {W:World} (h:I k W):I k W.drew:=hI k W _ none h (grown_drew W) (fun r e=>by cases e)
theorem drewN_of {B:Nat} {I:Nat->World->Prop} (hI:OwnFrom B I) {k:Nat} {W:World} (m:Nat) (h:I k W):I k (W.drewN m):=hI k W _ none h ⟨rfl,rfl,rfl,Nat.le_refl _,fun _ _ _=>rfl⟩ (fun r e=>by cases e)
variable {P : Program} {n : Nat}
theorem range_bound {g:Operand} {ps:Array Tmp} {assign body:Code} {Q:Exit->Act->World->Prop} {a:Act} {w:World} {gf N:Nat} {bd:Array Value}
  (hg:a.eval g=.func (.func gf) bd #[]) (eg:∀ args w,(callFunc gf args).run P w=.ok (.enter gf args) w) (hps:ps.size=1)
  (I A:Nat->World->Prop) (Ix:Code->World->Prop) (hI:OwnFrom w.heap.size I) (hA:OwnFrom w.heap.size A) (hIx:OwnFrom w.heap.size Ix) (h0:I 0 w)
  (hit:∀ (l:Nat) (J:Nat->World->Prop) (Jx:World->Prop) (W:World),(∀ k W,J k W->I k W)->(∀ k W,J k W->I (k+1) W->J (k+1) W)->(∀ k W,J k W->J k W.drew)->(∀ k W m,J k W->J k (W.drewN m))->
   (∀ k W,k<N->J k W->A k W->YieldAt Fence.wide (n-1-1) P l #[Iv (k:Int)] W fun e V=>(e=.returned (.bool true)/\J (k+1) V)\/(e=.returned (.bool false)/\Jx V))->J 0 W->
   CallsIn Fence.wide (n-1) P gf (bd ++ #[.func (.yield l) #[] #[]]) W fun e V=>(∃ v,e=.returned v)/\(J N V\/Jx V))
  (hround:∀ (l k:Nat) (W V:World),k<N->I k V->A k V->
   assign.wpIn (Fence.wide.inRound l) (n-1-1) P (Exit.then (fun a' w'=>w'=W/\body.wpIn (Fence.wide.inRound l) (n-1-1) P (left w.heap.size I Ix k V) a' V) (fun _ _ _=>False)) { tmps:=(ps.zip #[Iv (k:Int)]).foldl (fun t (p,v)=>t.setIfInBounds p v) a.tmps,defers:=[] } W)
  (hdone:∀ (D:Nat) (W:World),w.heap.size<=D->I N W->W.heap[D]? = some (.deferred (some []))->Q .normal { a with defers:={ target:=.collected D,args:=#[] } :: a.defers } W)
  (hstop:∀ (D:Nat) (c:Code) (W:World),w.heap.size<=D->Ix c W->W.heap[D]? = some (.deferred (some []))->c.wpIn Fence.wide n P Q { a with defers:={ target:=.collected D,args:=#[] } :: a.defers } W) :
  (Code.rangeFunc g ps assign body).wpIn Fence.wide n P Q a w:=by
 refine wpIn_rangeFunc fun fn hfn=>?_
 let R (st:LoopState) (pe:Option Code):Loop:={ state:=st,pending:=pe,fn:=fn,tmps:=a.tmps,params:=ps,assign:=assign,body:=body,defers:=w.heap.size }
 let L:=w.heap.size+1
 let M:=fun (V:World) (st:LoopState) (pe:Option Code)=>V.heap[L]? = some (.loop (R st pe))/\V.heap[w.heap.size]? = some (.deferred (some []))
 obtain ⟨W1,hW1⟩:∃ W1,(w.alloc (.deferred (some []))).alloc (.loop (R .ready none))=W1:=⟨_,rfl⟩
 have hM1:M W1 .ready none:=by
  rw[<- hW1];refine ⟨?_,(Below.heap_alloc _ _ _ (by simp)).trans (World.alloc_heap_new w _)⟩;have:=World.alloc_heap_new (w.alloc (.deferred (some []))) (.loop (R .ready none))
  rwa [World.size_alloc] at this
 have hI1:I 0 W1:=by rw[<- hW1];exact hI.alloc _ (hI.alloc _ h0)
 have turn:∀ {V:World} {st:LoopState} {pe:Option Code} (st':LoopState) (pe':Option Code),M V st pe->M (V.putObj L (.loop (R st' pe'))) st' pe':=fun st' pe' h=>
  ⟨World.putObj_heap_same (Array.getElem?_eq_some_iff.1 h.1).1,(World.putObj_heap_other (Nat.ne_of_lt (Nat.lt_succ_self _))).trans h.2⟩
 refine ⟨L,[{ target:=.collected w.heap.size,args:=#[] }],W1,{ target:=.fn (.func gf) #[],args:=bd ++ #[.func (.yield L) #[] #[]] },W1,gf,bd ++ #[.func (.yield L) #[] #[]],W1,?_,?_,?_,?_,(fun h=>by cases h),?_⟩
 ·rw[<- hW1];exact run_enterLoop_outer _ _ _ _ _
 ·simp only[resolve,hg]
  simp[go_sem]
 ·intro f' _;trivial
 ·simp[invoke,go_sem,eg]
 ·refine (hit L (fun k V=>I k V/\M V .ready none) (fun V=>∃ c,Ix c V/\M V .done (some c)) W1 (fun k V h=>h.1) (fun k V h hk=>⟨hk,h.2⟩) (fun k V h=>⟨drew_of hI h.1,h.2⟩) (fun k V m h=>⟨drewN_of hI m h.1,h.2⟩) ?_ ⟨hI1,hM1⟩).mono ?_
  ·rintro k V hk ⟨hi,hm⟩ ha
   have hy:=run_yield (P:=P) (args:=#[Iv (k:Int)]) hm.1 (by show 1=ps.size;exact hps.symm);have hm2:=turn .busy none hm;have hi2:=hI.putObj (.loop (R .busy none)) hi (Nat.le_succ _) hm.1 rfl;have ha2:=hA.putObj (.loop (R .busy none)) ha (Nat.le_succ _) hm.1 rfl;refine ⟨fn,_,assign,body,hy,roundIn_of_wpIn hfn (wpIn_mono (hround L k V _ hk hi2 ha2) ?_)⟩;rintro e a' w' he
   cases e with
   | normal=>?_
   | _=>exact he.elim
   obtain ⟨hw',he⟩:=he;rw[hw'];refine ⟨_,run_beginRound hm.1 rfl,wpIn_mono he ?_⟩
   have fin:∀ (j:Option Code) (V3:World),KeepsFrom w.heap.size (V.putObj L (.loop (R .busy none))) V3->
     M V3 .busy none/\(Instr.endRound L j).run P V3=.ok (.bool j.isNone) (V3.putObj L (.loop (R (if j.isNone then .ready else .done) j))):=fun j V3 hk3=>by
    have h3:M V3 .busy none:=⟨hk3.same _ _ (Nat.le_succ _) hm2.1 rfl,hk3.same _ _ (Nat.le_refl _) hm2.2 rfl⟩;exact ⟨h3,run_endRound (P:=P) j h3.1⟩
   rintro e a3 V3 hp
   cases e with
   | normal=>
    obtain ⟨h3,hr⟩:=fin none V3 hp.1;exact ⟨_,_,hr,.inl ⟨rfl,hI.putObj _ hp.2 (Nat.le_succ _) h3.1 rfl,turn .ready none h3⟩⟩
   | ret=>
    obtain ⟨h3,hr⟩:=fin (some .ret) V3 hp.1;exact ⟨_,_,hr,.inr ⟨rfl,.ret,hIx.putObj _ hp.2 (Nat.le_succ _) h3.1 rfl,turn .done (some .ret) h3⟩⟩
   | exit id=>
    obtain ⟨h3,hr⟩:=fin (some (.exit id)) V3 hp.1;exact ⟨_,_,hr,.inr ⟨rfl,.exit id,hIx.putObj _ hp.2 (Nat.le_succ _) h3.1 rfl,turn .done (some (.exit id)) h3⟩⟩
   | goto t=>
    obtain ⟨h3,hr⟩:=fin (some (.goto t)) V3 hp.1;exact ⟨_,_,hr,.inr ⟨rfl,.goto t,hIx.putObj _ hp.2 (Nat.le_succ _) h3.1 rfl,turn .done (some (.goto t)) h3⟩⟩
   | panic ch=>exact hp.elim
   | outgrown=>exact hp.elim
  ·rintro e V ⟨⟨v,rfl⟩,(⟨hi,hm⟩ | ⟨c,hi,hm⟩)⟩
   ·exact ⟨none,_,run_endLoop (P:=P) hm.1 (by simp[R]),hdone _ _ (Nat.le_refl _) (hI.putObj _ hi (Nat.le_succ _) hm.1 rfl) ((World.putObj_heap_other (Nat.ne_of_lt (Nat.lt_succ_self _))).trans hm.2)⟩
   ·exact ⟨some c,_,run_endLoop (P:=P) hm.1 (by simp[R]),hstop _ c _ (Nat.le_refl _) (hIx.putObj _ hi (Nat.le_succ _) hm.1 rfl) ((World.putObj_heap_other (Nat.ne_of_lt (Nat.lt_succ_self _))).trans hm.2)⟩
end R0
namespace D5
open ChangeShapes WideShapes ChangeAt RowKit
structure Bx (B:Nat) (w:World) (a b:ByteArray) (W:World):Prop where
 c0:W.cell? ⟨B,0,none⟩=some (.string a)
 c1:W.cell? ⟨B,1,none⟩=some (.string b)
 lt:B<W.heap.size
 bel:Below B w W
variable {B : Nat} {w W W' : World} {a b : ByteArray}
theorem Bx.below (h:Bx B w a b W) (hb:Bq W W'):Bx B w a b W':=
 ⟨(hb.cell (p:=⟨B,0,none⟩) h.lt).trans h.c0,(hb.cell (p:=⟨B,1,none⟩) h.lt).trans h.c1,Nat.lt_of_lt_of_le h.lt hb.size,h.bel.trans (hb.mono (Nat.le_of_lt h.lt))⟩
theorem dev_new (a b:ByteArray) (w:World):Bx w.heap.size w a b (w.alloc (.cells #[.string a,.string b] 28)):=by
 refine ⟨?_,?_,?_,?_⟩
 all_goals first | exact (Below.refl _ _).alloc (Nat.le_refl _) _ | (simp[go_sem];done) | (simp;done)
theorem Bx.alloc (h:Bx B w a b W) (o:Obj):Bx B w a b (W.alloc o):=h.below ((Below.refl _ _).alloc (Nat.le_refl _) o)
end D5
namespace A3
open ChangeShapes WideShapes ChangeAt RowKit
theorem zeroDev:(prog.info? 210).map (fun i=>(i.zero,i.size))=some (some (.agg (Array.replicate 1536 (.int .u8 0))),1536):=by kernel_rfl
variable {B : Nat} {w W : World} {a b : ByteArray}
theorem cut_bx (s:ByteArray) (hs:s.size=768) (h:D5.Bx B w a b W) :
  Calls prog 195 #[.string s] W fun e w'=>e=.returned (.agg (Lib.byteCells s.data.toList).toArray)/\D5.Bx B w a b w':=
 (A1.cutLines s W hs).mono fun _ _ ⟨he,hb⟩=>⟨he,h.below hb⟩
theorem Bx_drew (h:D5.Bx B w a b W):D5.Bx B w a b W.drew:=⟨h.c0,h.c1,h.lt,h.bel.drew⟩
structure Dl (G:Nat) (la lb:List UInt8) (W:World):Prop where
 m:W.rangeAt G 0 (Lib.byteCells la)
 d:W.rangeAt G 768 (Lib.byteCells lb)
 t:W.there G 0 1536
 lt:G<W.heap.size
theorem dl_new (la lb:List UInt8) (h1:la.length=768) (h2:lb.length=768) (w:World):Dl w.heap.size la lb (w.alloc (.cells ((Lib.byteCells la).toArray++(Lib.byteCells lb).toArray) 210)):=by
 have hs:((Lib.byteCells la).toArray++(Lib.byteCells lb).toArray).size=1536:=by simp[Lib.byteCells,h1,h2]
 have h0:=A0.there_new w ((Lib.byteCells la).toArray++(Lib.byteCells lb).toArray) 210;rw[hs] at h0;refine ⟨?_,?_,h0,by simp⟩
 ·intro j v hj
  have hjl:j<(Lib.byteCells la).length:=(List.getElem?_eq_some_iff.1 hj).1;rw[Nat.zero_add,World.cell?_alloc_mark,Array.getElem?_append_left (by simpa using hjl)]
  simpa using hj
 ·intro j v hj
  have hla:(Lib.byteCells la).length=768:=by rw[Lib.byteCells_length,h1]
  rw[World.cell?_alloc_mark,Array.getElem?_append_right (by simp[hla])]
  simpa [hla] using hj
set_option maxRecDepth 20000 in
theorem cutDev (a b:ByteArray) (w:World) (ha:a.size=768) (hb:b.size=768) :
  Calls prog 161 #[.agg #[.string a,.string b]] w fun e w'=>∃ G,e=.returned (Pv G 0)/\w.heap.size<=G/\Dl G a.data.toList b.data.toList w'/\Bq w w':=by
 have hla:a.data.toList.length=768:=by rw[<- Lib.size_eq];exact ha
 have hlb:b.data.toList.length=768:=by rw[<- Lib.size_eq];exact hb
 have h0:=D5.dev_new a b w;have hnew:=dl_new a.data.toList b.data.toList hla hlb;obtain ⟨X,hX⟩:∃ X,(Lib.byteCells a.data.toList).toArray=X:=⟨_,rfl⟩;obtain ⟨Y,hY⟩:∃ Y,(Lib.byteCells b.data.toList).toArray=Y:=⟨_,rfl⟩
 have hXs:X.size=768:=by rw[<- hX];simp[Lib.byteCells,hla]
 have hYs:Y.size=768:=by rw[<- hY];simp[Lib.byteCells,hlb]
 obtain ⟨hz0,-⟩:=zero_of_info zeroDev;obtain ⟨Z0,hZ0,hZ0s⟩:∃ Z:Array Value,Z=Array.replicate 1536 (Value.int .u8 0)/\Z.size=1536:=⟨_,rfl,by rw[Array.size_replicate]⟩;rw[<- hZ0] at hz0;clear hZ0;obtain ⟨g1,g2⟩:=A0.fill_two X Y Z0 (by omega);simp only[Nat.zero_add,Array.size_zipIdx,hXs,hYs,hZ0s] at g1 g2;rw[hX,hY] at hnew;obtain ⟨Z,hZ⟩:∃ Z,X++Y=Z:=⟨_,rfl⟩;rw[hZ] at g2 hnew;go_enter func161,ntmps161;go_wp2;obtain ⟨W,hW⟩:∃ W,w.alloc (.cells #[.string a,.string b] 28)=W:=⟨_,rfl⟩;rw[hW] at h0 ⊢;have c0:=h0.c0;have c1:=h0.c1;have hd:=Bx_drew h0
 go_region_with (go_at_call 195;refine (cut_bx (B:=w.heap.size) (w:=w) (a:=a) (b:=b) _ (by assumption) (by assumption)).mono ?_;rintro e w4 ⟨rfl,h4⟩;(first | rw[hX] | rw[hY]);have d0:=h4.c0;have d1:=h4.c1)
 all_goals
  go_wp2;go_ret;exact ⟨w4.heap.size,rfl,h4.bel.size,hnew w4,h4.bel.alloc h4.bel.size _⟩
end A3
namespace A4
open ChangeShapes WideShapes ChangeAt RowKit
theorem sz8 (w:World):(sizeOf 5).run prog w=.ok 1 w:=sizeOf5 w
theorem list8 {α:Type} (x:List α) (h:x.length=8):∃ a b c d e f g i,x=[a,b,c,d,e,f,g,i]:=by
 match x,h with
 | [a,b,c,d,e,f,g,i],_=>exact ⟨a,b,c,d,e,f,g,i,rfl⟩
theorem part8 (C:Array Value) (o:Nat) (v:Value) (w:World) (h:C[o]? = some v):(part 5 C o).run prog w=.ok v w:=by
 have ha:=isAgg5 w;simp[part,Sem.run_bind,ha,sz8,h]
theorem eqb (x y:UInt8) (w:World):(Op.equalIn 9999 5 (.int .u8 (x.toNat:Int)) (.int .u8 (y.toNat:Int))).run prog w=.ok (decide (x=y)) w:=by
 rw[show (9999:Nat)=9998+1 from rfl,run_equalIn_int w 9998 5 .u8 .u8 _ _ underlying5]
 congr 1
 by_cases h:x=y
 ·subst h;simp
 ·have:¬ x.toNat=y.toNat:=fun e=>h (UInt8.toNat_inj.1 e)
  simp[h];omega
theorem eq8 (x y:List UInt8) (hx:x.length=8) (hy:y.length=8) (w:World) :
  (Op.equalIn 10000 206 (.agg (Lib.byteCells x).toArray) (.agg (Lib.byteCells y).toArray)).run prog w=.ok (decide (x=y)) w:=by
 obtain ⟨a,b,c,d,e,f,g,i,rfl⟩:=list8 x hx;obtain ⟨a',b',c',d',e',f',g',i',rfl⟩:=list8 y hy
 rw[show (10000:Nat)=9998+1+1 from rfl]
 unfold Op.equalIn;simp[run_underlying underlying206,Sem.run_bind,sz8,Lib.byteCells,Std.Legacy.Range.forIn_eq_forIn_range',List.range',part8,eqb]
 by_cases h1:a=a' <;> by_cases h2:b=b' <;> by_cases h3:c=c' <;> by_cases h4:d=d' <;> by_cases h5:e=e' <;> by_cases h6:f=f' <;> by_cases h7:g=g' <;> by_cases h8:i=i' <;> simp[h1,h2,h3,h4,h5,h6,h7,h8]
end A4
namespace X0
open Go.RowKit
def row (l:List UInt8) (k:Nat):List UInt8:=(l.drop (k*8)).take 8
def mix (la lb:List UInt8) (p:Nat->Bool):List UInt8:=(List.range 768).map fun j=>if p (j / 8) then la.getD j 0 else lb.getD j 0
theorem mix_len (la lb:List UInt8) (p:Nat->Bool):(mix la lb p).length=768:=by simp[mix]
theorem mix_get (la lb:List UInt8) (p:Nat->Bool) (j:Nat) (hj:j<768):(mix la lb p)[j]? = some (if p (j / 8) then la.getD j 0 else lb.getD j 0):=by
 simp[mix,List.getElem?_range hj]
theorem get_of {l:List UInt8} {j:Nat} (hl:l.length=768) (hj:j<768):l[j]? = some (l.getD j 0):=by
 rw[List.getD_eq_getElem?_getD,List.getElem?_eq_getElem (by omega)];rfl
theorem row_get {l:List UInt8} {k j:Nat} (hj:j<8):(row l k)[j]? = l[k*8+j]?:=by
 rw[row,List.getElem?_take,if_pos hj,List.getElem?_drop]
theorem mix_none (la lb:List UInt8) (hb:lb.length=768) (p:Nat->Bool) (hp:∀ k,k<96->p k=false):mix la lb p=lb:=by
 apply List.ext_getElem?
 intro j
 by_cases hj:j<768
 ·rw[mix_get _ _ _ _ hj,hp _ (by omega),get_of hb hj];rfl
 ·rw[List.getElem?_eq_none (by rw[mix_len];omega),List.getElem?_eq_none (by omega)]
theorem mix_congr (la lb:List UInt8) (p q:Nat->Bool) (h:∀ k,k<96->p k=q k):mix la lb p=mix la lb q:=by
 apply List.ext_getElem?
 intro j
 by_cases hj:j<768
 ·rw[mix_get _ _ _ _ hj,mix_get _ _ _ _ hj,h _ (by omega)]
 ·rw[List.getElem?_eq_none (by rw[mix_len];omega),List.getElem?_eq_none (by rw[mix_len];omega)]
theorem mix_same (la lb:List UInt8) (p q:Nat->Bool) (k:Nat) (ha:la.length=768) (hpq:∀ i,i<96->i≠k->p i=q i) (hk:k<96) (hp:p k=false) (h:row la k=row (mix la lb p) k):mix la lb q=mix la lb p:=by
 apply List.ext_getElem?
 intro j
 by_cases hj:j<768
 ·by_cases hjk:j / 8=k
  ·have e:=congrArg (fun l=>l[j-k*8]?) h
   rw[row_get (by omega),row_get (by omega),show k*8+(j-k*8)=j by omega,mix_get _ _ _ _ hj,get_of ha hj] at e;rw[mix_get _ _ _ _ hj,mix_get _ _ _ _ hj,hjk,hp];rw[hjk,hp] at e
   by_cases hq:q k=true
   ·rw[hq];simpa using e
   ·rw[show q k=false by simpa using hq]
  ·rw[mix_get _ _ _ _ hj,mix_get _ _ _ _ hj,hpq _ (by omega) hjk]
 ·rw[List.getElem?_eq_none (by rw[mix_len];omega),List.getElem?_eq_none (by rw[mix_len];omega)]
theorem mix_set (la lb:List UInt8) (p q:Nat->Bool) (k:Nat) (ha:la.length=768) (hk:k<96) (hpq:∀ i,i<96->i≠k->p i=q i) (hq:q k=true) :
  (mix la lb p).take (k*8)++row la k++(mix la lb p).drop (k*8+8)=mix la lb q:=by
 have hr:(row la k).length=8:=by rw[row,List.length_take,List.length_drop];omega
 have ht:((mix la lb p).take (k*8)).length=k*8:=by rw[List.length_take,mix_len];omega
 apply List.ext_getElem?
 intro j
 by_cases hj:j<768
 ·rw[mix_get _ _ _ _ hj]
  by_cases h1:j<k*8
  ·rw[List.getElem?_append_left (by rw[List.length_append];omega),List.getElem?_append_left (by omega),List.getElem?_take,if_pos h1,mix_get _ _ _ _ hj,hpq _ (by omega) (by omega)]
  ·by_cases h2:j<k*8+8
   ·rw[List.getElem?_append_left (by rw[List.length_append];omega),List.getElem?_append_right (by omega),ht,row_get (by omega),show k*8+(j-k*8)=j by omega,get_of ha hj,show j / 8=k by omega,hq]
    rfl
   ·rw[List.getElem?_append_right (by rw[List.length_append];omega),List.length_append,ht,hr,List.getElem?_drop,show k*8+8+(j-(k*8+8))=j by omega,mix_get _ _ _ _ hj,hpq _ (by omega) (by omega)]
 ·rw[List.getElem?_eq_none (by rw[List.length_append,List.length_append,List.length_drop,mix_len];omega),List.getElem?_eq_none (by rw[mix_len];omega)]
theorem laid_list (m r:List UInt8) (k:Nat) (hm:m.length=768) (hr:r.length=8) (hk:k<96) :
  B5.laid ⟨m.toArray⟩ ((k:Int)*8) ⟨r.toArray⟩=⟨(m.take (k*8)++r++m.drop (k*8+8)).toArray⟩:=by
 have hrs:(⟨r.toArray⟩:ByteArray).size=8:=hr;have hms:(⟨m.toArray⟩:ByteArray).size=768:=hm;have e:=B5.laid_eq ⟨m.toArray⟩ (k*8) ⟨r.toArray⟩ (by rw[hrs,hms];omega)
 rw[B5.laid,hrs,hms,show B2.lies 768 ((k:Int)*8) ((8:Nat):Int)=true from decide_eq_true (by omega)]
 rw[hrs,hms] at e;rw[if_pos rfl,show ((k:Int)*8).toNat=k*8 by omega,show ((k:Int)*8+((8:Nat):Int)).toNat=k*8+8 by omega,e]
 show (⟨(m.take (k*8)++r++m.drop (k*8+r.length)).toArray⟩:ByteArray)=_
 rw[hr]
theorem part_row (a:ByteArray) (k:Nat) (ha:a.size=768) (hk:k<96):B2.part a ((k:Int)*8) 8=⟨(row a.data.toList k).toArray⟩:=by
 rw[B2.part,show B2.lies a.size ((k:Int)*8) 8=true from decide_eq_true (by omega),if_pos rfl]
 apply ByteArray.ext
 apply Array.toList_inj.1
 rw[Lib.extract_data,show ((k:Int)*8).toNat=k*8 by omega,show ((k:Int)*8+8).toNat=k*8+8 by omega,show k*8+8-k*8=8 by omega];rfl
theorem laid_row (a:ByteArray) (lb:List UInt8) (p q:Nat->Bool) (k:Nat) (ha:a.size=768) (hk:k<96) (hpq:∀ i,i<96->i≠k->p i=q i) (hq:q k=true) :
  B5.laid ⟨(mix a.data.toList lb p).toArray⟩ ((k:Int)*8) (B2.part a ((k:Int)*8) 8)=⟨(mix a.data.toList lb q).toArray⟩:=by
 have hla:a.data.toList.length=768:=by rw[<- Lib.size_eq];exact ha
 have hrl:(row a.data.toList k).length=8:=by rw[row,List.length_take,List.length_drop];omega
 rw[part_row a k ha hk,laid_list _ _ k (mix_len _ _ _) hrl hk,mix_set _ _ p q k hla hk hpq hq]
end X0
namespace R1
open ChangeShapes WideShapes ChangeAt RowKit Go.Shelf
open X0 (row)
theorem row_len {l:List UInt8} {k:Nat} (hl:l.length=768) (hk:k<96):(row l k).length=8:=by rw[X0.row,List.length_take,List.length_drop];omega
theorem row_cells {W:World} {G o k:Nat} {l:List UInt8} (h:W.rangeAt G o (Lib.byteCells l)) {x:List UInt8} (hx:row l k=x):∀ j b,x[j]? = some b->Ce W G (o+k*8+j) (.int .u8 (b.toNat:Int)):=by
 intro j b hb;subst hx;have:=A0.rangeAt_part h (k*8) 8;rw[A0.bytes_part] at this
 exact this j _ (by simp only[Lib.byteCells,List.getElem?_map];rw[show List.take 8 (List.drop (k*8) l)=X0.row l k from rfl,hb];rfl)
def Differ (G:Nat) (la:List UInt8) (k:Nat) (W:World):Prop:=∃ lb:List UInt8,lb.length=768/\A3.Dl G la lb W/\row la k≠row lb k
set_option maxRecDepth 100000 in
theorem dirty_in (n G:Nat) (la:List UInt8) (hla:la.length=768) (I:Nat->World->Prop) (hrd:∀ k W,I k W->∃ lb:List UInt8,lb.length=768/\A3.Dl G la lb W)
  (hskip:∀ k W lb,k<96->I k W->lb.length=768->A3.Dl G la lb W->row la k=row lb k->I (k+1) W)
  (l:Nat) (J:Nat->World->Prop) (Jx:World->Prop) (W:World) (hJI:∀ k W,J k W->I k W) (hJ:∀ k W,J k W->I (k+1) W->J (k+1) W) (hJd:∀ k W,J k W->J k W.drew) (hJn:∀ k W m,J k W->J k (W.drewN m))
  (hY:∀ k W,k<96->J k W->Differ G la k W->YieldAt Fence.wide (n-1-1) prog l #[Iv (k:Int)] W fun e V=>(e=.returned (.bool true)/\J (k+1) V)\/(e=.returned (.bool false)/\Jx V)) (h0:J 0 W) :
  CallsIn Fence.wide (n-1) prog 162 (#[Pv G 0] ++ #[.func (.yield l) #[] #[]]) W fun e V=>(∃ v,e=.returned v)/\(J 96 V\/Jx V):=by
 have hro:Fence.wide.round=none:=rfl;refine callsIn_of_wp func162 rfl trivial ?_ rfl;simp only[ntmps162,List.size_toArray,List.length_cons,List.length_nil,Nat.reduceAdd,Nat.reduceSub,Array.replicate_succ,Array.replicate_zero,List.push_toArray,List.append_toArray,List.nil_append,List.cons_append]
 gi_wp2
 gi_loopw [5] (fun i wr=>∃ k:Nat,k<=96/\i=Iv k/\J k wr) (fun i _=>96-(intOf i).toNat)
 case atStart=>exact ⟨0,Nat.zero_le _,rfl,h0⟩
 case round=>
  obtain ⟨k,hk,rfl,hj⟩:=hrel
  by_cases hlt:k<96
  ·have e1:(0:Int)<=(k:Int):=by omega
   have e2:(k:Int)<96:=by omega
   have hjd:=hJd _ _ hj;obtain ⟨lb,hlb,hD⟩:=hrd _ _ (hJI _ _ hjd);obtain ⟨x0,x1,x2,x3,x4,x5,x6,x7,hx⟩:=A4.list8 (row la k) (row_len hla hlt);obtain ⟨y0,y1,y2,y3,y4,y5,y6,y7,hy⟩:=A4.list8 (row lb k) (row_len hlb hlt);have hD0:A3.Dl G la lb wr:=⟨hD.m,hD.d,hD.t,hD.lt⟩;have cx:=row_cells hD0.m hx;have cy:=row_cells hD0.d hy;simp only[Nat.zero_add] at cx;have m0:=cx 0 x0 rfl;have m1:=cx 1 x1 rfl;have m2:=cx 2 x2 rfl;have m3:=cx 3 x3 rfl;have m4:=cx 4 x4 rfl;have m5:=cx 5 x5 rfl;have m6:=cx 6 x6 rfl;have m7:=cx 7 x7 rfl;have n0:=cy 0 y0 rfl;have n1:=cy 1 y1 rfl;have n2:=cy 2 y2 rfl;have n3:=cy 3 y3 rfl;have n4:=cy 4 y4 rfl;have n5:=cy 5 y5 rfl;have n6:=cy 6 y6 rfl;have n7:=cy 7 y7 rfl;simp only[Nat.add_zero] at m0 n0;have heq:=A4.eq8 [x0,x1,x2,x3,x4,x5,x6,x7] [y0,y1,y2,y3,y4,y5,y6,y7] rfl rfl;simp only[Lib.byteCells,List.map_cons,List.map_nil] at heq;clear cx cy
   have hmx:prog.follows .mixedOrders=true:=by kernel_rfl
   by_cases hne : [x0,x1,x2,x3,x4,x5,x6,x7]=[y0,y1,y2,y3,y4,y5,y6,y7]
   ·simp only[hne,decide_true] at heq
    have hn:∀ m,J (k+1) (wr.drewN m):=fun m=>hJ _ _ (hJn _ _ m hj) (hskip _ _ lb hlt (hJI _ _ (hJn _ _ m hj)) hlb ⟨hD.m,hD.d,hD.t,hD.lt⟩ (by rw[hx,hy,hne]))
    clear hJn hJd hskip hY
    gi_wp2
    refine wpIn_region_quiet_lit rfl (by kernel_rfl) (by kernel_rfl) ?_
    repeat (gi_big_quiet_step (fail))
    refine BigFrame.wpQuietIn_skip (fun _ _ _ _=>trivial) rfl ?_;simp only[Act.put,Array.setIfInBounds,List.size_toArray,List.length_cons,List.length_nil,Nat.reduceAdd,Nat.reduceLT,↓reduceDIte,List.set_toArray,List.set_cons_succ,List.set_cons_zero]
    repeat (gi_big_quiet_step (fail))
    refine wpQuietIn_nil ?_;rintro _ ⟨nq,rfl⟩
    gi_wp2
    go_roundw
    case rel=>exact ⟨k+1,by omega,by go_num,hn _⟩
    case measure=>simp[intOf];omega
   ·simp only[hne,decide_false] at heq
    obtain ⟨fn,tmps,assign,body,hyl,hR0⟩:=hY k wr.drew hlt hjd ⟨lb,hlb,hD,by rw[hx,hy];exact hne⟩
    have hR:RoundIn Fence.wide (n-1-1) prog l fn tmps assign body wr.drew fun e V=>∃ b:Bool,e=.returned (.bool b)/\(b=true->J (k+1) V)/\(b=false->Jx V):=
     hR0.mono fun e V h=>by
      rcases h with ⟨rfl,h⟩ | ⟨rfl,h⟩
      ·exact ⟨true,rfl,fun _=>h,fun h=>by cases h⟩
      ·exact ⟨false,rfl,fun h=>(by cases h),fun _=>h⟩
    clear hR0
    gi_wp2
    gi_region_with (first
     | (refine hR.mono ?_;rintro e W3 ⟨b,rfl,hJ3,hJx3⟩)
     | (refine ⟨(fun h=>by cases h),hR.mono ?_⟩;rintro e W3 ⟨b,rfl,hJ3,hJx3⟩))
    all_goals
     cases b
     ·gi_wp2
      refine bodyPost_ret (results_none rfl _ _ _) rfl ?_;exact ⟨⟨_,rfl⟩,.inr (hJx3 (by trivial))⟩
     ·gi_wp2
      go_roundw
      case rel=>exact ⟨k+1,by omega,by go_num,hJ3 (by trivial)⟩
      case measure=>simp[intOf];omega
  ·obtain rfl:k=96:=by omega
   gi_wp2
   go_end0
   exact ⟨⟨_,rfl⟩,.inl hj⟩
end R1
namespace R2
open Go.RowKit
variable {P : Program} {n l : Nat} {Q : Exit → Act → World → Prop} {ops : Array Oper}
theorem upon_round {o:Oper} {a:Act} {K K':Act->World->Prop} (hK:∀ a w,K a w->K' a w) (r:Result Next) (h:o.upon P a K Q r):o.uponIn (Fence.wide.inRound l) n P a K' Q r:=by
 cases r with
 | ok x w=>
  cases x with
  | value v=>exact hK _ _ h
  | skip=>exact hK _ _ h
  | defer d=>exact hK _ _ h
  | enter f args=>
   refine ⟨(fun h=>by cases h),CallsIn.inRound l (callsIn_wide.2 (Calls.mono h ?_))⟩;rintro (v | c | _) w' hw
   ·exact hK _ _ hw
   ·exact hw
   ·exact hw
  | row f args=>
   refine ⟨(fun h=>by cases h),fun c cs _=>?_⟩;obtain ⟨v,w',r,s⟩:=h c cs;exact ⟨v,w',hK _ _ r,stepsIn_wide.2 s⟩
  | _=>exact h.elim
 | halt x w=>cases x <;> first | exact h | exact h.elim
theorem op_round {i:Nat} {a:Act} {w:World} {K K':Act->World->Prop} (hd:∀ o ∈ ops,∀ c,o.op ≠ .defer c) (hq:¬ LetsOut Q) (hK:∀ a w,K a w->K' a w) (h:wpOp P ops Q i K a w):wpOpIn (Fence.wide.inRound l) n P ops Q i K' a w:=by
 unfold wpOp at h;unfold wpOpIn
 cases ho:ops[i]? with
 | none=>rw[ho] at h;exact hK _ _ h
 | some o=>
  rw[ho] at h
  dsimp only at h ⊢
  split
  ·rename_i hw
   rw[if_pos hw] at h
   rcases h with h | ⟨_,h⟩
   ·refine ⟨fun _ _=>trivial,?_⟩
    rw[Oper.semAt_eq _ _ _ (hd o (Array.mem_of_getElem? ho))];exact upon_round hK _ h
   ·exact absurd h hq
  ·rename_i hw
   rw[if_neg hw] at h;exact ⟨fun _ _=>trivial,hK _ _ h⟩
theorem any_round {S:World->Prop} {md:Region.Mode} (hd:∀ o ∈ ops,∀ c,o.op ≠ .defer c) (hq:¬ LetsOut Q):∀ (fuel:Nat) (listed:Array Bool) (a:Act) (w:World),wpAnyH P md ops Q S fuel listed a w->wpAnyIn (Fence.wide.inRound l) n P md ops Q fuel listed a w
 | 0,_,_,_,h=>h
 | fuel+1,listed,a,w,h=>⟨h.1,fun i hi=>op_round hd hq (fun a' w' hk=>any_round hd hq fuel _ a' w' hk.2) (h.2 i hi)⟩
theorem region_round {S:World->Prop} {id:Nat} {a:Act} {w:World} (hd:∀ o ∈ ops,∀ c,o.op ≠ .defer c) (hq:¬ LetsOut Q) (hm:P.follows .mixedOrders=true)
  (h:wpAnyH P .any ops Q S ops.size (Array.replicate ops.size false) a w.drew):(Code.region id ops true).wpIn (Fence.wide.inRound l) n P Q a w:=
 wpIn_region_any hm (any_round hd hq _ _ _ _ h)
theorem of_if {c:Prop} [Decidable c] {p q:Prop} (hc:c) (hp:p):if c then p else q:=by rw[if_pos hc];exact hp
theorem last_store {S:World->Prop} {a:Act} {w:World} {i:Nat} {o:Oper} {listed:Array Bool} {fuel:Nat} {md:Region.Mode} (hr:Region.ready md ops listed=[i]) (ho:ops[i]? = some o) (hg:o.guard=none)
  (ty:TypeId) (x y:Operand) (hop:o.op=.store ty x y) (b off:Nat) (cells:List Value) (hx:a.eval x=Pv b off) (hy:a.eval y=.agg cells.toArray)
  (ht:w.there b off cells.length) (hi:(P.info? ty).map (·.size)=some cells.length) (h1:∀ v ∈ cells,v.oneCell'=true) (hS:S (w.setCells b off cells))
  (hdone:Region.ready md ops (listed.setIfInBounds i true)=[]) (h:Q .normal (a.put o.dst undef) (w.setCells b off cells)):wpAnyH P md ops Q S (fuel+1) listed a w:=by
 refine wpAnyH_all hr (by simp) ?_;intro j hj
 obtain rfl:j=i:=by simpa using hj
 unfold wpOp;rw[ho];refine of_if (by rw[Region.wanted,hg]) (.inl (wp_store_mid ty x y hop b off cells.toArray hx hy (by simpa using ht) (by simpa using hi) (all_oneCell_toArray h1) ?_));rw[List.toList_toArray];exact ⟨hS,wpAnyH_done hdone h _⟩
theorem one_call {S:World->Prop} {a:Act} {w:World} {i f:Nat} {o:Oper} {listed:Array Bool} {fuel:Nat} {md:Region.Mode} (hr:Region.ready md ops listed=[i]) (ho:ops[i]? = some o) (hg:o.guard=none)
  (x:Operand) (ts:Array TypeId) (hop:o.op=.call { callee:=.value (.func f),args:=#[x],argTypes:=ts }) (v:Value) (hx:a.eval x=v) (eg:∀ args w,(callFunc f args).run P w=.ok (.enter f args) w)
  (hc:Calls P f #[v] w fun e w'=>∃ u,e=.returned u/\S w'/\wpAnyH P md ops Q S fuel (listed.setIfInBounds i true) (a.put o.dst u) w'):wpAnyH P md ops Q S (fuel+1) listed a w:=by
 refine wpAnyH_all hr (by simp) ?_;intro j hj
 obtain rfl:j=i:=by simpa using hj
 unfold wpOp;rw[ho];refine of_if (by rw[Region.wanted,hg]) (.inl ?_)
 have he:(execOp a.eval o).run P w=.ok (.enter f #[v]) w:=by
  subst hx;simp[execOp,hop,resolve,go_sem,invoke,eg]
 unfold Oper.wp;rw[he];refine Calls.mono hc ?_;rintro e w' ⟨u,rfl,h⟩;exact h
theorem leave {fn:Func} {R:Ending->World->Prop} {A:Act} {W:World} {D:Nat} (hdf:A.defers=[{ target:=.collected D,args:=#[] }]) (hK:W.heap[D]? = some (.deferred (some [])))
  (h:∃ v,(results fn A.tmps).run P (W.putObj D (.deferred none))=.ok v (W.putObj D (.deferred none))/\R (.returned v) (W.putObj D (.deferred none))):bodyPostM Fence.wide n P fn R .ret A W:=by
 show LeavesInM _ _ _ _ _ _ _ _ _
 rw[hdf];refine ⟨by simp,.inl ⟨_,_,rfl,run_takeDeferred hK,?_⟩⟩;exact h
theorem abs_act {c:Code} {F:Fence} {V:World} (a:Act) (p:Act->Prop) (ha:p a) (h:∀ A,p A->c.wpIn F n P Q A V):c.wpIn F n P Q a V:=h a ha
theorem abs_wp {c:Code} {V:World} (a:Act) (p:Act->Prop) (ha:p a) (h:∀ A,p A->c.wp P Q A V):c.wp P Q a V:=h a ha
theorem put_none (a:Act) (v:Value):a.put none v=a:=rfl
theorem defers_put (a:Act) (d:Option Tmp) (v:Value):(a.put d v).defers=a.defers:=by cases d <;> rfl
theorem size_put (a:Act) (d:Tmp) (v:Value):(a.put (some d) v).tmps.size=a.tmps.size:=by simp[Act.put]
theorem ev_same (a:Act) (d:Tmp) (v:Value) (h:d<a.tmps.size):(a.put (some d) v).eval (.tmp d)=v:=by simp[Act.eval,Act.put,Array.getD,h]
theorem ev_other (a:Act) (d e:Tmp) (v:Value) (h:d≠e):(a.put (some d) v).eval (.tmp e)=a.eval (.tmp e):=by
 simp only[Act.eval,Act.put]
 by_cases he:e<a.tmps.size
 ·simp[Array.getD,he,Array.getElem_setIfInBounds,h]
 ·simp[Array.getD,he]
end R2
end Go.Proofs.YtlejhfnjmkdobaaGreatDoor
