/- Joined texts. -/
import Derived.Test.YtlejhfnjmkdobaaGreatDoorJtN
import Derived.Test.YtlejhfnjmkdobaaGreatDoorJtH
import Derived.Deep.WholeRow
set_option linter.unusedVariables false
set_option linter.unusedSimpArgs false
set_option maxRecDepth 10000
set_option maxHeartbeats 16000000
namespace Go.Proofs.YtlejhfnjmkdobaaGreatDoor
open Go.Proofs.Tryz
namespace Z0
open ChangeShapes WideShapes ChangeAt RowKit Go.Joins Go.Deep
open N0 (Ln)
open N1 (Sl val vals Lists FitM LB lb_new)
def dz:Ln:=⟨0,0,0,⟨#[]⟩,[],⟨#[]⟩,[],[]⟩
def sz0:Sl:=⟨none,0,none,0,none,0⟩
def dat (ds:List Ln) (k:Nat):Ln:=ds.getD k dz
theorem dat_get (ds:List Ln) (k:Nat) (h:k<ds.length):dat ds k=ds[k]:=by simp[dat,List.getD,h]
def At (W:World) (b o:Nat) (d:Ln) (s:Sl):Prop:=
 W.cell? ⟨b,o,none⟩=some (.int .i64 d.ino)/\W.cell? ⟨b,o+1,none⟩=some (.int .i64 d.cl)/\W.cell? ⟨b,o+2,none⟩=some (.int .i64 d.un)/\W.cell? ⟨b,o+3,none⟩=some (.string d.rc)/\
 W.cell? ⟨b,o+4,none⟩=some (.slice s.a1 d.pg.length s.c1)/\W.cell? ⟨b,o+5,none⟩=some (.string d.sav)/\W.cell? ⟨b,o+6,none⟩=some (.slice s.a2 d.po.length s.c2)/\W.cell? ⟨b,o+7,none⟩=some (.slice s.a3 d.fr.length s.c3)
variable {W W' : World} {a : Option Addr} {ds : List Ln} {ss : Nat → Sl} {b o : Nat} {d : Ln} {s : Sl}
theorem At.below (h:At W b o d s) (hlt:b<W.heap.size) (hb:Bq W W'):At W' b o d s:=by
 obtain ⟨h0,h1,h2,h3,h4,h5,h6,h7⟩:=h
 exact ⟨(hb.cell (p:=⟨b,o,none⟩) hlt).trans h0,(hb.cell (p:=⟨b,o+1,none⟩) hlt).trans h1,(hb.cell (p:=⟨b,o+2,none⟩) hlt).trans h2,(hb.cell (p:=⟨b,o+3,none⟩) hlt).trans h3,
  (hb.cell (p:=⟨b,o+4,none⟩) hlt).trans h4,(hb.cell (p:=⟨b,o+5,none⟩) hlt).trans h5,(hb.cell (p:=⟨b,o+6,none⟩) hlt).trans h6,(hb.cell (p:=⟨b,o+7,none⟩) hlt).trans h7⟩
def Row (W:World) (a:Option Addr) (ds:List Ln) (ss:Nat->Sl):Prop:=
 ds=[]\/∃ b off,a=some ⟨b,off,none⟩/\b<W.heap.size/\∀ j,j<ds.length->At W b (off+j*8) (dat ds j) (ss j)
def Subs (W:World) (ds:List Ln) (ss:Nat->Sl):Prop:=∀ j,j<ds.length->Lists W (dat ds j) (ss j)
theorem Row.below (h:Row W a ds ss) (hb:Bq W W'):Row W' a ds ss:=by
 rcases h with h | ⟨b,off,ha,hlt,hc⟩
 ·exact Or.inl h
 ·exact Or.inr ⟨b,off,ha,Nat.lt_of_lt_of_le hlt hb.size,fun j hj=>(hc j hj).below hlt hb⟩
theorem Row.drewN (h:Row W a ds ss) (n:Nat):Row (W.drewN n) a ds ss:=h
theorem Row.get {k:Nat} (h:Row W a ds ss) (hk:k<ds.length):∃ b off,a=some ⟨b,off,none⟩/\b<W.heap.size/\∀ j,j<ds.length->At W b (off+j*8) (dat ds j) (ss j):=by
 rcases h with h | h
 ·subst h
  simp at hk
 ·exact h
theorem Subs.below (h:Subs W ds ss) (hb:Bq W W'):Subs W' ds ss:=fun j hj=>(h j hj).below hb
theorem Subs.drewN (h:Subs W ds ss) (n:Nat):Subs (W.drewN n) ds ss:=fun j hj=>(h j hj).drewN n
structure Lns (W:World) (a:Option Addr) (ds:List Ln) (ss:Nat->Sl):Prop where
 row:Row W a ds ss
 sub:Subs W ds ss
theorem Lns.below (h:Lns W a ds ss) (hb:Bq W W'):Lns W' a ds ss:=⟨h.row.below hb,h.sub.below hb⟩
theorem Lns.drewN (h:Lns W a ds ss) (n:Nat):Lns (W.drewN n) a ds ss:=⟨h.row.drewN n,h.sub.drewN n⟩
structure Kp where
 mem:ByteArray
 dur:ByteArray
 ds:List Ln
 ck:Int
abbrev kval (k:Kp) (a:Option Addr) (c:Nat):Value:=.agg #[.string k.mem,.string k.dur,.slice a k.ds.length c,.int .i64 k.ck]
abbrev kvals (k:Kp) (a:Option Addr) (c:Nat):List Value:=[.string k.mem,.string k.dur,.slice a k.ds.length c,.int .i64 k.ck]
structure FitK (k:Kp) (ss:Nat->Sl):Prop where
 m1:k.mem.size<=maxLen
 m2:k.dur.size<=maxLen
 n:k.ds.length<=maxLen
 each:∀ j,j<k.ds.length->FitM (dat k.ds j) (ss j)
section Args
variable {H : Type} {enc : TypeId × Value → H} {w : World}
theorem list8 {α:Type} {cs:List α} (h:cs.length=8):∃ x0 x1 x2 x3 x4 x5 x6 x7,cs=[x0,x1,x2,x3,x4,x5,x6,x7]:=by
 match cs,h with
 | [x0,x1,x2,x3,x4,x5,x6,x7],_=>exact ⟨x0,x1,x2,x3,x4,x5,x6,x7,rfl⟩
theorem cs1:prog.cellsOf 3=1:=by kernel_rfl
theorem cs2:prog.cellsOf 9=1:=by kernel_rfl
theorem cs3:prog.cellsOf 32=1:=by kernel_rfl
theorem cs4:prog.cellsOf 23=2:=by kernel_rfl
theorem cs5:prog.cellsOf 24=1:=by kernel_rfl
theorem cs6:prog.cellsOf 26=4:=by kernel_rfl
theorem loan_cells {n:Nat} {cs:List Value} {x:DataW H × List MemPlace} (h:DataW.trod enc prog w 0 (fun _=>true) true n 70 cs=some x) :
  ∃ (q:Ln × Sl),cs=vals q.1 q.2/\FitM q.1 q.2/\Lists w q.1 q.2:=by
 obtain ⟨xs,k,_,_,hlen,hxl,hall⟩:=DataW.trod_struct underlying70 h;rw[N1.cells] at hlen;obtain ⟨x0,x1,x2,x3,x4,x5,x6,x7,rfl⟩:=list8 hlen;obtain ⟨y0,y1,y2,y3,y4,y5,y6,y7,rfl⟩:=list8 hxl;have h0:=hall 0 _ rfl;have h1:=hall 1 _ rfl;have h2:=hall 2 _ rfl;have h3:=hall 3 _ rfl;have h4:=hall 4 _ rfl;have h5:=hall 5 _ rfl;have h6:=hall 6 _ rfl;have h7:=hall 7 _ rfl;simp only[cs1,cs2,cs3,List.drop_zero,List.drop_succ_cons,List.take_succ_cons,List.take_zero,List.getElem?_cons_zero,List.getElem?_cons_succ] at h0 h1 h2 h3 h4 h5 h6 h7;obtain ⟨ino,e0,_,_⟩:=DataW.trod_int underlying3 h0;obtain ⟨cl,e1,_,_⟩:=DataW.trod_int underlying3 h1;obtain ⟨un,e2,_,_⟩:=DataW.trod_int underlying3 h2;obtain ⟨rc,e3,_,w3⟩:=DataW.trod_string underlying9 h3;obtain ⟨sav,e5,_,w5⟩:=DataW.trod_string underlying9 h5;obtain ⟨a1,c1,pg,rfl,p1,p2,R1⟩:=I2.open_row h4;obtain ⟨a2,c2,po,rfl,p3,p4,R2⟩:=I2.open_row h6;obtain ⟨a3,c3,fr,rfl,p5,p6,R3⟩:=I2.open_row h7;simp[cs1,cs2] at e0 e1 e2 e3 e5;subst e0 e1 e2 e3 e5;exact ⟨(⟨ino,cl,un,rc,pg,sav,po,fr⟩,⟨a1,c1,a2,c2,a3,c3⟩),rfl,⟨Nat.le_trans p1 p2,Nat.le_trans p3 p4,Nat.le_trans p5 p6,w3,w5⟩,⟨R1,R2,R3⟩⟩
theorem open_loans {fuel:Nat} {v:Value} {x:DataW H × List MemPlace} (h:DataW.trod enc prog w 0 (fun _=>true) true fuel 24 [v]=some x) :
  ∃ (a:Option Addr) (c:Nat) (ds:List Ln) (ss:Nat->Sl),v=.slice a ds.length c/\ds.length<=c/\c<=maxLen/\(∀ j,j<ds.length->FitM (dat ds j) (ss j))/\Lns w a ds ss:=by
 rcases open_slice underlying24 h with ⟨hcs,_⟩ | ⟨a,len,cap,m,n,D,Pl,hcs,_,hl,hm,hmm,_,hx⟩
 ·simp at hcs
  exact ⟨none,0,[],fun _=>sz0,hcs,Nat.le_refl _,Nat.zero_le _,fun j hj=>by simp at hj,⟨Or.inl rfl,fun j hj=>by simp at hj⟩⟩
 ·simp at hcs hmm
  subst hmm;rw[N1.cells] at hx
  have each:∀ j,j<m->∃ q:Ln × Sl,(∀ i (hi:i<8),w.cell? (a.add (j*8+i))=some ((vals q.1 q.2)[i]'hi))/\FitM q.1 q.2/\Lists w q.1 q.2:=fun j hj=>by
   obtain ⟨cs,k1,k2⟩:=hx j hj;obtain ⟨q,rfl,f1,f2⟩:=loan_cells k2;obtain ⟨_,_,k3⟩:=World.cells?_some k1;refine ⟨q,fun i hi=>?_,f1,f2⟩;have:=k3 i hi;rw[add_add] at this;rw[this,List.getElem?_eq_getElem]
  haveI:Inhabited (Ln × Sl):=⟨(dz,sz0)⟩
  obtain ⟨q,hq⟩:=choose_lt each
  have hlen:((List.range len).map fun i=>(q i).1).length=len:=by simp
  have hdat:∀ j,j<len->dat ((List.range len).map fun i=>(q i).1) j=(q j).1:=fun j hj=>by
   rw[dat_get _ _ (by rw[hlen];exact hj)];simp
  refine ⟨some a,m,(List.range len).map fun i=>(q i).1,fun i=>(q i).2,by rw[hcs,hlen],by rw[hlen];exact hl,hm,fun j hj=>?_,⟨?_,fun j hj=>?_⟩⟩
  ·rw[hlen] at hj
   rw[hdat j hj];exact (hq j (by omega)).2.1
  ·by_cases h0:len=0
   ·left
    subst h0;rfl
   ·right
    obtain ⟨b,off,spot⟩:=a;have c00:=(hq 0 (by omega)).1 0 (by omega)
    have hspot:spot=none:=by simpa [Addr.add] using World.cell?_spot c00
    subst hspot
    have hb:b<w.heap.size:=by
     unfold World.cell? at c00
     cases hz:w.heap[b]? with
     | none=>simp[Addr.add,hz] at c00
     | some o=>exact (Array.getElem?_eq_some_iff.1 hz).1
    refine ⟨b,off,rfl,hb,fun j hj=>?_⟩;rw[hlen] at hj;rw[hdat j hj];have hc:=(hq j (by omega)).1;simp only[Go.WideShapes.add_plain,<- Nat.add_assoc] at hc;exact ⟨hc 0 (by omega),hc 1 (by omega),hc 2 (by omega),hc 3 (by omega),hc 4 (by omega),hc 5 (by omega),hc 6 (by omega),hc 7 (by omega)⟩
  ·rw[hlen] at hj
   rw[hdat j hj];exact (hq j (by omega)).2.2
theorem open_keeper {r:Reach} {b0:Nat} {v:Value} {x:DataW H} {p:List MemPlace} (hv:Value.okWide prog w r b0 26 v) (h:DataW.Trod enc prog w 0 (fun _=>true) true 26 v x p) :
  ∃ (k:Kp) (a:Option Addr) (c:Nat) (ss:Nat->Sl),v=kval k a c/\FitK k ss/\Lns w a k.ds ss:=by
 obtain ⟨cs,rfl,hsz⟩:=okWide_struct underlying26 hv;obtain ⟨fuel,hf⟩:=h;obtain ⟨xs,n,_,_,_,hxl,hall⟩:=DataW.trod_struct underlying26 hf;rw[cs6] at hsz;obtain ⟨l⟩:=cs
 match l,hsz,xs,hxl with
 | [x0,x1,x2,x3],_,[y0,y1,y2],_=>
  have h0:=hall 0 _ rfl;have h1:=hall 1 _ rfl;have h2:=hall 2 _ rfl;simp only[Value.cells,cs1,cs4,cs5,List.drop_zero,List.drop_succ_cons,List.take_succ_cons,List.take_zero,List.getElem?_cons_zero,List.getElem?_cons_succ] at h0 h1 h2;obtain ⟨zs,n2,_,_,_,hzl,hall2⟩:=DataW.trod_struct underlying23 h0
  match zs,hzl with
  | [z0,z1],_=>
   have g0:=hall2 0 _ rfl;have g1:=hall2 1 _ rfl;simp only[cs2,List.drop_zero,List.drop_succ_cons,List.take_succ_cons,List.take_zero,List.getElem?_cons_zero,List.getElem?_cons_succ] at g0 g1;obtain ⟨mem,e0,_,w0⟩:=DataW.trod_string underlying9 g0;obtain ⟨dur,e1,_,w1⟩:=DataW.trod_string underlying9 g1;obtain ⟨ck,e3,_,_⟩:=DataW.trod_int underlying3 h2;obtain ⟨a,c,ds,ss,rfl,hl,hc,hF,hR⟩:=open_loans h1;simp[cs1,cs2,cs4] at e0 e1 e3;subst e0 e1 e3;exact ⟨⟨mem,dur,ds,ck⟩,a,c,ss,rfl,⟨w0,w1,Nat.le_trans hl hc,hF⟩,hR⟩
end Args
end Z0
namespace TW
open ChangeShapes WideShapes ChangeAt RowKit
variable {base g n cap : Nat} {w W W' : World} {d k x : Nat} {R S : List (Nat × Nat)}
def fl:List (Nat × Nat)->List Value
 | []=>[]
 | q :: r=>.int .i64 (q.1:Int) :: .int .i64 (q.2:Int) :: fl r
theorem fl_length:∀ l:List (Nat × Nat),(fl l).length=l.length*2
 | []=>rfl
 | q :: r=>by simp[fl,fl_length r];omega
theorem fl_append:∀ l m:List (Nat × Nat),fl (l++m)=fl l++fl m
 | [],m=>rfl
 | q :: r,m=>by simp[fl,fl_append r m]
theorem fl_top (d k:Nat) (R:List (Nat × Nat)):fl ((d,k) :: R).reverse=fl R.reverse ++ [Iv (d:Int),Iv (k:Int)]:=by
 rw[List.reverse_cons,fl_append];rfl
theorem fl_rlen (R:List (Nat × Nat)):(fl R.reverse).length=R.length*2:=by rw[fl_length,List.length_reverse]
def SBuf (base:Nat) (w:World) (g n cap:Nat) (S:List (Nat × Nat)):Prop:=n=S.length/\w.ownsRow base 245 2 (.slice (some ⟨g,0,none⟩) n cap) n (fl S.reverse)
theorem SBuf.kept {row:Option Nat} (h:SBuf base w g n cap S) (hg:w.grownBy W row) (hne:some g≠row):SBuf base W g n cap S:=⟨h.1,h.2.kept hg (Or.inr hne)⟩
theorem SBuf.lt (h:SBuf base w g n cap S):base<=g/\g<w.heap.size:=h.2.lt g rfl
theorem SBuf.drew (h:SBuf base w g n cap S):SBuf base w.drew g n cap S:=h
theorem SBuf.ino (h:SBuf base w g n cap ((d,k) :: R)):w.cell? ⟨g,R.length*2,none⟩=some (.int .i64 (d:Int)):=by
 have hn:n=R.length+1:=h.1;rw[h.2.cellAt (R.length*2) (by omega),fl_top,List.getElem?_append_right (by rw[fl_rlen];exact Nat.le_refl _),fl_rlen,Nat.sub_self];rfl
theorem SBuf.next (h:SBuf base w g n cap ((d,k) :: R)):w.cell? ⟨g,R.length*2+1,none⟩=some (.int .i64 (k:Int)):=by
 have hn:n=R.length+1:=h.1;rw[h.2.cellAt (R.length*2+1) (by omega),fl_top,List.getElem?_append_right (by rw[fl_rlen];omega),fl_rlen,show R.length*2+1-R.length*2=1 by omega];rfl
theorem SBuf.free (h:SBuf base w g n cap S) (j:Nat):w.frozen? ⟨g,j,none⟩=false:=h.2.frozenAt j
theorem SBuf.put (h:SBuf base w g n cap ((d,k) :: R)) (k':Nat):SBuf base (w.setCell ⟨g,R.length*2+1,none⟩ (Iv (k':Int))) g n cap ((d,k') :: R):=by
 have:=(h.2.stored (R.length*2+1) (Iv (k':Int))).1;rw[fl_top,List.set_append_right _ _ (by rw[fl_rlen];omega),fl_rlen,show R.length*2+1-R.length*2=1 by omega] at this;refine ⟨h.1,?_⟩;rw[fl_top];exact this
theorem SBuf.pop (h:SBuf base w g n cap ((d,k) :: R)):SBuf base w g R.length cap R:=by
 have hn:n=R.length+1:=h.1;refine ⟨rfl,fl_rlen R,?_⟩
 rcases h.2.2 with ⟨h',_⟩ | ⟨g',cap',cur,h',hb,hg,hnc,hcm,hcs,ht⟩
 ·cases h'
 ·cases h'
  refine Or.inr ⟨g,cap,cur,rfl,hb,hg,by omega,hcm,hcs,?_⟩;have:=congrArg (List.take (R.length*2)) ht;rw[List.take_take,fl_top,List.take_left' (fl_rlen R),Nat.min_eq_left (by omega)] at this;exact this
theorem SBuf.room (h:SBuf base w g n cap S):n<=cap:=by
 rcases h.2.2 with ⟨h',_⟩ | ⟨g',cap',cur,h',hb,hg,hnc,hcm,hcs,ht⟩
 ·cases h'
 ·cases h'
  exact hnc
theorem sbuf_new (w:World) (hb:base<=w.heap.size):SBuf base (w.alloc (.cells #[Iv 0,Iv 0] 245)) w.heap.size 1 1 [(0,0)]:=
 ⟨rfl,World.ownsRow_lit w #[Iv 0,Iv 0] 1 hb (by unfold maxLen;omega) rfl⟩
theorem infoStep:(prog.info? 245).map (fun i=>(i.zero,i.size,i.bytes))=some (some (.agg #[Iv 0,Iv 0]),2,16):=by kernel_rfl
theorem one_step (u v:Int):∀ x ∈ [Value.int .i64 u,Iv v],x.oneCell'=true:=by
 intro x h;simp at h
 rcases h with rfl | rfl <;> rfl
theorem append_step {ops:Array Oper} {rest:List Oper} {o:Oper} {A:Act} {Q:Exit->Act->World->Prop} (hgd:o.guard=none) (sl y:Operand)
  (ho:o.op=.call { callee:=.builtin .append,args:=#[sl,y],argTypes:=#[246,246] })
  (hbuf:SBuf base w g n cap S) (x:Nat) (hs:A.eval sl=Sv g n cap) (hx:A.eval y=Sv w.heap.size 1 1) (hlen:n+1<=1048576) (hb:base<=w.heap.size)
  (h:∀ g' cap' w',SBuf base w' g' (n+1) cap' ((x,0) :: S)->w.grownBy w' (some g)->(g'=g\/w.heap.size<=g')->wpList prog ops Q rest (A.put o.dst (Sv g' (n+1) cap')) w'):wpList prog ops Q (o :: rest) A (w.alloc (.cells #[Iv (x:Int),Iv 0] 245)):=by
 obtain ⟨i0,hi,hz0,hz1,hz2⟩:=info_parts infoStep;have hb2:=hbuf.2.alloc (.cells #[Iv (x:Int),Iv 0] 245);refine wpList_append_lies _ hgd sl y 246 ho base 245 i0 (.agg #[Iv 0,Iv 0]) 2 16 underlying246 hi hz0 hz1 hz2 rfl (by omega) _ n _ hs hb2 ⟨w.heap.size,0,none⟩ 1 1 [Iv (x:Int),Iv 0] hx rfl (World.news_of_block (heap_alloc_new w _)) (one_step (x:Int) 0) (by omega) (by unfold maxLen;omega) (by omega) (by simp;omega) _ rfl ?_;intro g' cap' w' ho' hg' hl' _;refine h g' cap' w' ⟨by rw[hbuf.1];simp,?_⟩ ((World.grownBy_alloc w _ _).trans hg') ?_
 ·rw[fl_top]
  exact ho'
 ·rcases hl' with e | e
  ·left
   have e':g=g':=by simpa [Value.ownBlock] using e
   exact e'.symm
  ·right
   rw[e];simp
theorem keyed:Go.Maps.Keyed prog 3:=Go.Maps.int_keyed underlying3
theorem zeroI (w:World):(zeroValue 3).run prog w=.ok (Iv 0) w:=by kernel_rfl
structure Met (bm m:Nat) (S:List (Nat × Nat)) (D:DataW Unit) (W:World):Prop where
 own:W.ownsMap prog 3 (plainElem (H:=Unit) prog 3) bm m D
 has:∀ x:Nat,Maps.has D (.int .i64 (x:Int))=TR.metIn S x
theorem Met.kept {bm m:Nat} {D:DataW Unit} {row:Option Nat} (h:Met bm m S D w) (hg:w.grownBy W row) (hne:some bm≠row):Met bm m S D W:=⟨h.own.kept hg hne,h.has⟩
theorem Met.top {bm m:Nat} {D:DataW Unit} (h:Met bm m ((d,k) :: R) D w) (k':Nat):Met bm m ((d,k') :: R) D w:=⟨h.own,fun x=>by rw[h.has x];rfl⟩
theorem Met.lt {bm m:Nat} {D:DataW Unit} (h:Met bm m S D w):bm<w.heap.size:=by
 obtain ⟨es,clock,hb,_⟩:=h.own;exact (Array.getElem?_eq_some_iff.1 hb).1
theorem metIn_cons (x k y:Nat) (S:List (Nat × Nat)):TR.metIn ((x,k) :: S) y=((x == y) || TR.metIn S y):=rfl
theorem key_ne {x y:Nat} (h:x≠y):Lit.int .i64 (x:Int)≠Lit.int .i64 (y:Int):=by
 intro e
 injection e with _ e
 omega
theorem has_put {D:DataW Unit} (hD:Maps.IsMap D) (x:Nat) (v:DataW Unit) (h:∀ y:Nat,Maps.has D (.int .i64 (y:Int))=TR.metIn S y) (y:Nat):Maps.has (D.put (.int .i64 (x:Int)) v) (.int .i64 (y:Int))=TR.metIn ((x,0) :: S) y:=by
 rw[metIn_cons]
 by_cases e:x=y
 ·subst e
  rw[Maps.has_put_same (k:=.int .i64 (x:Int)) hD trivial];simp
 ·rw[Maps.has_put_other (key_ne (fun e'=>e e'.symm)),h y]
  simp[e]
theorem has_del {D:DataW Unit} (hnd:(((d,k) :: R).map (·.1)).Nodup) (h:∀ y:Nat,Maps.has D (.int .i64 (y:Int))=TR.metIn ((d,k) :: R) y) (y:Nat):Maps.has (D.del (.int .i64 (d:Int))) (.int .i64 (y:Int))=TR.metIn R y:=by
 by_cases e:d=y
 ·subst e
  rw[Maps.has_del_same]
  cases hm:TR.metIn R d with
  | false=>rfl
  | true=>
   exfalso
   rw[List.map_cons,List.nodup_cons] at hnd;obtain ⟨q,hq,he⟩:=List.any_eq_true.1 hm;exact hnd.1 (List.mem_map.2 ⟨q,hq,by simpa using he⟩)
 ·rw[Maps.has_del_other (key_ne (fun e'=>e e'.symm)),h y,metIn_cons]
  simp[e]
theorem wf_nat (x:Nat) (h:x<=1048576):(Lit.int .i64 (x:Int)).wf=true:=by
 simp[Lit.wf,IntKind.min,IntKind.max,IntKind.signed,IntKind.bits];omega
end TW
namespace TW
open ChangeShapes WideShapes ChangeAt RowKit
variable {B : Nat} {N : Nat → Nd} {F : Nat → Nat} {P : Nat → ByteArray} {w W W' : World} {E : Nat → List T0.Ent}
structure Ns (B:Nat) (N:Nat->Nd) (E:Nat->List T0.Ent) (W:World):Prop where
 ne:∀ i,i<8->(N i).ne=(E i).length
 row:∀ i,i<8->V1.OwnE (B+1) W (N i).ae (E i)
 sane:TR.Sane E (fun i=>(N i).k)
 few:∀ i,(E i).length<=12
 short:∀ i e,e ∈ E i->e.2.size<=14
theorem At_size {k:Nat} {p:ByteArray} {x:Nat} (hs:∀ i e,e ∈ E i->e.2.size<=14) (h:TR.At E x k p):p.size<=1+15*k:=by
 induction h using TR.At.ind with
 | zero=>decide
 | @down d k p x nm _ hm ih=>
  have:=hs _ _ hm
  have h1:(TR.sep d).size<=1:=by
   unfold TR.sep
   split <;> decide
  rw[ByteArray.size_append,ByteArray.size_append];simp only at this;omega
theorem Ns.row_at (h:Ns B N E w) (hg:w.grownBy W (some B)) {i:Nat} (hi:i<8):T0.Row W (N i).ae (E i):=by
 rcases h.row i hi with h0 | ⟨g,e,hb,hk⟩
 ·exact Or.inl h0
 ·have hrow:=(show T0.Row w (N i).ae (E i) from V1.OwnE.row (base:=B+1) (Or.inr ⟨g,e,hb,hk⟩))
  rcases hrow with h0 | ⟨b,off,ha,hlt,hc⟩
  ·exact Or.inl h0
  ·rw[e] at ha
   cases ha;refine Or.inr ⟨g,0,e,Nat.lt_of_lt_of_le hlt hg.size,fun j hj=>?_⟩;have:=hc j hj;exact ⟨hg.cell this.1 (by simp;omega),hg.cell this.2 (by simp;omega)⟩
theorem gr_then {a b c:World} {row row':Option Nat} (h:a.grownBy b row) (k:b.grownBy c row') (hr:∀ j,row'=some j->a.heap.size<=j\/row=some j):a.grownBy c row:=
 ⟨k.os.trans h.os,k.tape.trans h.tape,k.output.trans h.output,Nat.le_trans h.size k.size,fun i hi hne=>(k.block i (Nat.lt_of_lt_of_le hi h.size) (fun e=>by
  rcases hr i e.symm with h1 | h1
  ·omega
  ·exact hne h1.symm)).trans (h.block i hi hne)⟩
theorem below_gr {a b:World} {g m:Nat} (h:a.grownBy b (some g)) (hm:m<=g) (hs:m<=a.heap.size):Below m a b:=
 ⟨h.os,h.tape,h.output,h.size,fun i hi=>h.block i (by omega) (by simp;omega)⟩
theorem blk_gr {a b:World} {g c:Nat} {vs:List Value} (h:K0.Blk c vs a) (hg:a.grownBy b (some g)) (hne:c≠g):K0.Blk c vs b:=
 ⟨fun j hj=>hg.cell (h.cell j hj) (by simpa using hne),fun j hj=>(World.frozen?_of_block (hg.block c h.lt (by simpa using hne))).trans (h.free j hj),Nat.lt_of_lt_of_le h.lt hg.size⟩
structure Mid (B:Nat) (N:Nat->Nd) (w:World) (g n cap bm m:Nat) (D:DataW Unit) (S:List (Nat × Nat)) (F:Nat->Nat) (P:Nat->ByteArray) (W:World):Prop where
 tb:Tb B N F P W
 buf:SBuf w.heap.size W g n cap S
 met:Met bm m S D W
 grown:w.grownBy W (some B)
theorem Mid.drew {g n cap bm m:Nat} {D:DataW Unit} {S:List (Nat × Nat)} (h:Mid B N w g n cap bm m D S F P W):Mid B N w g n cap bm m D S F P W.drew:=
 ⟨h.tb.drew,h.buf,⟨h.met.own,h.met.has⟩,grown_drew h.grown⟩
theorem Mid.alloc {g n cap bm m:Nat} {D:DataW Unit} {S:List (Nat × Nat)} (h:Mid B N w g n cap bm m D S F P W) (o:Obj):Mid B N w g n cap bm m D S F P (W.alloc o):=
 ⟨h.tb.below (K0.below_new W o) h.tb.lt,h.buf.kept (World.grownBy_alloc W o none) (by simp),h.met.kept (World.grownBy_alloc W o none) (by simp),h.grown.trans (World.grownBy_alloc W o _)⟩
theorem Mid.put {g n cap bm m d k:Nat} {D:DataW Unit} {R:List (Nat × Nat)} (h:Mid B N w g n cap bm m D ((d,k) :: R) F P W) (hB:B<w.heap.size) (hne:bm≠g) (k':Nat):Mid B N w g n cap bm m D ((d,k') :: R) F P (W.setCell ⟨g,R.length*2+1,none⟩ (Iv (k':Int))):=by
 have hs:=(h.buf.2.stored (R.length*2+1) (Iv (k':Int))).2;have hl:=h.buf.lt;exact ⟨h.tb.below (below_gr hs hl.1 (Nat.le_of_lt (Nat.lt_of_le_of_lt hl.1 hl.2))) hB,h.buf.put k',(h.met.top k').kept hs (by simpa using hne),gr_then h.grown hs (fun j hj=>by cases hj;exact Or.inl hl.1)⟩
theorem Mid.found {g n cap bm m:Nat} {D:DataW Unit} {S:List (Nat × Nat)} {F':Nat->Nat} {P':Nat->ByteArray} (h:Mid B N w g n cap bm m D S F P W) (hB:B<w.heap.size) (hbm:w.heap.size<=bm) (ht:Tb B N F' P' W') (hg:W.grownBy W' (some B)):Mid B N w g n cap bm m D S F' P' W':=
 ⟨ht,h.buf.kept hg (by have:=h.buf.lt.1;simp;omega),h.met.kept hg (by simp;omega),h.grown.trans hg⟩
structure St (B:Nat) (N:Nat->Nd) (E:Nat->List T0.Ent) (w:World) (left:Nat) (g n cap bm:Nat) (S:List (Nat × Nat)) (F:Nat->Nat) (P:Nat->ByteArray) (W:World):Prop where
 tb:Tb B N F P W
 inv:TR.Inv E (fun i=>(N i).k) S F P
 buf:SBuf w.heap.size W g n cap S
 met:∃ m D,Met bm m S D W/\m+left<=281474976710656
 bm:w.heap.size<=bm/\bm≠g
 num:∀ x,F x+left<=281474976710656
 left:left=TR.left E S
 grown:w.grownBy W (some B)
theorem St.drew {left g n cap bm:Nat} {S:List (Nat × Nat)} (h:St B N E w left g n cap bm S F P W):St B N E w left g n cap bm S F P W.drew:=
 ⟨h.tb.drew,h.inv,h.buf,by obtain ⟨m,D,h1,h2⟩:=h.met;exact ⟨m,D,⟨h1.own,h1.has⟩,h2⟩,h.bm,h.num,h.left,grown_drew h.grown⟩
theorem left_le (hf:∀ i,(E i).length<=12):∀ S:List (Nat × Nat),TR.left E S<=13*16 ^ 8*S.length
 | []=>Nat.zero_le _
 | q :: R=>by
  have ih:=left_le hf R;have h1:=hf q.1;have h2:16 ^ (8-(R.length+1))<=16 ^ 8:=Nat.pow_le_pow_right (by decide) (by omega);have h3:((E q.1).length-q.2+1)*16 ^ (8-(R.length+1))<=13*16 ^ 8:=Nat.mul_le_mul (by omega) h2;simp only[TR.left,List.length_cons];rw[Nat.mul_succ];omega
theorem walk (w:World) (hT:Tb B N (fun _=>0) (fun _=>⟨#[]⟩) w) (hN:Ns B N E w) (hK0:(N 0).k=2) :
  Calls prog 171 #[.pointer (some ⟨B,0,none⟩)] w fun e w'=>w.grownBy w' (some B)/\
   ((e=.returned (.bool false)/\TR.treeOk E (fun i=>(N i).k)=false)\/(e=.returned (.bool true)/\∃ F P,Tb B N F P w'/\TR.Inv E (fun i=>(N i).k) [] F P/\∀ x,F x<=281474976710656)):=by
 have hmm:=@run_makeMap prog;have x0:=hT.pth 0 (by decide);have y0:=hT.free 56 (by decide);have t1:=hT.setP (i:=0) (by decide) ⟨#[47]⟩;have g1:w.grownBy (w.setCell ⟨B,56,none⟩ (.string ⟨#[47]⟩)) (some B):=Lib.grownBy_setCell _ B 56 _
 have hs1:(w.setCell ⟨B,56,none⟩ (.string ⟨#[47]⟩)).heap.size=w.heap.size:=by simp[World.setCell]
 have s2:=sbuf_new (base:=w.heap.size) (w.setCell ⟨B,56,none⟩ (.string ⟨#[47]⟩)) (by rw[hs1];exact Nat.le_refl _);have o3:=World.ownsMap_made (H:=Unit) ((w.setCell ⟨B,56,none⟩ (.string ⟨#[47]⟩)).alloc (.cells #[.int .i64 0,.int .i64 0] 245)) prog 3 (plainElem prog 3)
 have hs2:((w.setCell ⟨B,56,none⟩ (.string ⟨#[47]⟩)).alloc (.cells #[.int .i64 0,.int .i64 0] 245)).heap.size=w.heap.size+1:=by simp
 rw[hs2] at o3;obtain ⟨w3,hrun3,own3,turn3⟩:=o3.store keyed underlying247 (by unfold maxLen;omega) (key:=.int .i64 0) (val:=.int .i64 0) (kl:=.int .i64 0) (Go.Maps.keyOf_int_mk underlying3 (by decide)) (plainElem_int underlying3 (by decide))
 have st0:St B N E w (TR.left E [(0,0)]) w.heap.size 1 1 (w.heap.size+1) [(0,0)] (fun _=>0) (fun i=>if i=0 then ⟨#[47]⟩ else ⟨#[]⟩) w3:=by
  have hl:=left_le hN.few [(0,0)];simp only[List.length_cons,List.length_nil] at hl;have gt:=turn3.grown;have ga:=(World.grownBy_alloc (w.setCell ⟨B,56,none⟩ (.string ⟨#[47]⟩)) (.cells #[.int .i64 0,.int .i64 0] 245) none);have gb:=(World.grownBy_alloc ((w.setCell ⟨B,56,none⟩ (.string ⟨#[47]⟩)).alloc (.cells #[.int .i64 0,.int .i64 0] 245)) (.map #[] 0) none);have hBw:=hT.lt;refine ⟨?_,TR.start,?_,⟨1,_,⟨own3,?_⟩,by omega⟩,⟨by omega,by omega⟩,fun x=>by omega,rfl,?_⟩
  ·have h1:Below (B+1) (w.setCell ⟨B,56,none⟩ (.string ⟨#[47]⟩)) w3:=by
    refine ⟨?_,?_,?_,?_,fun k hk=>?_⟩
    ·exact gt.os.trans (gb.os.trans ga.os)
    ·exact gt.tape.trans (gb.tape.trans ga.tape)
    ·exact gt.output.trans (gb.output.trans ga.output)
    ·exact Nat.le_trans ga.size (Nat.le_trans gb.size gt.size)
    ·rw[gt.block k (by simp;omega) (by simp;omega),gb.block k (by simp;omega) (by simp),ga.block k (by simp;omega) (by simp)]
   exact t1.below h1 (by omega)
  ·have:=(s2.kept gb (by simp)).kept gt (by rw[hs1];simp)
   rw[hs1] at this;exact this
  ·intro x
   exact has_put (S:=[]) Maps.isMap_empty 0 _ (fun y=>rfl) x
  ·exact gr_then ((g1.trans (World.grownBy_alloc _ _ _)).trans (World.grownBy_alloc _ _ _)) gt (fun j hj=>by cases hj;left;omega)
 clear own3 turn3 o3 s2 t1 g1 hs1 hs2;go_enter func171,ntmps171;go_wp2
 go_step3
 go_wp2
 go_step3
 go_wp2;have hT0:=hT.lt;clear hrun3 hmm x0 y0 hT
 go_loopg [3] (TR.left E [(0,0)]) (fun gk v wx=>∃ (g n cap:Nat) (S:List (Nat × Nat)) (F:Nat->Nat) (P:Nat->ByteArray),v=.slice (some ⟨g,0,none⟩) n cap/\St B N E w gk g n cap (w.heap.size+1) S F P wx)
 case atStart=>exact ⟨_,_,_,_,_,_,rfl,st0⟩
 case round=>
  obtain ⟨g,n,cap,S,F,P,rfl,st⟩:=hrel;clear st0;obtain ⟨go,rfl⟩:∃ go,go=gk:=⟨_,rfl⟩;obtain ⟨wo,rfl⟩:∃ wo,wo=wr:=⟨_,rfl⟩
  cases S with
  | nil=>
   have hn:n=0:=st.buf.1;subst hn;go_wp2
   try rw[Exit.noGoto_ret]
   go_ret;exact ⟨st.grown,Or.inr ⟨rfl,F,P,st.tb,st.inv,fun x=>Nat.le_trans (Nat.le_add_right _ _) (st.num x)⟩⟩
  | cons q R=>
   obtain ⟨d,k⟩:=q;have hn:n=R.length+1:=st.buf.1;subst hn;have hd:=(st.inv.lt (d,k) (by simp)).1;have hBw:=hT0;have i0:=st.buf.ino;have e0:=st.tb.ents hd;rw[hN.ne d hd] at e0;obtain ⟨ae,hae⟩:∃ ae,(N d).ae=ae:=⟨_,rfl⟩;have HAE:Hid ((N d).ae=ae):=hae;rw[hae] at e0;clear hae;have hlen:=st.inv.len;simp only[List.length_cons] at hlen
   have a1:(0:Int)<((R.length+1:Nat):Int):=by omega
   have a2:IntKind.i64.wrap (((R.length+1:Nat):Int)-1)=(R.length:Int):=by rw[IntKind.wrap_i64];omega
   have a3:(0:Int)<=(R.length:Int):=by omega
   have a4:(R.length:Int)<((R.length+1:Nat):Int):=by omega
   have a5:(0:Int)<=(d:Int):=by omega
   have a6:(d:Int)<8:=by omega
   go_wp2
   go_region
   go_wp2;clear i0 e0 a1 a2
   go_loopg [3] go (fun gj v wx=>∃ (k:Nat) (F:Nat->Nat) (P:Nat->ByteArray),gj<=go/\v=.slice (some ⟨g,0,none⟩) (R.length+1) cap/\St B N E w gj g (R.length+1) cap (w.heap.size+1) ((d,k) :: R) F P wx)
   case atStart=>exact ⟨k,F,P,Nat.le_refl _,rfl,st.drew⟩
   case round=>
    clear st;obtain ⟨k,F,P,hle,rfl,st⟩:=hrel;obtain ⟨m,D,hmet,hml⟩:=st.met;have mid0:Mid B N w g (R.length+1) cap (w.heap.size+1) m D ((d,k) :: R) F P wr:=⟨st.tb,st.buf,hmet,st.grown⟩;have n0:=st.buf.next;have hbm:=st.bm
    by_cases hk:k<(E d).length
    ·have hmem:=TR.mem_ent hk
     have hin:=hN.sane.ino d _ hmem;have hsh:=hN.short d _ hmem;have hrow:=hN.row_at st.grown hd;rw[HAE.out] at hrow;obtain ⟨b,off,hab,hbl,hc⟩:=hrow.get hk;subst hab;have x1:=(hc k hk).1;have x2:=(hc k hk).2;obtain ⟨x,hx⟩:∃ x:Nat,(T0.ent (E d) k).1=(x:Int):=⟨(T0.ent (E d) k).1.toNat,by omega⟩;obtain ⟨nm,hnm⟩:∃ nm,(T0.ent (E d) k).2=nm:=⟨_,rfl⟩;have HX:Hid ((T0.ent (E d) k).1=(x:Int)):=hx;have HM:Hid ((T0.ent (E d) k).2=nm):=hnm;rw[hx] at x1 hin;rw[hnm] at x2 hsh;clear hx hnm hc hrow hmem hbl;have mid1:=mid0.alloc (.cells #[.int .i64 (x:Int),.string nm] 133);have mid2:=mid1.put hBw hbm.2 (k+1)
     have eC:(((k+1:Nat)):Int)=(k:Int)+1:=by omega
     rw[eC] at mid2;have be:=K0.blk_new [.int .i64 (x:Int),.string nm] wr 133;have be2:=be.setOther (B':=g) (by have:=st.buf.lt;omega) (R.length*2+1) (.int .i64 ((k:Int)+1));have c0:=be.c0;have c1:=be.c1;have c2:=be2.c0;have c3:=be2.c1;have n1:=mid1.buf.next;have f1:=mid1.buf.free (R.length*2+1);have p1:=mid1.buf.ino;have p2:=mid2.buf.ino
     have b1:(0:Int)<=(k:Int):=by omega
     have b2:(k:Int)<((E d).length:Int):=by omega
     have b3:IntKind.i64.wrap ((k:Int)+1)=(k:Int)+1:=by
      have:=hN.few d;rw[IntKind.wrap_i64];omega
     have hkey:keyOf prog 3 (.int .i64 (x:Int))=some (.int .i64 (x:Int)):=Go.Maps.keyOf_int_mk underlying3 (wf_nat x (by omega));have hown2:=mid2.met.own;have hhas:=hmet.has x
     cases hm:TR.metIn ((d,k) :: R) x with
     | true=>
      rw[hm] at hhas;have HB:Hid (TR.treeOk E (fun i=>(N i).k)=false):=st.inv.back hN.sane hk HX.out hm;have HG:Hid (w.grownBy ((wr.alloc (.cells #[.int .i64 (x:Int),.string nm] 133)).setCell ⟨g,R.length*2+1,none⟩ (.int .i64 ((k:Int)+1))) (some B)):=mid2.grown;clear mid0 mid1 mid2 be be2 st hmet hN hm
      go_wp2_with (at_lookup;refine wpList_lookup_own_ok_int _ rfl _ _ 247 rfl 3 3 .i64 keyed underlying247 underlying3 (zeroI _) (w.heap.size+1) m D rfl hown2 _ _ rfl hkey ?_;intro c hat hwc)
      try rw[Exit.noGoto_ret]
      go_ret;exact ⟨HG.out,Or.inl ⟨rfl,HB.out⟩⟩
     | false=>
      rw[hm] at hhas
      have hx8:x<8:=by omega
      have hl0:0<gk:=by
       rw[st.left];exact Nat.lt_of_le_of_lt (Nat.zero_le _) TR.left_pop
      have hFx:F x<281474976710656:=by have:=st.num x;omega
      have hPd:(P d).size<=281474976710656:=by
       have:=At_size hN.short (st.inv.atS [] (d,k) R rfl);simp only at this;omega
      have mid2d:=mid2.drew
      have hBG:wr.heap.size≠B:=by have:=st.tb.lt;omega
      have HGL:Hid ((w.heap.size<=g/\g<wr.heap.size)/\w.heap.size+1<wr.heap.size):=⟨st.buf.lt,hmet.lt⟩
      have HF:Hid (∀ W,Tb B N F P W->_):=fun W h=>find d x nm W h hd hx8 hFx hPd (by omega)
      have HI:Hid (TR.Inv E (fun i=>(N i).k) ((d,k) :: R) F P/\TR.metIn ((d,k) :: R) x=false/\gk=TR.left E ((d,k) :: R)/\∀ y,F y+gk<=281474976710656):=⟨st.inv,hm,st.left,st.num⟩;have be2d:=be2.drew;have HN:Hid (Ns B N E w):=hN;clear mid0 mid1 mid2 be be2 st hmet hm hPd hFx hN
      go_wp2_with (at_lookup;refine wpList_lookup_own_ok_int _ rfl _ _ 247 rfl 3 3 .i64 keyed underlying247 underlying3 (zeroI _) (w.heap.size+1) m D rfl hown2 _ _ rfl hkey ?_;intro c hat hwc)
      clear hown2 x1 x2 n0 n1 f1 b1 b2 b3;have hS2:((wr.alloc (.cells #[.int .i64 (x:Int),.string nm] 133)).setCell ⟨g,R.length*2+1,none⟩ (.int .i64 ((k:Int)+1))).drew.cell? ⟨g,R.length*2,none⟩=some (.int .i64 (d:Int))/\((wr.alloc (.cells #[.int .i64 (x:Int),.string nm] 133)).setCell ⟨g,R.length*2+1,none⟩ (.int .i64 ((k:Int)+1))).drew.cell? ⟨wr.heap.size,0,none⟩=some (.int .i64 (x:Int))/\((wr.alloc (.cells #[.int .i64 (x:Int),.string nm] 133)).setCell ⟨g,R.length*2+1,none⟩ (.int .i64 ((k:Int)+1))).drew.cell? ⟨wr.heap.size,1,none⟩=some (.string nm):=⟨mid2d.buf.ino,be2d.c0,be2d.c1⟩
      go_region_held3 (fun W=>W.cell? ⟨g,R.length*2,none⟩=some (.int .i64 (d:Int))/\W.cell? ⟨wr.heap.size,0,none⟩=some (.int .i64 (x:Int))/\W.cell? ⟨wr.heap.size,1,none⟩=some (.string nm)) (assumption) ((go_at_call 200;refine (HF.out _ mid2d.tb).mono ?_;rintro e w3 ⟨rfl,t3,g3⟩;have mid3:=mid2d.found hBw hbm.1 t3 g3;have be3:=blk_gr be2d g3 hBG;have hS3:w3.cell? ⟨g,R.length*2,none⟩=some (.int .i64 (d:Int))/\w3.cell? ⟨wr.heap.size,0,none⟩=some (.int .i64 (x:Int))/\w3.cell? ⟨wr.heap.size,1,none⟩=some (.string nm):=⟨mid3.buf.ino,be3.c0,be3.c1⟩))
      have hkd:=mid3.tb.kind hx8;have q0:=be3.c0
      have x5:(0:Int)<=(x:Int):=by omega
      have x6:(x:Int)<8:=by omega
      obtain ⟨kx,hkx⟩:∃ kx,(N x).k=kx:=⟨_,rfl⟩;have HKX:Hid ((N x).k=kx):=hkx;rw[hkx] at hkd;clear hkx hS2 hS3 mid2d be2d HF c0 c1 c2 c3 p1 p2 hhas g3 t3;obtain ⟨I1,I2,I3,I4⟩:=HI.out;obtain ⟨F',eF⟩:∃ F',TR.upF F x=F':=⟨_,rfl⟩;obtain ⟨P',eP⟩:∃ P',TR.upP P x (P d++TR.sep d++nm)=P':=⟨_,rfl⟩
      have hup:∀ y,F' y<=F y+1:=fun y=>by
       rw[<- eF,TR.upF]
       split <;> omega
      rw[eF,eP] at mid3
      by_cases hK:kx=2
      ·have HJ:Hid (TR.Inv E (fun i=>(N i).k) ((x,0) :: (d,k+1) :: R) F' P'/\TR.left E ((x,0) :: (d,k+1) :: R)<gk):=by
        refine ⟨?_,?_⟩
        ·have:=I1.dir hk HX.out I2 (show (N x).k=2 from HKX.out.trans hK) (by omega) hx8
         rw[HM.out,eF,eP] at this;exact this
        ·rw[I3]
         refine TR.left_dir hk (Nat.le_trans (HN.out.few x) (by decide)) ?_
         have:=(I1.dir hk HX.out I2 (show (N x).k=2 from HKX.out.trans hK) (by omega) hx8).len
         simpa using this
       have HL:Hid (m+gk<=281474976710656/\∀ y,F y+gk<=281474976710656):=⟨hml,I4⟩
       have hm48:m<maxLen:=by unfold maxLen;omega
       have mid3d:=(mid3.drew).drew;have hown3:=mid3.met.own;have hwf:(Lit.int .i64 ((R.length:Int)+1)).wf=true:=wf_nat (R.length+1) (by omega);clear I1 I2 I3 I4 eF eP;subst hK;go_wp2
       go_region
       have hown4:((w3.drew).ownsMap prog 3 (plainElem (H:=Unit) prog 3) (w.heap.size+1) m D):=hown3
       go_wp2_with (first
        | (at_mapUpdate;refine wpList_mapUpdate_in _ rfl _ _ _ 247 rfl 3 3 keyed underlying247 _ (w.heap.size+1) m D rfl hown4 hm48 _ _ _ rfl rfl hkey _ [] (plainElem_int underlying3 hwf) ?_;intro w4 own4 turn4;have be4:=blk_gr be3.drew turn4.grown (by have:=HGL.out;omega);have q4:=be4.c0;have buf4:=(mid3.buf.drew).kept turn4.grown (by simpa using hbm.2.symm))
        | (at_builtin;refine append_step rfl (.tmp 87) (.tmp 91) rfl buf4 x (by rfl) (by rfl) (by omega) (by have:=HGL.out;have:=turn4.grown.size;have:=buf4.lt;omega) ?_;intro g5 cap5 w5 buf5 gr5 hl5))
       clear hown3 hown4 q0 q4 hkd;have HO:=HJ.out
       go_roundg (TR.left E ((x,0) :: (d,k+1) :: R))
       case measure=>omega
       case rel=>
        have hL:=HL.out;have hG:=HGL.out
        have hlt5:(w.heap.size:Nat)+1≠g5:=by
         rcases hl5 with e | e
         ·rw[e]
          exact hbm.2
         ·have h1:=turn4.grown.size
          have h2:=be3.lt;have h3:w3.drew.heap.size=w3.heap.size:=rfl;omega
        have t4:=mid3.tb.drew.below (below_gr turn4.grown (m:=w.heap.size) (by omega) (by have h2:=be3.lt;have h3:w3.drew.heap.size=w3.heap.size:=rfl;omega)) hBw;have t5:=t4.below (below_gr gr5 (m:=w.heap.size) hG.1.1 (by have h1:=turn4.grown.size;have h2:=be3.lt;have h3:w3.drew.heap.size=w3.heap.size:=rfl;omega)) hBw;exact ⟨g5,R.length+1+1,cap5,(x,0) :: (d,k+1) :: R,F',P',rfl,⟨t5,HO.1,buf5,⟨m+1,_,⟨own4.kept gr5 (by simpa using hbm.2),has_put mid3.met.own.isMap x _ mid3.met.has⟩,by omega⟩,⟨hbm.1,hlt5⟩,fun y=>by have:=hL.2 y;have:=hup y;omega,rfl,gr_then (gr_then (grown_drew mid3.grown) turn4.grown (fun j hj=>by cases hj;left;omega)) gr5 (fun j hj=>by cases hj;exact Or.inl hG.1.1)⟩⟩
      ·have HJ:Hid (TR.Inv E (fun i=>(N i).k) ((d,k+1) :: R) F' P'/\TR.left E ((d,k+1) :: R)<gk):=by
        refine ⟨?_,?_⟩
        ·have:=I1.file hk HX.out I2 (show ¬ (N x).k=2 from fun e=>hK (HKX.out.symm.trans e)) (by omega)
         rw[HM.out,eF,eP] at this;exact this
        ·rw[I3]
         exact TR.left_file hk
       have HL:Hid (m+gk<=281474976710656/\∀ y,F y+gk<=281474976710656):=⟨hml,I4⟩
       have hK':(kx == 2)=false:=by simpa using hK
       clear I1 I2 I3 I4 eF eP;go_wp2
       go_region
       go_wp2;have HO:=HJ.out
       go_roundg (TR.left E ((d,k+1) :: R))
       case measure=>omega
       case rel=>
        have hL:=HL.out;exact ⟨k+1,F',P',by omega,rfl,⟨mid3.tb.drew,HO.1,mid3.buf.drew,⟨m,D,⟨mid3.met.own,mid3.met.has⟩,by omega⟩,hbm,fun y=>by have:=hL.2 y;have:=hup y;omega,rfl,grown_drew mid3.grown⟩⟩
    ·have b2:¬ ((k:Int)<((E d).length:Int)):=by omega
     have i1:=st.buf.ino;have hkey:keyOf prog 3 (.int .i64 (d:Int))=some (.int .i64 (d:Int)):=Go.Maps.keyOf_int_mk underlying3 (wf_nat d (by omega));have hown:=hmet.own;have hcap:=st.buf.room
     have c1:(R.length:Int)<=(cap:Int):=by omega
     have c2:IntKind.i64.wrap (((R.length+1:Nat):Int)-1)=(R.length:Int):=by rw[IntKind.wrap_i64];omega
     have HS:Hid (St B N E w gk g (R.length+1) cap (w.heap.size+1) ((d,k) :: R) F P wr):=st;have HM:Hid (Met (w.heap.size+1) m ((d,k) :: R) D wr/\m+gk<=281474976710656):=⟨hmet,hml⟩;clear mid0 st hmet hml hN
     go_wp2_with (at_delete;refine wpList_delete_own _ rfl _ _ 247 3 rfl 3 keyed underlying247 _ (w.heap.size+1) m D rfl hown _ _ rfl hkey ?_;intro w1 own1 turn1)
     have hs:=HS.out;have hl:=hs.left;have hp:TR.left E R<TR.left E ((d,k) :: R):=TR.left_pop
     go_roundg (TR.left E R)
     case measure=>omega
     case rel=>
      have hm':=HM.out;have hBl:=hm'.1.lt;refine ⟨g,R.length,cap,R,F,P,rfl,⟨hs.tb.below (below_gr turn1.grown (m:=w.heap.size) (by omega) (by omega)) hBw,hs.inv.pop hk,hs.buf.pop.kept turn1.grown (by simpa using hbm.2.symm),⟨m,_,⟨own1,has_del hs.inv.nodup hm'.1.has⟩,by omega⟩,hbm,fun y=>by have:=hs.num y;omega,rfl,gr_then hs.grown turn1.grown (fun j hj=>by cases hj;left;omega)⟩⟩
end TW
namespace A0
open Go.RowKit
theorem zeroLines:(prog.info? 208).map (fun i=>(i.zero,i.size))=some (some (.agg (Array.replicate 768 (.int .u8 0))),768):=by kernel_rfl
theorem infoByte:(prog.info? 5).map (·.size)=some 1:=by kernel_rfl
theorem infoLine:(prog.info? 206).map (·.size)=some 8:=by kernel_rfl
variable {P : Program}
theorem copy_head (w:World) (dT sT ty elem:TypeId) (b o n cap:Nat) (t:ByteArray) (hu:P.underlying dT=some (.slice elem)) (hs:(P.info? elem).map (·.size)=some 1) (hle:n<=t.size) (ht:w.there b o n) :
  (Builtin.copy_ #[dT,sT] ty #[.slice (some ⟨b,o,none⟩) n cap,.string t]).run P w=.ok (goInt n) (w.setCells b o (Lib.byteCells (t.data.toList.take n))):=by
 have hlen:(Lib.byteCells (t.data.toList.take n)).length=n:=by rw[Lib.byteCells_length,List.length_take,<- Lib.size_eq];omega
 have hst:=run_storeCells_cells (P:=P) b o (Lib.byteCells (t.data.toList.take n)) 0 w (by rw[hlen];intro j hj;simpa using (ht j hj).1) (by rw[hlen];intro j hj;simpa using (ht j hj).2) (Lib.byteCells_one _);have hmin:Nat.min t.size n=n:=Nat.min_eq_right hle
 have htk:List.take n (List.map (fun b:UInt8=>Value.int IntKind.u8 (b.toNat:Int)) t.data.toList)=Lib.byteCells (t.data.toList.take n):=by simp[Lib.byteCells,List.map_take]
 cases hq:P.info? elem with
 | none=>simp[hq] at hs
 | some i=>
  simp only[Nat.add_zero] at hst;simp[Builtin.copy_,run_underlying hu,Builtin.lenOf,Builtin.firstCells,sizeOf,typeInfo,hq,hmin,htk,hst]
theorem results_cell {fn:Func} {p:Tmp} {ty:TypeId} (h:fn.results=#[.cell p ty]) (tmps:Array Value) (P:Program) (w:World) :
  (results fn tmps).run P w=((asAddr (tmps.getD p undef)).run P w).andThen fun a w₁=>(loadVar ty a).run P w₁:=by
 simp only[results,h];simp[Sem.run_bind,Result.andThen]
theorem holds_of_range {w:World} {b o:Nat} {l:List UInt8} (h:w.rangeAt b o (Lib.byteCells l)):B0.Holds w b o l:=fun j hj=>h j _ (by simp[Lib.byteCells,hj])
theorem rangeAt_part {w:World} {b o:Nat} {x:List Value} (h:w.rangeAt b o x) (k n:Nat):w.rangeAt b (o+k) ((x.drop k).take n):=fun j v hj=>by
 rw[List.getElem?_take] at hj
 split at hj
 ·rw[List.getElem?_drop] at hj
  have:=h _ v hj
  rwa [<- Nat.add_assoc] at this
 ·cases hj
theorem bytes_part (l:List UInt8) (k n:Nat):((Lib.byteCells l).drop k).take n=Lib.byteCells ((l.drop k).take n):=by simp[Lib.byteCells,List.map_drop,List.map_take]
theorem there_new (w:World) (C:Array Value) (T:TypeId):(w.alloc (.cells C T)).there w.heap.size 0 C.size:=fun j hj=>by
 rw[Nat.zero_add];refine ⟨?_,?_⟩
 ·rw[World.cell?_alloc_mark];simp[hj]
 ·simp[World.frozen?_alloc_mark]
theorem rangeAt_nil (w:World) (b o:Nat):w.rangeAt b o []:=fun j v h=>by simp at h
theorem rangeAt_snoc {w:World} {b o:Nat} {x y:List Value} (h:w.rangeAt b o x) (k:w.rangeAt b (o+x.length) y):w.rangeAt b o (x++y):=fun j v hj=>by
 by_cases hl:j<x.length
 ·rw[List.getElem?_append_left hl] at hj;exact h j v hj
 ·rw[List.getElem?_append_right (by omega)] at hj
  have:=k _ v hj
  rwa [show o+x.length+(j-x.length)=o+j by omega] at this
theorem rangeAt_below {w w':World} {B b o:Nat} {x:List Value} (h:w.rangeAt b o x) (hb:Below B w w') (hB:b<B):w'.rangeAt b o x:=fun j v hj=>(hb.cell (p:=⟨b,o+j,none⟩) hB).trans (h j v hj)
theorem there_below {w w':World} {B b o n:Nat} (h:w.there b o n) (hb:Below B w w') (hB:b<B):w'.there b o n:=fun j hj=>by
 rw[hb.cell (p:=⟨b,o+j,none⟩) hB,hb.frozen (p:=⟨b,o+j,none⟩) hB];exact h j hj
theorem there_sub {w:World} {b o n o' n':Nat} (h:w.there b o n) (h1:o<=o') (h2:o'+n'<=o+n):w.there b o' n':=fun j hj=>by
 have:=h (o'-o+j) (by omega)
 rwa [show o+(o'-o+j)=o'+j by omega] at this
theorem wpList_append_run {w w':World} {v' sv xv:Value} {ops:Array Oper} {rest:List Oper} {o:Oper} {a:Act} {Q:Exit->Act->World->Prop} (hgd:o.guard=none) (s x:Operand) (t:TypeId)
  (ho:o.op=.call { callee:=.builtin .append,args:=#[s,x],argTypes:=#[t,t] }) (hs:a.eval s=sv) (hx:a.eval x=xv)
  (hr:(Builtin.append_ #[t,t] o.type #[sv,xv]).run P w=.ok v' w') (h:wpList P ops Q rest (a.put o.dst v') w'):wpList P ops Q (o :: rest) a w:=by
 refine wpList_plain hgd fun K hK=>?_
 unfold Oper.wp execOp;simp only[ho,resolve,invoke,builtin,Sem.run_bind,Sem.run_pure,Result.andThen_ok,List.map_toArray,List.map_cons,List.map_nil,hs,hx,hr];exact hK _ _ h
theorem fill_part (off:Nat):∀ (l:List Value) (n:Nat) (Z:Array Value),off+n+l.length<=Z.size->
  ((l.zipIdx n).foldl (fun (cs:Array Value) (p:Value × Nat)=>cs.setIfInBounds (off+p.2) p.1) Z).toList=Z.toList.take (off+n)++l++Z.toList.drop (off+n+l.length)
 | [],n,Z,h=>by simp
 | v :: r,n,Z,h=>by
  simp only[List.length_cons] at h;rw[List.zipIdx_cons,List.foldl_cons,fill_part off r (n+1) _ (by simp;omega)]
  have hlt:off+n<Z.toList.length:=by simp;omega
  rw[show off+(n+1)=off+n+1 by omega];simp only[Array.toList_setIfInBounds,List.length_cons]
  have hm:min (off+n) Z.toList.length=off+n:=by omega
  have e1:(Z.toList.set (off+n) v).take (off+n+1)=Z.toList.take (off+n) ++ [v]:=by
   rw[List.set_eq_take_append_cons_drop,if_pos hlt,List.take_append,List.length_take,hm,List.take_take];rw[show min (off+n+1) (off+n)=off+n by omega,show off+n+1-(off+n)=1 by omega];rfl
  have e2:(Z.toList.set (off+n) v).drop (off+n+1+r.length)=Z.toList.drop (off+n+(r.length+1)):=by
   rw[List.drop_set_of_lt (by omega)]
   congr 1
   omega
  rw[e1,e2];simp
theorem fill_two (A B Z:Array Value) (h:Z.size=A.size+B.size) :
  (Array.foldl (fun (cs:Array Value) (x:Value × Nat)=>cs.setIfInBounds (0+x.snd) x.fst) Z A.zipIdx).size=Z.size/\
  Array.foldl (fun (cs:Array Value) (x:Value × Nat)=>cs.setIfInBounds (A.size+x.snd) x.fst) (Array.foldl (fun (cs:Array Value) (x:Value × Nat)=>cs.setIfInBounds (0+x.snd) x.fst) Z A.zipIdx) B.zipIdx=A++B:=by
 have hAl:A.toList.length=A.size:=by simp
 have hBl:B.toList.length=B.size:=by simp
 have hZl:Z.toList.length=Z.size:=by simp
 have hf1:=fill_part 0 A.toList 0 Z (by rw[hAl];omega)
 have e1:(Array.foldl (fun (cs:Array Value) (x:Value × Nat)=>cs.setIfInBounds (0+x.snd) x.fst) Z A.zipIdx).toList=A.toList++Z.toList.drop A.size:=by
  rw[<- Array.foldl_toList,Array.toList_zipIdx,hf1,hAl,Nat.zero_add,Nat.zero_add];rfl
 generalize Array.foldl (fun (cs:Array Value) (x:Value × Nat)=>cs.setIfInBounds (0+x.snd) x.fst) Z A.zipIdx=G at e1
 have hGl:G.toList.length=G.size:=by simp
 have hG:G.size=Z.size:=by rw[<- hGl,e1,List.length_append,List.length_drop,hAl,hZl];omega
 refine ⟨hG,?_⟩;have hf2:=fill_part A.size B.toList 0 G (by rw[hBl];omega)
 apply Array.toList_inj.1
 rw[<- Array.foldl_toList,Array.toList_zipIdx,hf2,Nat.add_zero,hBl,e1,List.take_append_of_le_length (by omega),List.take_of_length_le (by omega),List.drop_of_length_le (by rw[List.length_append,List.length_drop,hAl,hZl];omega),List.append_nil,Array.toList_append]
end A0
namespace A1
open ChangeShapes WideShapes ChangeAt RowKit
structure Cut (B:Nat) (w:World) (l:List UInt8) (k:Nat) (W:World):Prop where
 t0:W.there B 0 768
 t1:W.there (B+1) 0 768
 row:W.rangeAt (B+1) 0 (Lib.byteCells (l.take (k*8)))
 bel:Below B w W
 lt:B+1<W.heap.size
theorem cut_new (w:World) (Z:Array Value) (hZ:Z.size=768) (l:List UInt8):Cut w.heap.size w l 0 ((w.alloc (.cells Z 208)).alloc (.cells Z 208)):=by
 have h0:=A0.there_new w Z 208;have h1:=A0.there_new (w.alloc (.cells Z 208)) Z 208;rw[World.size_alloc] at h1;rw[hZ] at h0 h1;exact ⟨World.there_alloc h0 _,h1,by simpa [Lib.byteCells] using A0.rangeAt_nil _ _ _,((Below.refl _ _).alloc (Nat.le_refl _) _).alloc (by simp) _,by simp⟩
theorem Cut.drew {B:Nat} {w W:World} {l:List UInt8} {k:Nat} (h:Cut B w l k W):Cut B w l k W.drew:=
 ⟨by simpa using h.t0,by simpa using h.t1,by simpa using h.row,h.bel.drew,h.lt⟩
theorem Cut.step {B:Nat} {w W:World} {l:List UInt8} {k:Nat} (h:Cut B w l k W) (hl:l.length=768) (hk:k<96):Cut B w l (k+1) (W.setCells (B+1) (k*8) (Lib.byteCells ((l.drop (k*8)).take 8))):=by
 have hlen:(Lib.byteCells ((l.drop (k*8)).take 8)).length=8:=by rw[Lib.byteCells_length,List.length_take,List.length_drop];omega
 have hpl:(Lib.byteCells (l.take (k*8))).length=k*8:=by rw[Lib.byteCells_length,List.length_take];omega
 refine ⟨World.there_setCells h.t0 _ _ _,World.there_setCells h.t1 _ _ _,?_,B0.below_setCells (by omega) _ _ _ h.bel,by rw[B0.size_setCells];exact h.lt⟩;rw[show (k+1)*8=k*8+8 by omega,List.take_add,Lib.byteCells_append];refine A0.rangeAt_snoc (World.rangeAt_setCells_apart h.row _ _ _ (by rw[hpl];omega)) ?_;rw[hpl,Nat.zero_add];exact World.rangeAt_setCells_same _ _ _ _ (by rw[hlen];exact A0.there_sub h.t1 (by omega) (by omega))
theorem extract_take (s:ByteArray) (k:Nat) (h:k+8<=768):(s.extract k 768).data.toList.take 8=(s.data.toList.drop k).take 8:=by
 rw[Lib.extract_data,List.take_take]
 congr 1
 omega
theorem cutLines (s:ByteArray) (w:World) (hs:s.size=768) :
  Calls prog 195 #[.string s] w (Rb (.agg (Lib.byteCells s.data.toList).toArray) w):=by
 have hl:s.data.toList.length=768:=by rw[<- Lib.size_eq];exact hs
 obtain ⟨hz0,hsz⟩:=zero_of_info A0.zeroLines;obtain ⟨Z,hZ0,hZ⟩:∃ Z:Array Value,Z=Array.replicate 768 (.int .u8 0)/\Z.size=768:=⟨_,rfl,by simp⟩;rw[<- hZ0] at hz0;clear hZ0;have h0:=cut_new w Z hZ s.data.toList;obtain ⟨C,hC⟩:∃ C,(Lib.byteCells s.data.toList).toArray=C:=⟨_,rfl⟩;rw[hC];go_enter func195,ntmps195;go_wp2
 go_loopw [5] (fun i w'=>∃ k:Nat,k<=96/\i=Iv k/\Cut w.heap.size w s.data.toList k w') (fun i _=>96-(intOf i).toNat)
 case atStart=>exact ⟨0,Nat.zero_le _,rfl,h0⟩
 case round=>
  obtain ⟨k,hk,rfl,hc⟩:=hrel
  by_cases hlt:k<96
  ·have e1:(0:Int)<=(k:Int):=by omega
   have e2:(k:Int)<96:=by omega
   have e3:(0:Int)<=(k:Int)*8:=by omega
   have e4:(k:Int)*8<=(s.size:Int):=by omega
   have hd:=hc.drew;have hcp:=A0.copy_head (P:=prog) wr.drew 126 9 3 5 (w.heap.size+1) (k*8) 8 8 (s.extract (k*8) 768) underlying126 A0.infoByte (by rw[ByteArray.size_extract];omega) (A0.there_sub hd.t1 (by omega) (by omega));rw[extract_take s (k*8) (by omega)] at hcp;have h1:=hd.step hl hlt;obtain ⟨W1,hW1⟩:∃ W1,wr.drew.setCells (w.heap.size+1) (k*8) (Lib.byteCells ((s.data.toList.drop (k*8)).take 8))=W1:=⟨_,rfl⟩;rw[hW1] at hcp h1;clear hW1;go_wp2
   go_region
   all_goals
    go_wp2
    go_roundw
    case rel=>exact ⟨k+1,by omega,by go_num,h1⟩
    case measure=>simp[intOf];omega
  ·obtain rfl:k=96:=by omega
   have hr:=hc.row;rw[List.take_of_length_le (by omega)] at hr
   have hn:(Lib.byteCells s.data.toList).length=768:=by rw[Lib.byteCells_length,hl]
   have hrr:(wr.setCells w.heap.size 0 (Lib.byteCells s.data.toList)).rangeAt w.heap.size 0 (Lib.byteCells s.data.toList):=World.rangeAt_setCells_same _ _ _ _ (by rw[hn];exact hc.t0);have hlr:=run_loadVar_mid (P:=prog) _ w.heap.size 0 208 _ _ hrr underlying208 rfl (by rw[hsz,hn]);have hb:Bq w (wr.setCells w.heap.size 0 (Lib.byteCells s.data.toList)):=B0.below_setCells (Nat.le_refl _) _ _ _ hc.bel
   have hCl:C.toList=Lib.byteCells s.data.toList:=by rw[<- hC]
   have hCs:C.size=768:=by rw[<- hC];simpa using hn
   have h1:C.all (·.oneCell')=true:=by rw[<- hC];exact all_oneCell_toArray (Lib.byteCells_one _)
   obtain ⟨W1,hW1⟩:∃ W1,wr.setCells w.heap.size 0 (Lib.byteCells s.data.toList)=W1:=⟨_,rfl⟩;rw[hW1] at hlr hb;rw[hC] at hlr
   go_wp2_with (first
    | (refine wpList_load_mid rfl 208 (.tmp 3) rfl (w.heap.size+1) 0 rfl _ _ hr underlying208 rfl (by rw[hsz,hn]) ?_;rw[hC])
    | (refine wpList_store_mid rfl 208 (.tmp 2) (.tmp 17) rfl w.heap.size 0 C rfl rfl (by rw[hCs];exact hc.t0) (by rw[hsz,hCs]) h1 ?_;rw[hCl,hW1]))
   refine bodyPost_ret (v:=.agg C) ?_ rfl ⟨rfl,hb⟩;rw[A0.results_cell rfl]
   show ((asAddr (Pv w.heap.size 0)).run prog W1).andThen _=_
   simp only[asAddr,Sem.run_pure,Result.andThen_ok,hlr]
end A1
end Go.Proofs.YtlejhfnjmkdobaaGreatDoor
