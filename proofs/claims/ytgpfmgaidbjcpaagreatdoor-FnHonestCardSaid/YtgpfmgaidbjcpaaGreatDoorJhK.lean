/- Joined texts. -/
import Derived.Test.YtgpfmgaidbjcpaaGreatDoorJhJ
import Derived.Test.YtgpfmgaidbjcpaaGreatDoorJhE
set_option linter.unusedVariables false
set_option linter.unusedSimpArgs false
set_option maxRecDepth 10000
set_option maxHeartbeats 16000000
namespace Go.Proofs.YtgpfmgaidbjcpaaGreatDoor
open ChangeShapes WideShapes ChangeAt RowKit
open Go.Proofs.Tryz
section
variable {base g n cap : Nat} {w W W' : World} {d k x : Nat} {R S : List (Nat × Nat)}
def ra:List (Nat × Nat)->List Value
 | []=>[]
 | q :: r=>.int .i64 (q.1:Int) :: .int .i64 (q.2:Int) :: ra r
theorem Qu:∀ l:List (Nat × Nat),(ra l).length=l.length*2
 | []=>rfl
 | q :: r=>by simp[ra,Qu r];omega
theorem Qv:∀ l m:List (Nat × Nat),ra (l++m)=ra l++ra m
 | [],m=>rfl
 | q :: r,m=>by simp[ra,Qv r m]
theorem zL (d k:Nat) (R:List (Nat × Nat)):ra ((d,k) :: R).reverse=ra R.reverse ++ [aa (d:Int),aa (k:Int)]:=by rw[List.reverse_cons,Qv];rfl
theorem vn (R:List (Nat × Nat)):(ra R.reverse).length=R.length*2:=by rw[Qu,List.length_reverse]
def gU (base:Nat) (w:World) (g n cap:Nat) (S:List (Nat × Nat)):Prop:=n=S.length/\w.ownsRow base 224 2 (.slice (some ⟨g,0,none⟩) n cap) n (ra S.reverse)
theorem gU.kept {row:Option Nat} (h:gU base w g n cap S) (hg:w.grownBy W row) (hne:some g≠row):gU base W g n cap S:=⟨h.1,h.2.kept hg (Or.inr hne)⟩
theorem gU.lt (h:gU base w g n cap S):base<=g/\g<w.heap.size:=h.2.lt g rfl
theorem gU.drew (h:gU base w g n cap S):gU base w.drew g n cap S:=h
theorem gU.ino (h:gU base w g n cap ((d,k) :: R)):w.cell? ⟨g,R.length*2,none⟩=some (.int .i64 (d:Int)):=by have hn:n=R.length+1:=h.1;rw[h.2.cellAt (R.length*2) (by omega),zL,nF (by rw[vn];exact av _),vn,Nat.sub_self];rfl
theorem gU.next (h:gU base w g n cap ((d,k) :: R)):w.cell? ⟨g,R.length*2+1,none⟩=some (.int .i64 (k:Int)):=by have hn:n=R.length+1:=h.1;rw[h.2.cellAt (R.length*2+1) (by omega),zL,nF (by rw[vn];omega),vn,show R.length*2+1-R.length*2=1 by omega];rfl
theorem gU.free (h:gU base w g n cap S) (j:Nat):w.frozen? ⟨g,j,none⟩=false:=h.2.frozenAt j
theorem gU.put (h:gU base w g n cap ((d,k) :: R)) (k':Nat):gU base (w.setCell ⟨g,R.length*2+1,none⟩ (aa (k':Int))) g n cap ((d,k') :: R):=by have:=(h.2.stored (R.length*2+1) (aa (k':Int))).1;rw[zL,List.set_append_right _ _ (by rw[vn];omega),vn,show R.length*2+1-R.length*2=1 by omega] at this;refine ⟨h.1,?_⟩;rw[zL];exact this
theorem gU.pop (h:gU base w g n cap ((d,k) :: R)):gU base w g R.length cap R:=by
 have hn:n=R.length+1:=h.1;refine ⟨rfl,vn R,?_⟩;rcases h.2.2 with ⟨h',_⟩ | ⟨g',cap',cur,h',hb,hg,hnc,hcm,hcs,ht⟩;·cases h'
 cases h';refine Or.inr ⟨g,cap,cur,rfl,hb,hg,by omega,hcm,hcs,?_⟩;have:=iw (List.take (R.length*2)) ht;rw[Y9,zL,List.take_left' (vn R),Nat.min_eq_left (by omega)] at this;exact this
theorem gU.room (h:gU base w g n cap S):n<=cap:=by
 rcases h.2.2 with ⟨h',_⟩ | ⟨g',cap',cur,h',hb,hg,hnc,hcm,hcs,ht⟩;·cases h'
 cases h';exact hnc
theorem abR (w:World) (hb:base<=w.heap.size):gU base (w.alloc (.cells #[aa 0,aa 0] 224)) w.heap.size 1 1 [(0,0)]:=⟨rfl,World.ownsRow_lit w #[aa 0,aa 0] 1 hb (by unfold maxLen;omega) rfl⟩
theorem abS:(prog.info? 224).map (fun i=>(i.zero,i.size,i.bytes))=some (some (.agg #[aa 0,aa 0]),2,16):=by kernel_rfl
theorem abT (u v:Int):∀ x ∈ [Value.int .i64 u,aa v],x.oneCell'=true:=by intro x h;simp at h;rcases h with rfl | rfl <;> rfl
theorem abU {ops:Array Oper} {rest:List Oper} {o:Oper} {A:Act} {Q:Exit->Act->World->Prop} (hgd:o.guard=none) (sl y:Operand) (ho:o.op=.call { callee:=.builtin .append,args:=#[sl,y],argTypes:=#[225,225] }) (hbuf:gU base w g n cap S) (x:Nat) (hs:A.eval sl=aH g n cap) (hx:A.eval y=aH w.heap.size 1 1) (hlen:n+1<=1048576) (hb:base<=w.heap.size) (h:∀ g' cap' w',gU base w' g' (n+1) cap' ((x,0) :: S)->w.grownBy w' (some g)->(g'=g\/w.heap.size<=g')->wpList prog ops Q rest (A.put o.dst (aH g' (n+1) cap')) w'):wpList prog ops Q (o :: rest) A (w.alloc (.cells #[aa (x:Int),aa 0] 224)):=by
 obtain ⟨i0,hi,hz0,hz1,hz2⟩:=iv abS;have hb2:=hbuf.2.alloc (.cells #[aa (x:Int),aa 0] 224);refine qG _ hgd sl y 225 ho base 224 i0 (.agg #[aa 0,aa 0]) 2 16 underlying225 hi hz0 hz1 hz2 rfl (by omega) _ n _ hs hb2 ⟨w.heap.size,0,none⟩ 1 1 [aa (x:Int),aa 0] hx rfl (uU (nA w _)) (abT (x:Int) 0) (by omega) (by unfold maxLen;omega) (by omega) (by simp;omega) _ rfl ?_;intro g' cap' w' ho' hg' hl' _;refine h g' cap' w' ⟨by rw[hbuf.1];simp,?_⟩ ((qK w _ _).trans hg') ?_
 ·rw[zL];exact ho'
 rcases hl' with e | e
 ·left;have e':g=g':=by simpa [Value.ownBlock] using e
  exact e'.symm
 right;rw[e];simp
theorem Cd:Go.Maps.Keyed prog 3:=Go.Maps.int_keyed underlying3
theorem Qw (w:World):(zeroValue 3).run prog w=.ok (aa 0) w:=by kernel_rfl
structure re (bm m:Nat) (S:List (Nat × Nat)) (D:DataW Unit) (W:World):Prop where
 own:W.ownsMap prog 3 (plainElem (H:=Unit) prog 3) bm m D
 has:∀ x:Nat,Maps.has D (.int .i64 (x:Int))=lQ S x
theorem re.kept {bm m:Nat} {D:DataW Unit} {row:Option Nat} (h:re bm m S D w) (hg:w.grownBy W row) (hne:some bm≠row):re bm m S D W:=⟨h.own.kept hg hne,h.has⟩
theorem re.top {bm m:Nat} {D:DataW Unit} (h:re bm m ((d,k) :: R) D w) (k':Nat):re bm m ((d,k') :: R) D w:=⟨h.own,fun x=>by rw[h.has x];rfl⟩
theorem re.lt {bm m:Nat} {D:DataW Unit} (h:re bm m S D w):bm<w.heap.size:=by obtain ⟨es,clock,hb,_⟩:=h.own;exact (nz.1 hb).1
theorem Qx (x k y:Nat) (S:List (Nat × Nat)):lQ ((x,k) :: S) y=((x == y) || lQ S y):=rfl
theorem Qy {x y:Nat} (h:x≠y):Lit.int .i64 (x:Int)≠Lit.int .i64 (y:Int):=by
 intro e;injection e with _ e
 omega
theorem Qz {D:DataW Unit} (hD:Maps.IsMap D) (x:Nat) (v:DataW Unit) (h:∀ y:Nat,Maps.has D (.int .i64 (y:Int))=lQ S y) (y:Nat):Maps.has (D.put (.int .i64 (x:Int)) v) (.int .i64 (y:Int))=lQ ((x,0) :: S) y:=by
 rw[Qx];by_cases e:x=y
 ·subst e;rw[Maps.has_put_same (k:=.int .i64 (x:Int)) hD trivial];simp
 rw[Maps.has_put_other (Qy (fun e'=>e e'.symm)),h y];simp[e]
theorem abV {D:DataW Unit} (hnd:(((d,k) :: R).map (·.1)).Nodup) (h:∀ y:Nat,Maps.has D (.int .i64 (y:Int))=lQ ((d,k) :: R) y) (y:Nat):Maps.has (D.del (.int .i64 (d:Int))) (.int .i64 (y:Int))=lQ R y:=by
 by_cases e:d=y
 ·subst e;rw[Maps.has_del_same];cases hm:lQ R d with
  | false=>rfl
  | true=>
   exfalso;rw[qF,Il] at hnd;obtain ⟨q,hq,he⟩:=Bd.1 hm;exact hnd.1 (sq.2 ⟨q,hq,by simpa using he⟩)
 rw[Maps.has_del_other (Qy (fun e'=>e e'.symm)),h y,Qx];simp[e]
theorem Jy (x:Nat) (h:x<=1048576):(Lit.int .i64 (x:Int)).wf=true:=by simp[Lit.wf,IntKind.min,IntKind.max,IntKind.signed,IntKind.bits];omega
end
section
variable {B : Nat} {N : Nat → dw} {F : Nat → Nat} {P : Nat → ByteArray} {w W W' : World} {E : Nat → List aB}
structure Cg (B:Nat) (N:Nat->dw) (E:Nat->List aB) (W:World):Prop where
 ne:∀ i,i<8->(N i).ne=(E i).length
 row:∀ i,i<8->cU (B+1) W (N i).ae (E i)
 VF:sK E (fun i=>(N i).k)
 yB:∀ i,(E i).length<=12
 short:∀ i e,e ∈ E i->e.2.size<=14
theorem abW {k:Nat} {p:ByteArray} {x:Nat} (hs:∀ i e,e ∈ E i->e.2.size<=14) (h:fy E x k p):p.size<=1+15*k:=by
 induction h using fy.ind with
 | zero=>decide
 | @down d k p x nm _ hm ih=>
  have:=hs _ _ hm;have h1:(jQ d).size<=1:=by unfold jQ;split <;> decide
  rw[ke,ke];simp only at this;omega
theorem Cg.akN (h:Cg B N E w) (hg:w.grownBy W (some B)) {i:Nat} (hi:i<8):cW W (N i).ae (E i):=by
 rcases h.row i hi with h0 | ⟨g,e,hb,hk⟩;·exact Or.inl h0
 have hrow:=(show cW w (N i).ae (E i) from cU.row (base:=B+1) (Or.inr ⟨g,e,hb,hk⟩))
 rcases hrow with h0 | ⟨b,off,ha,hlt,hc⟩;·exact Or.inl h0
 rw[e] at ha;cases ha;refine Or.inr ⟨g,0,e,cv hlt hg.size,fun j hj=>?_⟩;have:=hc j hj;exact ⟨hg.cell this.1 (by simp;omega),hg.cell this.2 (by simp;omega)⟩
theorem Ch {a b c:World} {row row':Option Nat} (h:a.grownBy b row) (k:b.grownBy c row') (hr:∀ j,row'=some j->a.heap.size<=j\/row=some j):a.grownBy c row:=
 ⟨k.os.trans h.os,k.tape.trans h.tape,k.output.trans h.output,br h.size k.size,fun i hi hne=>(k.block i (cv hi h.size) (fun e=>by
  rcases hr i e.symm with h1 | h1;·omega
  exact hne h1.symm)).trans (h.block i hi hne)⟩
theorem xn {a b:World} {g m:Nat} (h:a.grownBy b (some g)) (hm:m<=g) (hs:m<=a.heap.size):Below m a b:=⟨h.os,h.tape,h.output,h.size,fun i hi=>h.block i (by omega) (by simp;omega)⟩
theorem Jz {a b:World} {g c:Nat} {vs:List Value} (h:az c vs a) (hg:a.grownBy b (some g)) (hne:c≠g):az c vs b:=⟨fun j hj=>hg.cell (h.cell j hj) (by simpa using hne),fun j hj=>(yY (hg.block c h.lt (by simpa using hne))).trans (h.free j hj),cv h.lt hg.size⟩
structure oL (B:Nat) (N:Nat->dw) (w:World) (g n cap bm m:Nat) (D:DataW Unit) (S:List (Nat × Nat)) (F:Nat->Nat) (P:Nat->ByteArray) (W:World):Prop where
 tb:eH B N F P W
 buf:gU w.heap.size W g n cap S
 met:re bm m S D W
 grown:w.grownBy W (some B)
theorem oL.drew {g n cap bm m:Nat} {D:DataW Unit} {S:List (Nat × Nat)} (h:oL B N w g n cap bm m D S F P W):oL B N w g n cap bm m D S F P W.drew:=⟨h.tb.drew,h.buf,⟨h.met.own,h.met.has⟩,pU h.grown⟩
theorem oL.alloc {g n cap bm m:Nat} {D:DataW Unit} {S:List (Nat × Nat)} (h:oL B N w g n cap bm m D S F P W) (o:Obj):oL B N w g n cap bm m D S F P (W.alloc o):=⟨h.tb.below (aA W o) h.tb.lt,h.buf.kept (qK W o none) (by simp),h.met.kept (qK W o none) (by simp),h.grown.trans (qK W o _)⟩
theorem oL.put {g n cap bm m d k:Nat} {D:DataW Unit} {R:List (Nat × Nat)} (h:oL B N w g n cap bm m D ((d,k) :: R) F P W) (hB:B<w.heap.size) (hne:bm≠g) (k':Nat):oL B N w g n cap bm m D ((d,k') :: R) F P (W.setCell ⟨g,R.length*2+1,none⟩ (aa (k':Int))):=by have hs:=(h.buf.2.stored (R.length*2+1) (aa (k':Int))).2;have hl:=h.buf.lt;exact ⟨h.tb.below (xn hs hl.1 (pJ (Nat.lt_of_le_of_lt hl.1 hl.2))) hB,h.buf.put k',(h.met.top k').kept hs (by simpa using hne),Ch h.grown hs (fun j hj=>by cases hj;exact Or.inl hl.1)⟩
theorem oL.found {g n cap bm m:Nat} {D:DataW Unit} {S:List (Nat × Nat)} {F':Nat->Nat} {P':Nat->ByteArray} (h:oL B N w g n cap bm m D S F P W) (hB:B<w.heap.size) (qD:w.heap.size<=bm) (ht:eH B N F' P' W') (hg:W.grownBy W' (some B)):oL B N w g n cap bm m D S F' P' W':=⟨ht,h.buf.kept hg (by have:=h.buf.lt.1;simp;omega),h.met.kept hg (by simp;omega),h.grown.trans hg⟩
structure xo (B:Nat) (N:Nat->dw) (E:Nat->List aB) (w:World) (left:Nat) (g n cap bm:Nat) (S:List (Nat × Nat)) (F:Nat->Nat) (P:Nat->ByteArray) (W:World):Prop where
 tb:eH B N F P W
 inv:fS E (fun i=>(N i).k) S F P
 buf:gU w.heap.size W g n cap S
 met:∃ m D,re bm m S D W/\m+left<=281474976710656
 bm:w.heap.size<=bm/\bm≠g
 num:∀ x,F x+left<=281474976710656
 left:left=ju E S
 grown:w.grownBy W (some B)
theorem xo.drew {left g n cap bm:Nat} {S:List (Nat × Nat)} (h:xo B N E w left g n cap bm S F P W):xo B N E w left g n cap bm S F P W.drew:=⟨h.tb.drew,h.inv,h.buf,by obtain ⟨m,D,h1,h2⟩:=h.met;exact ⟨m,D,⟨h1.own,h1.has⟩,h2⟩,h.bm,h.num,h.left,pU h.grown⟩
theorem QA (hf:∀ i,(E i).length<=12):∀ S:List (Nat × Nat),ju E S<=13*16 ^ 8*S.length
 | []=>bh _
 | q :: R=>by have ih:=QA hf R;have h1:=hf q.1;have h2:16 ^ (8-(R.length+1))<=16 ^ 8:=Nat.pow_le_pow_right (by decide) (by omega);have h3:((E q.1).length-q.2+1)*16 ^ (8-(R.length+1))<=13*16 ^ 8:=Nat.mul_le_mul (by omega) h2;simp only[ju,fv];rw[Nat.mul_succ];omega
theorem abX (w:World) (hT:eH B N (fun _=>0) (fun _=>⟨#[]⟩) w) (hN:Cg B N E w) (rX:(N 0).k=2):Calls prog 139 #[.pointer (some ⟨B,0,none⟩)] w fun e w'=>w.grownBy w' (some B)/\((e=.returned (.bool false)/\iz E (fun i=>(N i).k)=false)\/(e=.returned (.bool true)/\∃ F P,eH B N F P w'/\fS E (fun i=>(N i).k) [] F P/\∀ x,F x<=281474976710656)):=by
 have hmm:=@run_makeMap prog;have x0:=hT.rS 0 (by decide);have y0:=hT.free 56 (by decide);have t1:=hT.VQ (i:=0) (by decide) ⟨#[47]⟩;have g1:w.grownBy (w.setCell ⟨B,56,none⟩ (.string ⟨#[47]⟩)) (some B):=YZ _ B 56 _;have hs1:(w.setCell ⟨B,56,none⟩ (.string ⟨#[47]⟩)).heap.size=w.heap.size:=by simp[World.setCell]
 have s2:=abR (base:=w.heap.size) (w.setCell ⟨B,56,none⟩ (.string ⟨#[47]⟩)) (by rw[hs1];exact av _);have o3:=World.ownsMap_made (H:=Unit) ((w.setCell ⟨B,56,none⟩ (.string ⟨#[47]⟩)).alloc (.cells #[.int .i64 0,.int .i64 0] 224)) prog 3 (plainElem prog 3);have hs2:((w.setCell ⟨B,56,none⟩ (.string ⟨#[47]⟩)).alloc (.cells #[.int .i64 0,.int .i64 0] 224)).heap.size=w.heap.size+1:=by simp
 rw[hs2] at o3;obtain ⟨w3,aln,kC,Wf⟩:=o3.store Cd underlying226 (by unfold maxLen;omega) (key:=.int .i64 0) (val:=.int .i64 0) (kl:=.int .i64 0) (Za underlying3 (by decide)) (plainElem_int underlying3 (by decide));have st0:xo B N E w (ju E [(0,0)]) w.heap.size 1 1 (w.heap.size+1) [(0,0)] (fun _=>0) (fun i=>if i=0 then ⟨#[47]⟩ else ⟨#[]⟩) w3:=by
  have hl:=QA hN.yB [(0,0)];simp only[fv,gv] at hl;have gt:=Wf.grown;have ga:=(qK (w.setCell ⟨B,56,none⟩ (.string ⟨#[47]⟩)) (.cells #[.int .i64 0,.int .i64 0] 224) none);have gb:=(qK ((w.setCell ⟨B,56,none⟩ (.string ⟨#[47]⟩)).alloc (.cells #[.int .i64 0,.int .i64 0] 224)) (.map #[] 0) none);have hBw:=hT.lt;refine ⟨?_,abA,?_,⟨1,_,⟨kC,?_⟩,by omega⟩,⟨by omega,by omega⟩,fun x=>by omega,rfl,?_⟩
  ·have h1:Below (B+1) (w.setCell ⟨B,56,none⟩ (.string ⟨#[47]⟩)) w3:=by
    refine ⟨?_,?_,?_,?_,fun k hk=>?_⟩;·exact gt.os.trans (gb.os.trans ga.os)
    ·exact gt.tape.trans (gb.tape.trans ga.tape)
    ·exact gt.output.trans (gb.output.trans ga.output)
    ·exact br ga.size (br gb.size gt.size)
    rw[gt.block k (by simp;omega) (by simp;omega),gb.block k (by simp;omega) (by simp),ga.block k (by simp;omega) (by simp)]
   exact t1.below h1 (by omega)
  ·have:=(s2.kept gb (by simp)).kept gt (by rw[hs1];simp);rw[hs1] at this;exact this
  ·intro x;exact Qz (S:=[]) Maps.isMap_empty 0 _ (fun y=>rfl) x
  exact Ch ((g1.trans (qK _ _ _)).trans (qK _ _ _)) gt (fun j hj=>by cases hj;left;omega)
 clear kC Wf o3 s2 t1 g1 hs1 hs2;go_enter func139,ntmps139;go_wp2;go_step3
 go_wp2;go_step3
 go_wp2;have hT0:=hT.lt;clear aln hmm x0 y0 hT;go_loopg [3] (ju E [(0,0)]) (fun gk v wx=>∃ (g n cap:Nat) (S:List (Nat × Nat)) (F:Nat->Nat) (P:Nat->ByteArray),v=.slice (some ⟨g,0,none⟩) n cap/\xo B N E w gk g n cap (w.heap.size+1) S F P wx)
 case atStart=>exact ⟨_,_,_,_,_,_,rfl,st0⟩
 case round=>
 obtain ⟨g,n,cap,S,F,P,rfl,st⟩:=hrel;clear st0;obtain ⟨go,rfl⟩:∃ go,go=gk:=⟨_,rfl⟩;obtain ⟨wo,rfl⟩:∃ wo,wo=wr:=⟨_,rfl⟩;cases S with
 | nil=>
  have hn:n=0:=st.buf.1;subst hn;go_wp2;try rw[Exit.noGoto_ret]
  go_ret;exact ⟨st.grown,Or.inr ⟨rfl,F,P,st.tb,st.inv,fun x=>br (ix _ _) (st.num x)⟩⟩
 | cons q R=>
  obtain ⟨d,k⟩:=q;have hn:n=R.length+1:=st.buf.1;subst hn;have hd:=(st.inv.lt (d,k) (by simp)).1;have hBw:=hT0;have i0:=st.buf.ino;have e0:=st.tb.Aw hd;rw[hN.ne d hd] at e0;obtain ⟨ae,hae⟩:∃ ae,(N d).ae=ae:=⟨_,rfl⟩;have HAE:Hid ((N d).ae=ae):=hae;rw[hae] at e0;clear hae;have hlen:=st.inv.len;simp only[fv] at hlen;have a1:(0:Int)<((R.length+1:Nat):Int):=by omega
  have a2:IntKind.i64.wrap (((R.length+1:Nat):Int)-1)=(R.length:Int):=by rw[Be];omega
  have a3:(0:Int)<=(R.length:Int):=by omega
  have a4:(R.length:Int)<((R.length+1:Nat):Int):=by omega
  have a5:(0:Int)<=(d:Int):=by omega
  have a6:(d:Int)<8:=by omega
  go_wp2;go_region
  go_wp2;clear i0 e0 a1 a2;go_loopg [3] go (fun gj v wx=>∃ (k:Nat) (F:Nat->Nat) (P:Nat->ByteArray),gj<=go/\v=.slice (some ⟨g,0,none⟩) (R.length+1) cap/\xo B N E w gj g (R.length+1) cap (w.heap.size+1) ((d,k) :: R) F P wx)
  case atStart=>exact ⟨k,F,P,av _,rfl,st.drew⟩
  case round=>
   clear st;obtain ⟨k,F,P,hle,rfl,st⟩:=hrel;obtain ⟨m,D,hmet,AE⟩:=st.met;have G7:oL B N w g (R.length+1) cap (w.heap.size+1) m D ((d,k) :: R) F P wr:=⟨st.tb,st.buf,hmet,st.grown⟩;have n0:=st.buf.next;have qD:=st.bm;by_cases hk:k<(E d).length
   ·have hmem:=BY hk;have hin:=hN.VF.ino d _ hmem;have hsh:=hN.short d _ hmem;have hrow:=hN.akN st.grown hd;rw[HAE.out] at hrow;obtain ⟨b,off,hab,hbl,hc⟩:=hrow.get hk;subst hab;have x1:=(hc k hk).1;have x2:=(hc k hk).2;obtain ⟨x,hx⟩:∃ x:Nat,(bl (E d) k).1=(x:Int):=⟨(bl (E d) k).1.toNat,by omega⟩;obtain ⟨nm,hnm⟩:∃ nm,(bl (E d) k).2=nm:=⟨_,rfl⟩;have HX:Hid ((bl (E d) k).1=(x:Int)):=hx;have HM:Hid ((bl (E d) k).2=nm):=hnm;rw[hx] at x1 hin;rw[hnm] at x2 hsh;clear hx hnm hc hrow hmem hbl;have AH:=G7.alloc (.cells #[.int .i64 (x:Int),.string nm] 47);have yJ:=AH.put hBw qD.2 (k+1);have eC:(((k+1:Nat)):Int)=(k:Int)+1:=by omega
    rw[eC] at yJ;have be:=aY [.int .i64 (x:Int),.string nm] wr 47;have DB:=be.aP (B':=g) (by have:=st.buf.lt;omega) (R.length*2+1) (.int .i64 ((k:Int)+1));have c0:=be.c0;have c1:=be.c1;have c2:=DB.c0;have c3:=DB.c1;have n1:=AH.buf.next;have f1:=AH.buf.free (R.length*2+1);have p1:=AH.buf.ino;have p2:=yJ.buf.ino;have b1:(0:Int)<=(k:Int):=by omega
    have b2:(k:Int)<((E d).length:Int):=by omega
    have b3:IntKind.i64.wrap ((k:Int)+1)=(k:Int)+1:=by have:=hN.yB d;rw[Be];omega
    have hkey:keyOf prog 3 (.int .i64 (x:Int))=some (.int .i64 (x:Int)):=Za underlying3 (Jy x (by omega));have hown2:=yJ.met.own;have hhas:=hmet.has x;cases hm:lQ ((d,k) :: R) x with
    | true=>
     rw[hm] at hhas;have HB:Hid (iz E (fun i=>(N i).k)=false):=st.inv.back hN.VF hk HX.out hm;have HG:Hid (w.grownBy ((wr.alloc (.cells #[.int .i64 (x:Int),.string nm] 47)).setCell ⟨g,R.length*2+1,none⟩ (.int .i64 ((k:Int)+1))) (some B)):=yJ.grown;clear G7 AH yJ be DB st hmet hN hm;go_wp2_with (at_lookup;refine wpList_lookup_own_ok_int _ rfl _ _ 226 rfl 3 3 .i64 Cd underlying226 underlying3 (Qw _) (w.heap.size+1) m D rfl hown2 _ _ rfl hkey ?_;intro c hat hwc);try rw[Exit.noGoto_ret]
     go_ret;exact ⟨HG.out,Or.inl ⟨rfl,HB.out⟩⟩
    | false=>
     rw[hm] at hhas;have rY:x<8:=by omega
     have hl0:0<gk:=by rw[st.left];exact Nat.lt_of_le_of_lt (bh _) Qr
     have Wv:F x<281474976710656:=by have:=st.num x;omega
     have VU:(P d).size<=281474976710656:=by have:=abW hN.short (st.inv.C6 [] (d,k) R rfl);simp only at this;omega
     have Hg:=yJ.drew;have hBG:wr.heap.size≠B:=by have:=st.tb.lt;omega
     have rO:Hid ((w.heap.size<=g/\g<wr.heap.size)/\w.heap.size+1<wr.heap.size):=⟨st.buf.lt,hmet.lt⟩;have HF:Hid (∀ W,eH B N F P W->_):=fun W h=>abL d x nm W h hd rY Wv VU (by omega);have HI:Hid (fS E (fun i=>(N i).k) ((d,k) :: R) F P/\lQ ((d,k) :: R) x=false/\gk=ju E ((d,k) :: R)/\∀ y,F y+gk<=281474976710656):=⟨st.inv,hm,st.left,st.num⟩;have Hx:=DB.drew;have HN:Hid (Cg B N E w):=hN;clear G7 AH yJ be DB st hmet hm VU Wv hN;go_wp2_with (at_lookup;refine wpList_lookup_own_ok_int _ rfl _ _ 226 rfl 3 3 .i64 Cd underlying226 underlying3 (Qw _) (w.heap.size+1) m D rfl hown2 _ _ rfl hkey ?_;intro c hat hwc);clear hown2 x1 x2 n0 n1 f1 b1 b2 b3;have hS2:((wr.alloc (.cells #[.int .i64 (x:Int),.string nm] 47)).setCell ⟨g,R.length*2+1,none⟩ (.int .i64 ((k:Int)+1))).drew.cell? ⟨g,R.length*2,none⟩=some (.int .i64 (d:Int))/\((wr.alloc (.cells #[.int .i64 (x:Int),.string nm] 47)).setCell ⟨g,R.length*2+1,none⟩ (.int .i64 ((k:Int)+1))).drew.cell? ⟨wr.heap.size,0,none⟩=some (.int .i64 (x:Int))/\((wr.alloc (.cells #[.int .i64 (x:Int),.string nm] 47)).setCell ⟨g,R.length*2+1,none⟩ (.int .i64 ((k:Int)+1))).drew.cell? ⟨wr.heap.size,1,none⟩=some (.string nm):=⟨Hg.buf.ino,Hx.c0,Hx.c1⟩;go_region_held3 (fun W=>W.cell? ⟨g,R.length*2,none⟩=some (.int .i64 (d:Int))/\W.cell? ⟨wr.heap.size,0,none⟩=some (.int .i64 (x:Int))/\W.cell? ⟨wr.heap.size,1,none⟩=some (.string nm)) (assumption) ((go_at_call 189;refine (HF.out _ Hg.tb).mono ?_;rintro e w3 ⟨rfl,t3,g3⟩;have nn:=Hg.found hBw qD.1 t3 g3;have yL:=Jz Hx g3 hBG;have Wx:w3.cell? ⟨g,R.length*2,none⟩=some (.int .i64 (d:Int))/\w3.cell? ⟨wr.heap.size,0,none⟩=some (.int .i64 (x:Int))/\w3.cell? ⟨wr.heap.size,1,none⟩=some (.string nm):=⟨nn.buf.ino,yL.c0,yL.c1⟩))
     have hkd:=nn.tb.kind rY;have q0:=yL.c0;have x5:(0:Int)<=(x:Int):=by omega
     have x6:(x:Int)<8:=by omega
     obtain ⟨kx,hkx⟩:∃ kx,(N x).k=kx:=⟨_,rfl⟩;have MG:Hid ((N x).k=kx):=hkx;rw[hkx] at hkd;clear hkx hS2 Wx Hg Hx HF c0 c1 c2 c3 p1 p2 hhas g3 t3;obtain ⟨I1,I2,I3,I4⟩:=HI.out;obtain ⟨F',eF⟩:∃ F',nQ F x=F':=⟨_,rfl⟩;obtain ⟨P',eP⟩:∃ P',nS P x (P d++jQ d++nm)=P':=⟨_,rfl⟩;have hup:∀ y,F' y<=F y+1:=fun y=>by rw[<- eF,nQ];split <;> omega
     rw[eF,eP] at nn;by_cases hK:kx=2
     ·have HJ:Hid (fS E (fun i=>(N i).k) ((x,0) :: (d,k+1) :: R) F' P'/\ju E ((x,0) :: (d,k+1) :: R)<gk):=by
       refine ⟨?_,?_⟩
       ·have:=I1.dir hk HX.out I2 (show (N x).k=2 from MG.out.trans hK) (by omega) rY
        rw[HM.out,eF,eP] at this;exact this
       rw[I3];refine abI hk (br (HN.out.yB x) (by decide)) ?_;have:=(I1.dir hk HX.out I2 (show (N x).k=2 from MG.out.trans hK) (by omega) rY).len
       simpa using this
      have HL:Hid (m+gk<=281474976710656/\∀ y,F y+gk<=281474976710656):=⟨AE,I4⟩;have ajW:m<maxLen:=by unfold maxLen;omega
      have mid3d:=(nn.drew).drew;have hown3:=nn.met.own;have hwf:(Lit.int .i64 ((R.length:Int)+1)).wf=true:=Jy (R.length+1) (by omega);clear I1 I2 I3 I4 eF eP;subst hK;go_wp2;go_region
      have X5:((w3.drew).ownsMap prog 3 (plainElem (H:=Unit) prog 3) (w.heap.size+1) m D):=hown3;go_wp2_with (first
       | (at_mapUpdate;refine wpList_mapUpdate_in _ rfl _ _ _ 226 rfl 3 3 Cd underlying226 _ (w.heap.size+1) m D rfl X5 ajW _ _ _ rfl rfl hkey _ [] (plainElem_int underlying3 hwf) ?_;intro w4 A9 yf;have be4:=Jz yL.drew yf.grown (by have:=rO.out;omega);have q4:=be4.c0;have Yz:=(nn.buf.drew).kept yf.grown (by simpa using qD.2.symm))
       | (at_builtin;refine abU rfl (.tmp 87) (.tmp 91) rfl Yz x (by rfl) (by rfl) (by omega) (by have:=rO.out;have:=yf.grown.size;have:=Yz.lt;omega) ?_;intro g5 cap5 w5 aj4 LZ hl5))
      clear hown3 X5 q0 q4 hkd;have HO:=HJ.out;go_roundg (ju E ((x,0) :: (d,k+1) :: R))
      case measure=>omega
      case rel=>
      have hL:=HL.out;have hG:=rO.out;have MQ:(w.heap.size:Nat)+1≠g5:=by
       rcases hl5 with e | e
       ·rw[e];exact qD.2
       have h1:=yf.grown.size;have h2:=yL.lt;have h3:w3.drew.heap.size=w3.heap.size:=rfl;omega
      have t4:=nn.tb.drew.below (xn yf.grown (m:=w.heap.size) (by omega) (by have h2:=yL.lt;have h3:w3.drew.heap.size=w3.heap.size:=rfl;omega)) hBw;have t5:=t4.below (xn LZ (m:=w.heap.size) hG.1.1 (by have h1:=yf.grown.size;have h2:=yL.lt;have h3:w3.drew.heap.size=w3.heap.size:=rfl;omega)) hBw;exact ⟨g5,R.length+1+1,cap5,(x,0) :: (d,k+1) :: R,F',P',rfl,⟨t5,HO.1,aj4,⟨m+1,_,⟨A9.kept LZ (by simpa using qD.2),Qz nn.met.own.isMap x _ nn.met.has⟩,by omega⟩,⟨qD.1,MQ⟩,fun y=>by have:=hL.2 y;have:=hup y;omega,rfl,Ch (Ch (pU nn.grown) yf.grown (fun j hj=>by cases hj;left;omega)) LZ (fun j hj=>by cases hj;exact Or.inl hG.1.1)⟩⟩
     ·have HJ:Hid (fS E (fun i=>(N i).k) ((d,k+1) :: R) F' P'/\ju E ((d,k+1) :: R)<gk):=by
       refine ⟨?_,?_⟩
       ·have:=I1.file hk HX.out I2 (show ¬ (N x).k=2 from fun e=>hK (MG.out.symm.trans e)) (by omega)
        rw[HM.out,eF,eP] at this;exact this
       rw[I3];exact abH hk
      have HL:Hid (m+gk<=281474976710656/\∀ y,F y+gk<=281474976710656):=⟨AE,I4⟩;have hK':(kx == 2)=false:=by simpa using hK
      clear I1 I2 I3 I4 eF eP;go_wp2;go_region
      go_wp2;have HO:=HJ.out;go_roundg (ju E ((d,k+1) :: R))
      case measure=>omega
      case rel=>
      have hL:=HL.out;exact ⟨k+1,F',P',by omega,rfl,⟨nn.tb.drew,HO.1,nn.buf.drew,⟨m,D,⟨nn.met.own,nn.met.has⟩,by omega⟩,qD,fun y=>by have:=hL.2 y;have:=hup y;omega,rfl,pU nn.grown⟩⟩
   have b2:¬ ((k:Int)<((E d).length:Int)):=by omega
   have i1:=st.buf.ino;have hkey:keyOf prog 3 (.int .i64 (d:Int))=some (.int .i64 (d:Int)):=Za underlying3 (Jy d (by omega));have hown:=hmet.own;have hcap:=st.buf.room;have c1:(R.length:Int)<=(cap:Int):=by omega
   have c2:IntKind.i64.wrap (((R.length+1:Nat):Int)-1)=(R.length:Int):=by rw[Be];omega
   have HS:Hid (xo B N E w gk g (R.length+1) cap (w.heap.size+1) ((d,k) :: R) F P wr):=st;have HM:Hid (re (w.heap.size+1) m ((d,k) :: R) D wr/\m+gk<=281474976710656):=⟨hmet,AE⟩;clear G7 st hmet AE hN;go_wp2_with (at_delete;refine wpList_delete_own _ rfl _ _ 226 3 rfl 3 Cd underlying226 _ (w.heap.size+1) m D rfl hown _ _ rfl hkey ?_;intro w1 akQ LS);have hs:=HS.out;have hl:=hs.left;have hp:ju E R<ju E ((d,k) :: R):=Qr;go_roundg (ju E R)
   case measure=>omega
   case rel=>
   have hm':=HM.out;have hBl:=hm'.1.lt;refine ⟨g,R.length,cap,R,F,P,rfl,⟨hs.tb.below (xn LS.grown (m:=w.heap.size) (by omega) (by omega)) hBw,hs.inv.pop hk,hs.buf.pop.kept LS.grown (by simpa using qD.2.symm),⟨m,_,⟨akQ,abV hs.inv.nodup hm'.1.has⟩,by omega⟩,qD,fun y=>by have:=hs.num y;omega,rfl,Ch hs.grown LS.grown (fun j hj=>by cases hj;left;omega)⟩⟩
end
end Go.Proofs.YtgpfmgaidbjcpaaGreatDoor
namespace Go.Proofs
open Go.Shelf
def Tryz.lays189_ren:Go.Shelf.Ren:=⟨fun | 189=>98 | 125=>143 | 257=>142 | 128=>200 | 129=>201 | 294=>191 | 295=>192 | 296=>193 | 297=>194 | 298=>195 | 299=>196 | 216=>197 | 300=>198 | 301=>199 | 328=>230 | 329=>231 | 330=>232 | 331=>233 | 332=>234 | 215=>235 | 343=>248 | n=>n,fun | 28=>29 | 3=>3 | 46=>121 | 0=>0 | 51=>194 | 53=>240 | 4=>4 | 183=>232 | 182=>231 | 131=>208 | 5=>5 | 9=>9 | 218=>270 | 222=>274 | 228=>288 | 229=>289 | n=>n,fun | n=>n⟩
theorem Tryz.lays189:Go.Proofs.Lays.n189 Tryz.prog Tryz.lays189_ren:={
 mixed:=by kernel_rfl
 f125:=Tryz.func143.trans (congrArg some (by kernel_rfl))
 f128:=Tryz.func200.trans (congrArg some (by kernel_rfl))
 f129:=Tryz.func201.trans (congrArg some (by kernel_rfl))
 f189:=Tryz.func98.trans (congrArg some (by kernel_rfl))
 f215:=Tryz.func235.trans (congrArg some (by kernel_rfl))
 f216:=Tryz.func197.trans (congrArg some (by kernel_rfl))
 f257:=Tryz.func142.trans (congrArg some (by kernel_rfl))
 f294:=Tryz.func191.trans (congrArg some (by kernel_rfl))
 f295:=Tryz.func192.trans (congrArg some (by kernel_rfl))
 f296:=Tryz.func193.trans (congrArg some (by kernel_rfl))
 f297:=Tryz.func194.trans (congrArg some (by kernel_rfl))
 f298:=Tryz.func195.trans (congrArg some (by kernel_rfl))
 f299:=Tryz.func196.trans (congrArg some (by kernel_rfl))
 f300:=Tryz.func198.trans (congrArg some (by kernel_rfl))
 f301:=Tryz.func199.trans (congrArg some (by kernel_rfl))
 f328:=Tryz.func230.trans (congrArg some (by kernel_rfl))
 f329:=Tryz.func231.trans (congrArg some (by kernel_rfl))
 f330:=Tryz.func232.trans (congrArg some (by kernel_rfl))
 f331:=Tryz.func233.trans (congrArg some (by kernel_rfl))
 f332:=Tryz.func234.trans (congrArg some (by kernel_rfl))
 f343:=Tryz.func248.trans (congrArg some (by kernel_rfl))
 t0:=Tryz.underlying0
 a0:=Tryz.isAgg0
 z0:=Tryz.sizeOf0
 v0:=Tryz.zeroValue0
 t3:=Tryz.underlying3
 a3:=Tryz.isAgg3
 z3:=Tryz.sizeOf3
 v3:=Tryz.zeroValue3
 t4:=Tryz.underlying4
 a4:=Tryz.isAgg4
 z4:=Tryz.sizeOf4
 v4:=Tryz.zeroValue4
 t5:=Tryz.underlying5
 a5:=Tryz.isAgg5
 z5:=Tryz.sizeOf5
 v5:=Tryz.zeroValue5
 t9:=Tryz.underlying9
 a9:=Tryz.isAgg9
 z9:=Tryz.sizeOf9
 v9:=Tryz.zeroValue9
 t28:=Tryz.underlying29
 a28:=Tryz.isAgg29
 z28:=Tryz.sizeOf29
 v28:=Tryz.zeroValue29
 t46:=Tryz.underlying121
 a46:=Tryz.isAgg121
 z46:=Tryz.sizeOf121
 v46:=Tryz.zeroValue121
 t51:=Tryz.underlying194
 a51:=Tryz.isAgg194
 z51:=Tryz.sizeOf194
 v51:=Tryz.zeroValue194
 t53:=Tryz.underlying240
 a53:=Tryz.isAgg240
 z53:=Tryz.sizeOf240
 v53:=Tryz.zeroValue240
 t131:=Tryz.underlying208
 a131:=Tryz.isAgg208
 z131:=Tryz.sizeOf208
 v131:=Tryz.zeroValue208
 t182:=Tryz.underlying231
 a182:=Tryz.isAgg231
 z182:=Tryz.sizeOf231
 v182:=Tryz.zeroValue231
 t183:=Tryz.underlying232
 a183:=Tryz.isAgg232
 z183:=Tryz.sizeOf232
 v183:=Tryz.zeroValue232
 t218:=Tryz.underlying270
 a218:=Tryz.isAgg270
 z218:=Tryz.sizeOf270
 v218:=Tryz.zeroValue270
 t222:=Tryz.underlying274
 a222:=Tryz.isAgg274
 z222:=Tryz.sizeOf274
 v222:=Tryz.zeroValue274
 t228:=Tryz.underlying288
 a228:=Tryz.isAgg288
 z228:=Tryz.sizeOf288
 v228:=Tryz.zeroValue288
 t229:=Tryz.underlying289
 a229:=Tryz.isAgg289
 z229:=Tryz.sizeOf289
 v229:=Tryz.zeroValue289 }
open Go.Sort Go.RowKit in
theorem Tryz.slices_Sort_int (blk off cap:Nat) (zs:List Int) (w:World) (hH:Holds (Value.int .i64) w blk off zs.toArray) (hblk:blk<w.heap.size) (hsz:zs.length<4611686018427387904):Calls Tryz.prog 98 #[.slice (some ⟨blk,off,none⟩) zs.length cap] w fun e w'=>e=.returned (.tuple #[])/\∃ n os,w'=grow (putRow (Value.int .i64) (Sort.ahead w n) blk off (zs.mergeSort fun x y=>decide (x<=y)).toArray) os:=Any.slices_Sort_int Tryz.lays189 blk off cap zs w hH hblk hsz
end Go.Proofs
namespace Go.Proofs.YtgpfmgaidbjcpaaGreatDoor
open ChangeShapes WideShapes ChangeAt RowKit
open Go.Proofs.Tryz
section
open Go.Sort (Holds putRow grow)
variable {B : Nat} {N : Nat → dw} {F : Nat → Nat} {P : Nat → ByteArray} {w W W' : World} {E : Nat → List aB}
theorem Fk {g:Nat} {zs:List Int} (h:az g (cR zs) W):Holds (Value.int .i64) W g 0 zs.toArray:=by
 intro j hj;have hj':j<zs.length:=by simpa using hj
 have h1:=h.cell j (by simpa using hj');have h2:=h.free j (by simpa using hj');refine ⟨?_,by simpa using h2⟩;rw[dW,h1];simp[hj']
theorem abY {g:Nat} {zs:List Int} (hg:g<W.heap.size) (h:Holds (Value.int .i64) W g 0 zs.toArray):az g (cR zs) W:=by
 refine ⟨fun j hj=>?_,fun j hj=>?_,hg⟩
 ·have hj':j<zs.length:=by simpa using hj
  have:=(h j (by simpa using hj')).1;rw[dW] at this;rw[this];simp[hj']
 have hj':j<zs.length:=by simpa using hj
 have:=(h j (by simpa using hj')).2;rwa [dW] at this
theorem QB {g n:Nat} {zs ys:List Int} {os:Array Obj} (h:az g (cR zs) W) (hl:ys.length=zs.length):az g (cR ys) (grow (putRow (Value.int .i64) (Sort.ahead W n) g 0 ys.toArray) os):=by
 have h0:Holds (Value.int .i64) (Sort.ahead W n) g 0 zs.toArray:=Go.Sort.holds_ahead _ _ _ _ _ _ (Fk h);have hlt:g<(putRow (Value.int .i64) (Sort.ahead W n) g 0 ys.toArray).heap.size:=by rw[Bj];exact h.lt
 refine abY (by rw[Og];omega) (Go.Sort.holds_grow _ _ _ _ _ _ hlt (Go.Sort.holds_putRow _ _ _ _ _ _ h0 (by simpa using hl)))
theorem QC {g n base:Nat} {ys:List Int} {os:Array Obj} (hb:base<=g) (hg:base<=W.heap.size):Below base W (grow (putRow (Value.int .i64) (Sort.ahead W n) g 0 ys.toArray) os):=by
 refine ⟨rfl,rfl,rfl,?_,fun k hk=>?_⟩
 ·rw[Og,Bj];exact ix _ _
 rw[Go.Sort.heap_grow_old _ _ (by rw[Bj];exact cv hk hg)];show (W.heap.modify g _)[k]? = W.heap[k]?
 rw[Oi];rw[aM (by omega)]
def gl (zs:List Int):List Int:=zs.mergeSort fun x y=>decide (x<=y)
theorem JA (zs:List Int):(gl zs).Perm zs:=List.mergeSort_perm zs _
theorem zM (zs:List Int):(gl zs).length=zs.length:=(JA zs).length_eq
theorem QD (zs:List Int):(gl zs).Pairwise (·<=·):=by have:=amc (le:=fun x y:Int=>decide (x<=y)) (fun a b c h1 h2=>by simp only[dp] at h1 h2 ⊢;omega) (fun a b=>by simp only[nx,dp];omega) zs;exact this.imp fun h=>by simpa using h
def dJ (Z:Nat->List Int):Nat->List Int
 | 0=>[]
 | i+1=>dJ Z i++Z i
theorem xp {Z:Nat->List Int} (h:∀ i,(Z i).length<=12):∀ i,(dJ Z i).length<=12*i
 | 0=>av _
 | i+1=>by have:=xp h i;have:=h i;rw[dJ,de];omega
def lq (N:Nat->dw):Nat->List Value
 | 0=>[]
 | i+1=>lq N i++(N i).ie
theorem rh (N:Nat->dw):∀ i,(lq N i).length=i*6
 | 0=>rfl
 | i+1=>by rw[lq,de,rh N i,dw.Ms];omega
theorem JB (N:Nat->dw):∀ n i,i<n->((lq N n).drop (i*6)).take 6=(N i).ie
 | 0,i,h=>by omega
 | n+1,i,h=>by
  rw[lq];by_cases e:i=n
  ·subst e;rw[amd (by rw[rh];exact av _),ame (by rw[rh];exact av _),qE];exact ox (Nat.le_of_eq (dw.Ms _))
  ·have hl:=rh N n;rw[amd (by omega),amf (by rw[kE];omega)];exact JB N n i (by omega)
theorem QE (N:Nat->dw) (i j:Nat) (hi:i<8) (hj:j<6):(lq N 8)[i*6+j]? = (N i).ie[j]?:=by have:=iw (fun l:List Value=>l[j]?) (JB N 8 i hi);rw[yZ,aN hj,tJ] at this;exact this
theorem eH.range (h:eH B N F P W):W.rangeAt B 0 (lq N 8):=by
 intro j v hv;have hj:j<48:=by have:=(qI.1 hv).1;rw[rh] at this;exact this
 have e:j=j / 6*6+j % 6:=by omega
 rw[e,QE N (j / 6) (j % 6) (by omega) (by omega)] at hv;rw[dW,e];obtain ⟨h1,h2⟩:=qI.1 hv;rw[h.node (j / 6) (by omega) (j % 6) h1,h2]
theorem QF:(prog.info? 171).map (·.size)=some 48:=by kernel_rfl
theorem abZ:(prog.info? 170).map (·.size)=some 6:=by kernel_rfl
theorem QG (N:Nat->dw) (i:Nat) (hi:i<8) (W:World):(Instr.index 171 (.agg (lq N 8).toArray) (aa (i:Int))).run prog W=.ok (.agg #[aa (N i).k,aa (N i).o,aa (N i).s,.slice (N i).a (N i).n (N i).c,.string (N i).x,.slice (N i).ae (N i).ne (N i).ce]) W:=by
 have e1:(0:Int)<=(i:Int):=by omega
 have e2:(i:Int)<8:=by omega
 obtain ⟨q,hq,hs⟩:∃ q,prog.info? 170=some q/\q.size=6:=by
  have:=abZ;cases h:prog.info? 170 with
  | none=>rw[h] at this;simp at this
  | some q=>rw[h] at this;exact ⟨q,rfl,by simpa using this⟩
 have hg:=JB N 8 i hi;simp[Instr.index,asIntOf,DP underlying171,e1,e2,sizeOf,typeInfo,hq,hs,part];rw[aN hi,hg];rfl
theorem ab0 (zs:List Int):(Lib.compact zs).length=zs.length ↔ ∀ j,j<zs.length->Lib.keeps zs.toArray j=true:=by
 unfold Lib.compact Lib.compactUpTo;rw[Ia];constructor
 ·intro h j hj;have:=List.length_filter_eq_length_iff.1 (h.trans (List.length_range (n:=zs.length)).symm) j (kY.2 hj);exact this
 intro h;rw[List.filter_eq_self.2 fun j hj=>h j (kY.1 hj),List.length_range]
theorem QH (zs:List Int) (j:Nat) (hj:j<zs.length):Lib.keeps zs.toArray j=true ↔ (j=0\/zs[j]≠zs[j-1]'(by omega)):=by
 have e1:zs.toArray[j]! = zs[j]:=by simp[hj]
 have e2:zs.toArray[j-1]! = zs[j-1]'(by omega):=by
  have:j-1<zs.length:=by omega
  simp[this]
 unfold Lib.keeps;rw[e1,e2];simp
theorem ab1 (zs:List Int):(Lib.compact (gl zs)).length=zs.length ↔ zs.Nodup:=by
 rw[<- zM zs,ab0,<- (JA zs).nodup_iff];have hs:=uV.1 (QD zs);constructor
 ·intro h;refine uV.2 fun i j hi hj hij=>?_;have hk:=(QH (gl zs) j hj).1 (h j hj);rcases hk with hk | hk;·omega
  have h1:(gl zs)[j-1]'(by omega)<=(gl zs)[j]:=hs (j-1) j (by omega) hj (by omega);have h2:(gl zs)[i]<=(gl zs)[j-1]'(by omega):=by
   by_cases e:i=j-1
   ·subst e;exact Io _
   exact hs i (j-1) hi (by omega) (by omega)
  omega
 intro h j hj;refine (QH (gl zs) j hj).2 ?_;by_cases h0:j=0;·exact Or.inl h0
 right;have:=uV.1 h (j-1) j (by omega) hj (by omega);exact fun e=>this e.symm
theorem ab2 {ops:Array Oper} {rest:List Oper} {o:Oper} {A:Act} {Q:Exit->Act->World->Prop} {base g n cap:Nat} {zs:List Int} (hgd:o.guard=none) (sl x:Operand) (ho:o.op=.call { callee:=.builtin .append,args:=#[sl,x],argTypes:=#[29,29] }) (hbuf:bH base w (some ⟨g,0,none⟩) n cap zs) (ax:Option Addr) (cx:Nat) (xs:List Int) (hs:A.eval sl=aH g n cap) (hx:A.eval x=.slice ax xs.length cx) (hR:aK w ax xs) (hlen:n+xs.length<=4194304) (hb:base<=w.heap.size) (h:∀ g' cap' w',bH base w' (some ⟨g',0,none⟩) (n+xs.length) cap' (zs++xs)->Below base w w'->wpList prog ops Q rest (A.put o.dst (aH g' (n+xs.length) cap')) w'):wpList prog ops Q (o :: rest) A w:=by
 obtain ⟨i0,hi,hz0,hz1,hz2⟩:=iv vc;by_cases h0:xs=[]
 ·subst h0;refine Bf _ hgd sl x 29 29 ho _ _ hs hx _ _ (vh w 29 _ 3 i0 underlying29 hi _ n cap hbuf.fits ax cx) ?_;exact h g cap w (by rw[qH];exact hbuf) (aQ _ _)
 rcases hR with hR | ⟨b,off,rfl,hb2,hc⟩;·exact absurd hR h0
 have hm:0<xs.length:=Bg.2 h0;refine qG _ hgd sl x 29 ho base 3 i0 (aa 0) 1 8 underlying29 hi hz0 hz1 hz2 rfl (by omega) _ n _ hs hbuf.2 ⟨b,off,none⟩ xs.length cx (cR xs) hx (by simp) ?_ (Jg xs) hm (by unfold maxLen;omega) (by omega) hb _ rfl ?_
 ·intro j u hj;have hj':j<xs.length:=by
   have:=(qI.1 hj).1;simpa using this
  rw[qL,hc j hj',fq _ _ hj',<- hj];simp[hj']
 intro g' cap' w' ho' hg' _ _;refine h g' cap' w' ⟨by rw[hbuf.1];simp,?_⟩ ?_
 ·rw[show cR (zs++xs)=cR zs++cR xs by simp];exact ho'
 exact mw (aQ _ _) hg' (zr hbuf) hb
end
section
def kK (base:Nat) (w:World) (a:Option Addr) (n cap:Nat) (zs:List Int):Prop:=zs.length=n*2/\w.ownsRow base 183 2 (.slice a n cap) n (cR zs)
theorem ab3:(prog.info? 183).map (fun i=>(i.zero,i.size,i.bytes))=some (some (.agg #[aa 0,aa 0]),2,16):=by kernel_rfl
variable {base n cap : Nat} {a : Option Addr} {w W : World} {zs : List Int}
theorem kK.below (h:kK base w a n cap zs) (hb:ah w W):kK base W a n cap zs:=⟨h.1,vd h.2 hb⟩
theorem kK.alloc (h:kK base w a n cap zs) (o:Obj):kK base (w.alloc o) a n cap zs:=h.below ((aQ _ _).alloc (av _) o)
theorem ab4 (w:World) (x y:Int) (hb:base<=w.heap.size):kK base (w.alloc (.cells #[aa x,aa y] 183)) (some ⟨w.heap.size,0,none⟩) 1 1 [x,y]:=⟨rfl,rfl,Or.inr ⟨w.heap.size,1,#[aa x,aa y],rfl,hb,nA w _,av _,by unfold maxLen;omega,rfl,rfl⟩⟩
theorem kK.fits (h:kK base w a n cap zs):n<=cap:=by
 rcases h.2.2 with ⟨h0,h1⟩ | ⟨g,c,cur,hv,_,_,hle,_⟩;·omega
 simp at hv;omega
theorem kK.own (h:kK base w a n cap zs):aR base w a zs:=by
 rcases h.2.2 with ⟨h0,h1⟩ | ⟨g,c,cur,hv,hg,hc,hle,_,hs,ht⟩
 ·left;exact sn (by rw[h.1,h1])
 right;simp at hv;have hn:=h.1;refine ⟨g,hv.1,hg,⟨fun j hj=>?_,fun j hj=>?_,(nz.1 hc).1⟩⟩
 ·have hcell:w.cell? ⟨g,j,none⟩=cur[j]?:=by
   unfold World.cell?;rw[hc];simp
  have hj':j<zs.length:=by simpa using hj
  have e1:(cur.toList.take (n*2))[j]? = (cR zs)[j]?:=by rw[ht]
  rw[yV (by omega)] at e1;rw[hcell,<- DS,e1];simp[hj']
 unfold World.frozen?;rw[hc];simp
theorem ab5 (x y:Int):∀ u ∈ [Value.int .i64 x,aa y],u.oneCell'=true:=by intro u h;simp at h;rcases h with rfl | rfl <;> rfl
theorem JC {ops:Array Oper} {rest:List Oper} {o:Oper} {A:Act} {Q:Exit->Act->World->Prop} (hgd:o.guard=none) (sl x:Operand) (ho:o.op=.call { callee:=.builtin .append,args:=#[sl,x],argTypes:=#[180,180] }) (hbuf:kK base w a n cap zs) (u v:Int) (hs:A.eval sl=.slice a n cap) (hx:A.eval x=aH w.heap.size 1 1) (hlen:n+1<=1048576) (hb:base<=w.heap.size) (h:∀ g' cap' w',kK base w' (some ⟨g',0,none⟩) (n+1) cap' (zs ++ [u,v])->Below base w w'->wpList prog ops Q rest (A.put o.dst (aH g' (n+1) cap')) w'):wpList prog ops Q (o :: rest) A (w.alloc (.cells #[aa u,aa v] 183)):=by
 obtain ⟨i0,hi,hz0,hz1,hz2⟩:=iv ab3;have hb2:=hbuf.alloc (.cells #[aa u,aa v] 183);refine qG _ hgd sl x 180 ho base 183 i0 (.agg #[aa 0,aa 0]) 2 16 underlying180 hi hz0 hz1 hz2 rfl (by omega) _ n _ hs hb2.2 ⟨w.heap.size,0,none⟩ 1 1 [aa u,aa v] hx rfl (uU (nA w _)) (ab5 u v) (by omega) (by unfold maxLen;omega) (by omega) (by simp;omega) _ rfl ?_;intro g' cap' w' ho' hg' _ _;refine h g' cap' w' ⟨by rw[de,hbuf.1];simp;omega,?_⟩ ?_
 ·rw[show cR (zs ++ [u,v])=cR zs ++ [aa u,aa v] by simp];exact ho'
 exact mw ((aQ _ _).alloc hb _) hg' (fun g hg=>(hbuf.2.lt g hg).1) (by simp;omega)
end
section
variable {w W W' : World} {base Bh g c : Nat} {l : List bJ}
def jI:List bJ->List Value
 | []=>[]
 | r :: t=>.int .i64 r.1 :: .int .i64 r.2 :: jI t
theorem QI:∀ l:List bJ,(jI l).length=l.length*2
 | []=>rfl
 | r :: t=>by simp[jI,QI t];omega
theorem JD:∀ l m:List bJ,jI (l++m)=jI l++jI m
 | [],m=>rfl
 | r :: t,m=>by simp[jI,JD t m]
theorem QJ:∀ (l:List bJ) (i:Nat),i<l.length->(jI l)[i*2]? = some (aa (bB l i).1)/\(jI l)[i*2+1]? = some (aa (bB l i).2)
 | [],i,h=>by simp at h
 | r :: t,0,_=>by simp[jI,bB]
 | r :: t,i+1,h=>by
  have:=QJ t i (by simpa using h);have e:bB (r :: t) (i+1)=bB t i:=by simp[bB]
  rw[e,show (i+1)*2=i*2+1+1 by omega,show i*2+1+1+1=(i*2+1)+1+1 by omega];simpa [jI] using this
theorem QK:∀ (l:List bJ) (i:Nat) (r:bJ),((jI l).set (i*2) (aa r.1)).set (i*2+1) (aa r.2)=jI (l.set i r)
 | [],i,r=>by simp[jI]
 | q :: t,0,r=>by simp[jI]
 | q :: t,i+1,r=>by have:=QK t i r;rw[show (i+1)*2=i*2+1+1 by omega];simp only[jI,gL];rw[this]
structure cL (base Bh g c:Nat) (l:List bJ) (W:World):Prop where
 cell:W.cell? ⟨Bh,0,none⟩=some (.slice (some ⟨g,0,none⟩) l.length c)
 free:W.frozen? ⟨Bh,0,none⟩=false
 buf:W.ownsRow base 183 2 (.slice (some ⟨g,0,none⟩) l.length c) l.length (jI l)
 ne:g≠Bh
 lo:base<=Bh
 lt:Bh<W.heap.size
theorem cL.drewN (h:cL base Bh g c l W) (n:Nat):cL base Bh g c l (W.drewN n):=⟨h.cell,h.free,h.buf,h.ne,h.lo,h.lt⟩
theorem cL.drew (h:cL base Bh g c l W):cL base Bh g c l W.drew:=⟨h.cell,h.free,h.buf,h.ne,h.lo,h.lt⟩
theorem cL.below (h:cL base Bh g c l W) (hb:ah W W'):cL base Bh g c l W':=⟨(hb.cell (p:=⟨Bh,0,none⟩) h.lt).trans h.cell,(hb.frozen (p:=⟨Bh,0,none⟩) h.lt).trans h.free,vd h.buf hb,h.ne,h.lo,cv h.lt hb.size⟩
theorem cL.get (h:cL base Bh g c l W) {i:Nat} (hi:i<l.length):ad W g (i*2) (aa (bB l i).1)/\ad W g (i*2+1) (aa (bB l i).2):=by obtain ⟨h1,h2⟩:=QJ l i hi;exact ⟨(h.buf.cellAt (i*2) (by omega)).trans h1,(h.buf.cellAt (i*2+1) (by omega)).trans h2⟩
theorem cL.Nv (h:cL base Bh g c l W):base<=g/\g<W.heap.size:=h.buf.lt g rfl
theorem cL.room (h:cL base Bh g c l W):l.length<=c:=by
 rcases h.buf.2 with ⟨h',_⟩ | ⟨g',cap',cur,h',hb,hg,hnc,hcm,hcs,ht⟩;·cases h'
 cases h';exact hnc
theorem cL.putAt (h:cL base Bh g c l W) (i:Nat) (r:bJ):cL base Bh g c (l.set i r) ((W.setCell ⟨g,i*2,none⟩ (aa r.1)).setCell ⟨g,i*2+1,none⟩ (aa r.2)):=by
 have s1:=h.buf.stored (i*2) (aa r.1);have s2:=s1.1.stored (i*2+1) (aa r.2);have hb:=s2.1;rw[QK] at hb;have hne:∀ j,(⟨g,j,none⟩:Addr) ≠ ⟨Bh,0,none⟩:=fun j q=>h.ne (uR q).1;refine ⟨?_,?_,by rw[DV];exact hb,h.ne,h.lo,by have:=h.lt;simpa [World.setCell] using this⟩
 ·rw[gH _ _ _ _ (hne _),gH _ _ _ _ (hne _),DV];exact h.cell
 rw[iu,iu];exact h.free
theorem pV (i j:Nat) (w:World) (h:cL base Bh g c l w) (hi:i<l.length) (hj:j<l.length):Calls prog 304 #[aH g l.length c,aa (i:Int),aa (j:Int)] w fun e w'=>e=.returned (.bool (decide (bN l i<bN l j)))/\∃ m,w'=w.drewN m:=by
 have x1:=(h.get hi).1;have x2:=(h.get hj).1;have e1:(0:Int)<=(i:Int):=by omega
 have e2:(i:Int)<(l.length:Int):=by omega
 have e3:(0:Int)<=(j:Int):=by omega
 have e4:(j:Int)<(l.length:Int):=by omega
 have hk:bN l i=(bB l i).1:=rfl;have hk':bN l j=(bB l j).1:=rfl;rw[hk,hk'];obtain ⟨a,ha⟩:∃ a,(bB l i).1=a:=⟨_,rfl⟩;obtain ⟨b,hb⟩:∃ b,(bB l j).1=b:=⟨_,rfl⟩;rw[ha] at x1 ⊢;rw[hb] at x2 ⊢;clear h hk hk' ha hb;go_enter func304,ntmps304;go_wp2;go_quiet (fail);go_wp2;go_ret;exact ⟨rfl,_,rfl⟩
theorem Ci (i j:Nat) (w:World) (h:cL base Bh g c l w) (hi:i<l.length) (hj:j<l.length):Calls prog 307 #[aH g l.length c,aa (i:Int),aa (j:Int)] w fun e w'=>e=.returned (.tuple #[])/\cL base Bh g c (jR l i j) w'/\w.grownBy w' (some g):=by
 obtain ⟨x1,x2⟩:=h.get hi;obtain ⟨y1,y2⟩:=h.get hj;have e1:(0:Int)<=(i:Int):=by omega
 have e2:(i:Int)<(l.length:Int):=by omega
 have e3:(0:Int)<=(j:Int):=by omega
 have e4:(j:Int)<(l.length:Int):=by omega
 have f1:=h.buf.frozenAt (i*2);have f2:=h.buf.frozenAt (i*2+1);have f3:=h.buf.frozenAt (j*2);have f4:=h.buf.frozenAt (j*2+1);have hA:=h.putAt i (bB l j);have hB:=h.putAt j (bB l i);obtain ⟨u1,p1⟩:∃ u,((w.setCell ⟨g,i*2,none⟩ (aa (bB l j).1)).setCell ⟨g,i*2+1,none⟩ (aa (bB l j).2)).cell? ⟨g,j*2,none⟩=some u:=⟨_,(hA.get (i:=j) (by rw[DV];exact hj)).1⟩;obtain ⟨u2,p2⟩:∃ u,((w.setCell ⟨g,i*2,none⟩ (aa (bB l j).1)).setCell ⟨g,i*2+1,none⟩ (aa (bB l j).2)).cell? ⟨g,j*2+1,none⟩=some u:=⟨_,(hA.get (i:=j) (by rw[DV];exact hj)).2⟩;obtain ⟨u3,p3⟩:∃ u,((w.setCell ⟨g,j*2,none⟩ (aa (bB l i).1)).setCell ⟨g,j*2+1,none⟩ (aa (bB l i).2)).cell? ⟨g,i*2,none⟩=some u:=⟨_,(hB.get (i:=i) (by rw[DV];exact hi)).1⟩;obtain ⟨u4,p4⟩:∃ u,((w.setCell ⟨g,j*2,none⟩ (aa (bB l i).1)).setCell ⟨g,j*2+1,none⟩ (aa (bB l i).2)).cell? ⟨g,i*2+1,none⟩=some u:=⟨_,(hB.get (i:=i) (by rw[DV];exact hi)).2⟩;have HA:=hA.putAt j (bB l i);have HB:=hB.putAt i (bB l j);have eB:(l.set j (bB l i)).set i (bB l j)=jR l i j:=by
  unfold jR;by_cases e:i=j
  ·subst e;rfl
  exact List.set_comm _ _ (fun q=>e q.symm)
 rw[eB] at HB;have GA:w.grownBy ((((w.setCell ⟨g,i*2,none⟩ (aa (bB l j).1)).setCell ⟨g,i*2+1,none⟩ (aa (bB l j).2)).setCell ⟨g,j*2,none⟩ (aa (bB l i).1)).setCell ⟨g,j*2+1,none⟩ (aa (bB l i).2)) (some g):=sC (sC (sC (sC (BI _ _) _) _) _) _;have GB:w.grownBy ((((w.setCell ⟨g,j*2,none⟩ (aa (bB l i).1)).setCell ⟨g,j*2+1,none⟩ (aa (bB l i).2)).setCell ⟨g,i*2,none⟩ (aa (bB l j).1)).setCell ⟨g,i*2+1,none⟩ (aa (bB l j).2)) (some g):=sC (sC (sC (sC (BI _ _) _) _) _) _;have FA:Hid (cL base Bh g c (jR l i j) ((((w.setCell ⟨g,i*2,none⟩ (aa (bB l j).1)).setCell ⟨g,i*2+1,none⟩ (aa (bB l j).2)).setCell ⟨g,j*2,none⟩ (aa (bB l i).1)).setCell ⟨g,j*2+1,none⟩ (aa (bB l i).2))):=HA;have FB:Hid (cL base Bh g c (jR l i j) ((((w.setCell ⟨g,j*2,none⟩ (aa (bB l i).1)).setCell ⟨g,j*2+1,none⟩ (aa (bB l i).2)).setCell ⟨g,i*2,none⟩ (aa (bB l j).1)).setCell ⟨g,i*2+1,none⟩ (aa (bB l j).2))):=HB;clear hA hB HA HB eB h;go_enter func307,ntmps307;go_wp2;go_region
 all_goals
  go_wp2;refine mu (v:=.tuple #[]) (by simp[results,results307,go_sem]) rfl ?_
 ·first
   | exact ⟨rfl,FA.out.drew,pU GA⟩
   | exact ⟨rfl,FB.out.drew,pU GB⟩
 all_goals first
   | exact ⟨rfl,FA.out.drew,pU GA⟩
   | exact ⟨rfl,FB.out.drew,pU GB⟩
theorem QL (v:Value) (w:World):(Instr.typeAssert (.iface 183 v) 20 183 false).run prog w=.ok v w:=by kernel_rfl
end
section
variable {w W W' : World} {base Bh g c : Nat} {l : List bJ}
structure kg (Bh g g':Nat) (w w':World):Prop where
 os:w'.os=w.os
 tape:w'.tape=w.tape
 output:w'.output=w.output
 size:w.heap.size<=w'.heap.size
 block:∀ k,k<w.heap.size->k≠Bh->k≠g->w'.heap[k]? = w.heap[k]?
 loc:g'=g\/w.heap.size<=g'
theorem kg.grown {g':Nat} (h:kg Bh g g' w W) (k:W.grownBy W' (some g')):kg Bh g g' w W':=
 ⟨k.os.trans h.os,k.tape.trans h.tape,k.output.trans h.output,br h.size k.size,fun j hj hb hg=>by
  rw[k.block j (cv hj h.size) (fun e=>by
   have e':=gw e;rcases h.loc with q | q;·exact hg (e'.trans q)
   omega)]
  exact h.block j hj hb hg,h.loc⟩
theorem kg.below {b g':Nat} (h:kg Bh g g' w W) (hB:b<=Bh) (hg:b<=g) (hs:b<=w.heap.size):Below b w W:=⟨h.os,h.tape,h.output,h.size,fun k hk=>h.block k (by omega) (by omega) (by omega)⟩
theorem cL.head {g' c':Nat} {l':List bJ} {u:Value} {n':Nat} (bf:W.ownsRow base 183 2 (aH g' n' c') n' (jI l')) (hn:l'.length=n') (x:ad W Bh 0 u) (f:W.frozen? ⟨Bh,0,none⟩=false) (ne:g'≠Bh) (lo:base<=Bh) (lt:Bh<W.heap.size):cL base Bh g' c' l' (W.setCell ⟨Bh,0,none⟩ (aH g' n' c')):=by subst hn;refine ⟨ov _ _ _ x,by rw[iu];exact f,DW bf (a:=⟨Bh,0,none⟩) (fun e=>ne (gw e)) _,ne,lo,by simpa [World.setCell] using lt⟩
theorem kg.head {g':Nat} (h:w.grownBy W (some g)) (loc:g'=g\/w.heap.size<=g') (u:Value):kg Bh g g' w (W.setCell ⟨Bh,0,none⟩ u):=⟨h.os,h.tape,h.output,br h.size (by simp[World.setCell]),fun k hk hB hg=>(heap_setCell_other W ⟨Bh,0,none⟩ k u hB).trans (h.block k hk (fun e=>hg (gw e))),loc⟩
theorem kg.akt {g':Nat} (h:kg Bh g g' w.drew W):kg Bh g g' w W:=⟨h.os,h.tape,h.output,h.size,h.block,h.loc⟩
theorem ab6:(prog.info? 183).map (fun i=>(i.zero,i.size,i.bytes))=some (some (.agg #[aa 0,aa 0]),2,16):=by kernel_rfl
theorem ab7 (u v:Int):∀ x ∈ [Value.int .i64 u,aa v],x.oneCell'=true:=by intro x h;simp at h;rcases h with rfl | rfl <;> rfl
theorem ab8 {ops:Array Oper} {o:Oper} {A:Act} {K:Act->World->Prop} {Q:Exit->Act->World->Prop} {E:Prop} (hgd:o.guard=none) (sl x:Operand) (ho:o.op=.call { callee:=.builtin .append,args:=#[sl,x],argTypes:=#[282,282] }) (hbuf:w.ownsRow base 183 2 (aH g l.length c) l.length (jI l)) (r:bJ) (hs:A.eval sl=aH g l.length c) {H:Nat} (hH:w.heap.size=H) (hx:A.eval x=aH H 1 1) (hlen:l.length+1<=1048576) (hb:base<=w.heap.size) (h:∀ g' cap' w',w'.ownsRow base 183 2 (aH g' (l.length+1) cap') (l.length+1) (jI (l ++ [r]))->w.grownBy w' (some g)->(g'=g\/w.heap.size<g')->K (A.put o.dst (aH g' (l.length+1) cap')) w'):if Region.wanted o (yielded ops A.tmps)=true then Oper.wp prog o A (w.alloc (.cells #[aa r.1,aa r.2] 183)) K Q else E:=by
 subst hH;obtain ⟨i0,hi,hz0,hz1,hz2⟩:=iv ab6;have hb2:=hbuf.alloc (.cells #[aa r.1,aa r.2] 183);refine YS _ hgd sl x 282 ho base 183 i0 (.agg #[aa 0,aa 0]) 2 16 underlying282 hi hz0 hz1 hz2 rfl (by omega) _ l.length _ hs hb2 ⟨w.heap.size,0,none⟩ 1 1 [aa r.1,aa r.2] hx rfl (uU (nA w _)) (ab7 r.1 r.2) (by omega) (by unfold maxLen;omega) (by omega) (by simp;omega) _ rfl ?_;intro g' cap' w' ho' hg' hl' _;refine h g' cap' w' ?_ ((qK w _ _).trans hg') ?_
 ·rw[JD];exact ho'
 rcases hl' with q | q
 ·left;have e':g=g':=by simpa [Value.ownBlock] using q
  exact e'.symm
 right;rw[q];simp
theorem ab9 (r:bJ) (w:World) (h:cL base Bh g c l w) (hlen:l.length+1<=1048576):Calls prog 306 #[ao Bh 0,.iface 183 (.agg #[aa r.1,aa r.2])] w fun e w'=>e=.returned (.tuple #[])/\∃ g' c',cL base Bh g' c' (l ++ [r]) w'/\kg Bh g g' w w':=by
 have x0:=h.cell;have f0:=h.free;have hta:=fun v W=>QL v W;have hS0:w.drew.cell? ⟨Bh,0,none⟩=some (aH g l.length c):=x0;have hnew:=aA w.drew (.cells #[aa r.1,aa r.2] 183);have hS1:(w.drew.alloc (.cells #[aa r.1,aa r.2] 183)).cell? ⟨Bh,0,none⟩=some (aH g l.length c):=(hnew.cell (p:=⟨Bh,0,none⟩) h.lt).trans hS0;have hS2:(w.alloc (.cells #[aa r.1,aa r.2] 183)).cell? ⟨Bh,0,none⟩=some (aH g l.length c):=hS1;have hbuf:w.drew.ownsRow base 183 2 (aH g l.length c) l.length (jI l):=h.buf;have hbs:base<=w.drew.heap.size:=br h.lo (pJ h.lt);have HH:Hid (cL base Bh g c l w):=h;have hlenl:(l ++ [r]).length=l.length+1:=by simp
 clear h hnew;go_enter func306,ntmps306;go_wp2;go_region_law (refine ab8 rfl (.tmp 7) (.tmp 10) rfl hbuf r (by rfl) (H:=w.heap.size) rfl (by rfl) hlen hbs ?_;intro g3 c3 w3 vU qC q3;have x3:ad w3 Bh 0 (aH g l.length c):=qC.cell hS0 (by have:=HH.out.ne;simpa using this.symm);have f3:w3.frozen? ⟨Bh,0,none⟩=false:=(yY (a:=⟨Bh,0,none⟩) (qC.block Bh HH.out.lt (by have:=HH.out.ne;simpa using this.symm))).trans HH.out.free)
 all_goals (
  refine mu (v:=.tuple #[]) (by simp[results,results306,go_sem]) rfl ?_;refine ⟨rfl,g3,c3,cL.head (l':=l ++ [r]) vU (by simp) x3 f3 ?_ HH.out.lo (cv HH.out.lt qC.size),(kg.head qC ?_ _).akt⟩
  ·have:=HH.out.ne;have:=HH.out.lt;rcases q3 with q | q;·rw[q];exact HH.out.ne
   have q':w.heap.size<g3:=q;omega
  ·rcases q3 with q | q;·exact Or.inl q
   exact Or.inr (pJ q))
theorem aca (r:bJ) (w:World) (h:cL base Bh g c (l ++ [r]) w):Calls prog 305 #[ao Bh 0] w fun e w'=>e=.returned (.iface 183 (.agg #[aa r.1,aa r.2]))/\cL base Bh g c l w'/\kg Bh g g w w':=by
 have hl:(l ++ [r]).length=l.length+1:=by simp
 have x0:=h.cell;have f0:=h.free;have hr:=h.room;have hg:=h.get (i:=l.length) (by simp);have ha:bB (l ++ [r]) l.length=r:=by simp[bB]
 rw[ha] at hg;obtain ⟨x1,x2⟩:=hg;have hbuf:=h.buf;rw[hl] at x0 hr hbuf;have VC:w.ownsRow base 183 2 (aH g l.length c) l.length (jI l):=by rw[JD] at hbuf;exact ownsRow_pop (QI l) hbuf
 have HH:Hid (cL base Bh g c (l ++ [r]) w):=h;have hm:c<=9223372036854775807:=by
  rcases hbuf.2 with ⟨h',_⟩ | ⟨g',cap',cur,h',hb,hg,hnc,hcm,hcs,ht⟩;·cases h'
  cases h';unfold maxLen at hcm;omega
 have hc:l.length<=c:=by omega
 have e1:((l.length+1:Nat):Int)-1=(l.length:Int):=by omega
 obtain ⟨n,hn⟩:∃ n,l.length=n:=⟨_,rfl⟩;rw[hn] at x0 hr x1 x2 hbuf VC hc e1;have e2:(0:Int)<=(n:Int):=by omega
 have e3:(n:Int)<((n+1:Nat):Int):=by omega
 have e4:(n:Int)<(n:Int)+1:=by omega
 have ew:wrap64 (n:Int)=(n:Int):=by unfold wrap64;omega
 have hnew:=aA w (.cells #[aa r.1,aa r.2] 183);have z1:(w.alloc (.cells #[aa r.1,aa r.2] 183)).cell? ⟨Bh,0,none⟩=some (aH g (n+1) c):=(hnew.cell (p:=⟨Bh,0,none⟩) h.lt).trans x0;have z2:(w.alloc (.cells #[aa r.1,aa r.2] 183)).frozen? ⟨Bh,0,none⟩=false:=(hnew.frozen (p:=⟨Bh,0,none⟩) h.lt).trans f0;have hbn:Bh≠w.heap.size:=Ip h.lt;have akl:=VC.alloc (.cells #[aa r.1,aa r.2] 183);have hgr:=qK w (.cells #[aa r.1,aa r.2] 183) (some g);have y:∀ k,((w.alloc (.cells #[aa r.1,aa r.2] 183)).setCell ⟨Bh,0,none⟩ (aH g n c)).cell? ⟨w.heap.size,k,none⟩=(w.alloc (.cells #[aa r.1,aa r.2] 183)).cell? ⟨w.heap.size,k,none⟩:=fun k=>gH _ _ _ _ (fun q=>hbn (uR q).1);have y1:=(y 0).trans (show _=some (Value.int .i64 r.1) by simp only[World.cell?,nA];rfl);have y2:=(y 1).trans (show _=some (Value.int .i64 r.2) by simp only[World.cell?,nA];rfl);clear h hl ha hnew y;go_enter func305,ntmps305;go_wp2;go_ret;exact ⟨rfl,cL.head (l':=l) akl hn z1 z2 HH.out.ne HH.out.lo (cv HH.out.lt hgr.size),kg.head hgr (Or.inl rfl) _⟩
end
section
variable {w W W' : World} {base Bh g c : Nat} {l : List bJ}
abbrev Fo (Bh:Nat):Value:=.iface 281 (.pointer (some ⟨Bh,0,none⟩))
theorem acb (p:Option Addr) (w:World):(method 465 281 (.pointer p) "Push").run prog w=.ok (306,.pointer p) w:=by kernel_rfl
theorem acd (p:Option Addr) (w:World):(method 465 281 (.pointer p) "Pop").run prog w=.ok (305,.pointer p) w:=by kernel_rfl
theorem ace (a:Addr) (w:World):(method 465 281 (.pointer (some a)) "Less").run prog w=(do let v <- loadVar 282 a;pure (304,v):Sem (FuncId × Value)).run prog w:=by kernel_rfl
theorem acf (a:Addr) (w:World):(method 465 281 (.pointer (some a)) "Swap").run prog w=(do let v <- loadVar 282 a;pure (307,v):Sem (FuncId × Value)).run prog w:=by kernel_rfl
theorem acg (a:Addr) (w:World):(method 465 281 (.pointer (some a)) "Len").run prog w=(do let v <- loadVar 282 a;pure (242,v):Sem (FuncId × Value)).run prog w:=by kernel_rfl
theorem zN {v:Value} (h:ad w Bh 0 v):(method 465 281 (ao Bh 0) "Less").run prog w=.ok (304,v) w:=by rw[ace];simp[go_sem,h]
theorem tS {v:Value} (h:ad w Bh 0 v):(method 465 281 (ao Bh 0) "Swap").run prog w=.ok (307,v) w:=by rw[acf];simp[go_sem,h]
theorem QM {v:Value} (h:ad w Bh 0 v):(method 465 281 (ao Bh 0) "Len").run prog w=.ok (242,v) w:=by rw[acg];simp[go_sem,h]
theorem pW {row:Option Nat} (h:w.grownBy W row) (n:Nat):w.grownBy (W.drewN n) row:=⟨h.os,h.tape,h.output,h.size,h.block⟩
theorem ach (j i:Nat) (h:i=(j-1) / 2):((j:Int)-1).tdiv 2=(i:Int):=by
 subst h;cases j with
 | zero=>rfl
 | succ k=>
  rw[show ((k+1:Nat):Int)-1=(k:Int) by omega,show k+1-1=k by omega];rfl
theorem aci (j:Nat) (w:World) (h:cL base Bh g c l w) (hu:vm l j) (hlen:l.length<=1048576):Calls prog 261 #[Fo Bh,aa (j:Int)] w fun e w'=>e=.returned (.tuple #[])/\∃ l',cL base Bh g c l' w'/\l'.Perm l/\jv l' l'.length/\w.grownBy w' (some g):=by
 go_enter func261,ntmps261;go_wp2;go_loopg [1] (j+1) (fun gk v W=>∃ (j':Nat) (l':List bJ),j'<gk/\v=aa (j':Int)/\cL base Bh g c l' W/\vm l' j'/\l'.Perm l/\w.grownBy W (some g))
 case atStart=>exact ⟨j,l,by omega,rfl,h,hu,List.Perm.refl _,BI _ _⟩
 case round=>
 obtain ⟨j',l',hj,rfl,hs,uO,hp,hg⟩:=hrel;have hjl:=uO.2.2;have hl':l'.length<=1048576:=hp.length_eq ▸ hlen;obtain ⟨i,hi⟩:∃ i:Nat,i=(j'-1) / 2:=⟨_,rfl⟩;have x0:=hs.cell;have ei:((j':Int)-1).tdiv 2=(i:Int):=ach j' i hi;have ew2:wrap64 (i:Int)=(i:Int):=by unfold wrap64;omega
 have ew:wrap64 ((j':Int)-1)=(j':Int)-1:=by unfold wrap64;omega
 have HA:Hid (j'<gk/\cL base Bh g c l' wr/\vm l' j'/\l'.Perm l/\w.grownBy wr (some g)/\i=(j'-1) / 2/\l'.length<=1048576):=⟨hj,hs,uO,hp,hg,hi,hl'⟩;clear hj uO hp hg hi h hu;by_cases e:j'=0
 ·subst e;have e1:i=0:=HA.out.2.2.2.2.2.1;subst e1;go_wp2;refine mu (v:=.tuple #[]) (by simp[results,results261,go_sem]) rfl ?_;obtain ⟨hj,hs,uO,hp,hg,hi,hl'⟩:=HA.out;exact ⟨rfl,l',hs,hp,Qs uO (Or.inl rfl),hg⟩
 have hne:((i:Int) == (j':Int))=false:=by have:=HA.out.2.2.2.2.2.1;simp;omega
 have hil:i<l'.length:=by have:=HA.out.2.2.2.2.2.1;omega
 have hm:=zN x0;have hm2:=fun n=>tS (w:=wr.drewN n) (show (wr.drewN n).cell? ⟨Bh,0,none⟩=some _ from x0)
 by_cases hk:bN l' j'<bN l' i
 ·have hd:decide (bN l' j'<bN l' i)=true:=bK hk;clear hk;go_wp2_with (first
   | (go_at_call 304;refine (pV j' i _ hs hjl hil).mono ?_;rintro e w1 ⟨rfl,m,rfl⟩;rw[hd];have hs1:=HA.out.2.1.drewN m;clear hs)
   | (go_at_call 307;refine (Ci i j' _ hs1 hil hjl).mono ?_;rintro e w2 ⟨rfl,hs2,hg2⟩))
  obtain ⟨hj,hs,uO,hp,hg,hi,hl'⟩:=HA.out;go_roundg (i+1)
  case measure=>omega
  case rel=>exact ⟨i,jR l' i j',by omega,by go_num,hs2,hi ▸ abM uO (by omega) (hi ▸ yT hd),(Cb l' i j' hil hjl).trans hp,(pW hg m).trans hg2⟩
 have hd:decide (bN l' j'<bN l' i)=false:=bA hk;clear hk;go_wp2_with (go_at_call 304;refine (pV j' i _ hs hjl hil).mono ?_;rintro e w1 ⟨rfl,m,rfl⟩;rw[hd];clear hs);refine mu (v:=.tuple #[]) (by simp[results,results261,go_sem]) rfl ?_;obtain ⟨hj,hs,uO,hp,hg,hi,hl'⟩:=HA.out;exact ⟨rfl,l',hs.drewN m,hp,Qs uO (Or.inr (hi ▸ Ie hd)),pW hg m⟩
end
section
variable {w W W' : World} {base Bh g c : Nat} {l : List bJ}
def acj (e:Ending):Prop:=∃ b,e=.returned (.bool b)
theorem ack (n:Nat) (w:World) (h:cL base Bh g c l w) (hd:xm l n 0) (hlen:l.length<=1048576):Calls prog 272 #[Fo Bh,aa 0,aa (n:Int)] w fun e w'=>acj e/\∃ l',cL base Bh g c l' w'/\l'.Perm l/\jv l' n/\(∀ k,n<=k->bB l' k=bB l k)/\w.grownBy w' (some g):=by
 go_enter func272,ntmps272;go_wp2;go_loopg [7] (n+1) (fun gk v W=>∃ (i:Nat) (l':List bJ),i<=n/\i+gk=n+1/\v=aa (i:Int)/\cL base Bh g c l' W/\xm l' n i/\l'.Perm l/\(∀ k,n<=k->bB l' k=bB l k)/\w.grownBy W (some g))
 case atStart=>exact ⟨0,l,by omega,by omega,rfl,h,hd,List.Perm.refl _,fun _ _=>rfl,BI _ _⟩
 case round=>
 obtain ⟨i,l',hin,hik,rfl,hs,hdi,hp,hat,hg⟩:=hrel;have hl':l'.length<=1048576:=hp.length_eq ▸ hlen;have hn:=hdi.2.2;have x0:=hs.cell;have hm0:=zN x0;have HA:Hid (i+gk=n+1/\cL base Bh g c l' wr/\xm l' n i/\l'.Perm l/\(∀ k,n<=k->bB l' k=bB l k)/\w.grownBy wr (some g)):=⟨hik,hs,hdi,hp,hat,hg⟩;clear hdi hp hat h hd;obtain ⟨j1,hj1⟩:∃ j1:Nat,j1=2*i+1:=⟨_,rfl⟩;obtain ⟨j2,hj2⟩:∃ j2:Nat,j2=2*i+2:=⟨_,rfl⟩;have hi2:i<=n:=by omega
 have eA:wrap64 (2*(i:Int))=2*(i:Int):=by unfold wrap64;omega
 have eB:2*(i:Int)+1=(j1:Int):=by omega
 have eC:(j1:Int)+1=(j2:Int):=by omega
 have eB':wrap64 (j1:Int)=(j1:Int):=by unfold wrap64;omega
 have eC':wrap64 (j2:Int)=(j2:Int):=by unfold wrap64;omega
 have c2:¬ ((j1:Int)<0):=by omega
 by_cases hc:2*i+1<n
 ·have HC:Hid (2*i+1<n):=hc;have c1:¬ ((n:Int)<=(j1:Int)):=by omega
  have c1':¬ (n<=j1):=by omega
  have hil:i<l'.length:=by omega
  have G5:j1<l'.length:=by omega
  by_cases hb:j2<n
  ·have c3:(j2:Int)<(n:Int):=by omega
   have Hz:j2<l'.length:=by omega
   by_cases hk2:bN l' j2<bN l' j1
   ·have hq:decide (bN l' j2<bN l' j1)=true:=bK hk2;have iq:jw l' n i=j2:=by unfold jw;rw[aN ⟨by omega,by rw[<- hj1,<- hj2];exact hk2⟩];omega
    have HJ:Hid (j1=2*i+1/\j2=2*i+2):=⟨hj1,hj2⟩;clear hk2 hj1 hj2 hc hg hik;obtain ⟨hjn,hij,hjp⟩:=Fg (l:=l') HC.out;rw[iq] at hjn hij hjp;have hjl:j2<l'.length:=by omega
    by_cases hk:bN l' j2<bN l' i
    ·have hd:decide (bN l' j2<bN l' i)=true:=bK hk;have HK:Hid (jw l' n i=j2/\i<j2/\j2<n/\bN l' j2<bN l' i):=⟨iq,hij,hjn,hk⟩;clear hk iq hij hjn hjp;go_wp2_with (first
      | (go_at_call 304;refine (pV j2 j1 _ hs Hz G5).mono ?_;rintro e w1 ⟨rfl,m,rfl⟩;have hs1:=hs.drewN m;have mM:=pW HA.out.2.2.2.2.2 m;generalize wr.drewN m=W1 at *;have hm1:=zN hs1.cell;clear hs hm0;rw[hq])
      | (go_at_call 304;refine (pV j2 i _ hs1 hjl hil).mono ?_;rintro e w2 ⟨rfl,m2,rfl⟩;have hs2:=hs1.drewN m2;have rQ:=pW mM m2;generalize W1.drewN m2=W2 at *;have yc:=tS hs2.cell;clear hs1 mM hm1;rw[hd])
      | (go_at_call 307;refine (Ci i j2 _ hs2 hil hjl).mono ?_;rintro e w3 ⟨rfl,hs3,hg3⟩))
     obtain ⟨hik,hs,hdi,hp,hat,hg⟩:=HA.out;obtain ⟨iq,hij,hjn,hk⟩:=HK.out;go_roundg (n+1-j2)
     case measure=>omega
     case rel=>exact ⟨j2,jR l' i j2,by omega,by omega,by go_num,hs3,(by have q:=Jw hdi HC.out (by rw[iq];exact hk);rw[iq] at q;exact q),(Cb l' i j2 hil hjl).trans hp,fun k hk=>by rw[Ca l' i j2 k hil hjl,aM (by omega),aM (by omega)];exact hat k hk,rQ.trans hg3⟩
    have hd:decide (bN l' j2<bN l' i)=false:=bA hk;have HK:Hid (jw l' n i=j2/\¬ bN l' j2<bN l' i):=⟨iq,hk⟩;clear hk iq hij hjn hjp;go_wp2_with (first
     | (go_at_call 304;refine (pV j2 j1 _ hs Hz G5).mono ?_;rintro e w1 ⟨rfl,m,rfl⟩;have hs1:=hs.drewN m;have mM:=pW HA.out.2.2.2.2.2 m;generalize wr.drewN m=W1 at *;have hm1:=zN hs1.cell;clear hs hm0;rw[hq])
     | (go_at_call 304;refine (pV j2 i _ hs1 hjl hil).mono ?_;rintro e w2 ⟨rfl,m2,rfl⟩;have hs2:=hs1.drewN m2;have rQ:=pW mM m2;generalize W1.drewN m2=W2 at *;have yc:=tS hs2.cell;clear hs1 mM hm1;rw[hd]))
    go_ret;obtain ⟨hik,hs,hdi,hp,hat,hg⟩:=HA.out;exact ⟨⟨_,rfl⟩,l',hs2,hp,Fh hdi (Or.inr (by rw[HK.out.1];have:=HK.out.2;omega)),hat,rQ⟩
   have hq:decide (bN l' j2<bN l' j1)=false:=bA hk2;have iq:jw l' n i=j1:=by unfold jw;rw[aM (fun q=>hk2 (by rw[hj1,hj2];exact q.2))];omega
   have HJ:Hid (j1=2*i+1/\j2=2*i+2):=⟨hj1,hj2⟩;clear hk2 hj1 hj2 hc hg hik;obtain ⟨hjn,hij,hjp⟩:=Fg (l:=l') HC.out;rw[iq] at hjn hij hjp;have hjl:j1<l'.length:=by omega
   by_cases hk:bN l' j1<bN l' i
   ·have hd:decide (bN l' j1<bN l' i)=true:=bK hk;have HK:Hid (jw l' n i=j1/\i<j1/\j1<n/\bN l' j1<bN l' i):=⟨iq,hij,hjn,hk⟩;clear hk iq hij hjn hjp;go_wp2_with (first
     | (go_at_call 304;refine (pV j2 j1 _ hs Hz G5).mono ?_;rintro e w1 ⟨rfl,m,rfl⟩;have hs1:=hs.drewN m;have mM:=pW HA.out.2.2.2.2.2 m;generalize wr.drewN m=W1 at *;have hm1:=zN hs1.cell;clear hs hm0;rw[hq])
     | (go_at_call 304;refine (pV j1 i _ hs1 hjl hil).mono ?_;rintro e w2 ⟨rfl,m2,rfl⟩;have hs2:=hs1.drewN m2;have rQ:=pW mM m2;generalize W1.drewN m2=W2 at *;have yc:=tS hs2.cell;clear hs1 mM hm1;rw[hd])
     | (go_at_call 307;refine (Ci i j1 _ hs2 hil hjl).mono ?_;rintro e w3 ⟨rfl,hs3,hg3⟩))
    obtain ⟨hik,hs,hdi,hp,hat,hg⟩:=HA.out;obtain ⟨iq,hij,hjn,hk⟩:=HK.out;go_roundg (n+1-j1)
    case measure=>omega
    case rel=>exact ⟨j1,jR l' i j1,by omega,by omega,by go_num,hs3,(by have q:=Jw hdi HC.out (by rw[iq];exact hk);rw[iq] at q;exact q),(Cb l' i j1 hil hjl).trans hp,fun k hk=>by rw[Ca l' i j1 k hil hjl,aM (by omega),aM (by omega)];exact hat k hk,rQ.trans hg3⟩
   have hd:decide (bN l' j1<bN l' i)=false:=bA hk;have HK:Hid (jw l' n i=j1/\¬ bN l' j1<bN l' i):=⟨iq,hk⟩;clear hk iq hij hjn hjp;go_wp2_with (first
    | (go_at_call 304;refine (pV j2 j1 _ hs Hz G5).mono ?_;rintro e w1 ⟨rfl,m,rfl⟩;have hs1:=hs.drewN m;have mM:=pW HA.out.2.2.2.2.2 m;generalize wr.drewN m=W1 at *;have hm1:=zN hs1.cell;clear hs hm0;rw[hq])
    | (go_at_call 304;refine (pV j1 i _ hs1 hjl hil).mono ?_;rintro e w2 ⟨rfl,m2,rfl⟩;have hs2:=hs1.drewN m2;have rQ:=pW mM m2;generalize W1.drewN m2=W2 at *;have yc:=tS hs2.cell;clear hs1 mM hm1;rw[hd]))
   go_ret;obtain ⟨hik,hs,hdi,hp,hat,hg⟩:=HA.out;exact ⟨⟨_,rfl⟩,l',hs2,hp,Fh hdi (Or.inr (by rw[HK.out.1];have:=HK.out.2;omega)),hat,rQ⟩
  have c3:¬ ((j2:Int)<(n:Int)):=by omega
  have iq:jw l' n i=j1:=by unfold jw;rw[aM (fun q=>hb (by omega))];omega
  have HJ:Hid (j1=2*i+1/\j2=2*i+2):=⟨hj1,hj2⟩;obtain ⟨W1,hW⟩:∃ W1,wr=W1:=⟨_,rfl⟩;subst hW;have hs1:=hs;have mM:=hg;have hm1:=hm0;clear hj1 hj2 hc hg hik hs hm0;obtain ⟨hjn,hij,hjp⟩:=Fg (l:=l') HC.out;rw[iq] at hjn hij hjp;have hjl:j1<l'.length:=by omega
  by_cases hk:bN l' j1<bN l' i
  ·have hd:decide (bN l' j1<bN l' i)=true:=bK hk;have HK:Hid (jw l' n i=j1/\i<j1/\j1<n/\bN l' j1<bN l' i):=⟨iq,hij,hjn,hk⟩;clear hk iq hij hjn hjp;go_wp2_with (first
    | (fail)
    | (go_at_call 304;refine (pV j1 i _ hs1 hjl hil).mono ?_;rintro e w2 ⟨rfl,m2,rfl⟩;have hs2:=hs1.drewN m2;have rQ:=pW mM m2;generalize wr.drewN m2=W2 at *;have yc:=tS hs2.cell;clear hs1 mM hm1;rw[hd])
    | (go_at_call 307;refine (Ci i j1 _ hs2 hil hjl).mono ?_;rintro e w3 ⟨rfl,hs3,hg3⟩))
   obtain ⟨hik,hs,hdi,hp,hat,hg⟩:=HA.out;obtain ⟨iq,hij,hjn,hk⟩:=HK.out;go_roundg (n+1-j1)
   case measure=>omega
   case rel=>exact ⟨j1,jR l' i j1,by omega,by omega,by go_num,hs3,(by have q:=Jw hdi HC.out (by rw[iq];exact hk);rw[iq] at q;exact q),(Cb l' i j1 hil hjl).trans hp,fun k hk=>by rw[Ca l' i j1 k hil hjl,aM (by omega),aM (by omega)];exact hat k hk,rQ.trans hg3⟩
  have hd:decide (bN l' j1<bN l' i)=false:=bA hk;have HK:Hid (jw l' n i=j1/\¬ bN l' j1<bN l' i):=⟨iq,hk⟩;clear hk iq hij hjn hjp;go_wp2_with (first
   | (fail)
   | (go_at_call 304;refine (pV j1 i _ hs1 hjl hil).mono ?_;rintro e w2 ⟨rfl,m2,rfl⟩;have hs2:=hs1.drewN m2;have rQ:=pW mM m2;generalize wr.drewN m2=W2 at *;have yc:=tS hs2.cell;clear hs1 mM hm1;rw[hd]))
  go_ret;obtain ⟨hik,hs,hdi,hp,hat,hg⟩:=HA.out;exact ⟨⟨_,rfl⟩,l',hs2,hp,Fh hdi (Or.inr (by rw[HK.out.1];have:=HK.out.2;omega)),hat,rQ⟩
 have c1:(n:Int)<=(j1:Int):=by omega
 have HC:Hid (¬ 2*i+1<n):=hc;clear hj1 hj2 hc hg hik;go_wp2;go_ret;obtain ⟨hik,hs,hdi,hp,hat,hg⟩:=HA.out;exact ⟨⟨_,rfl⟩,l',hs,hp,Fh hdi (Or.inl HC.out),hat,hg⟩
end
end Go.Proofs.YtgpfmgaidbjcpaaGreatDoor
