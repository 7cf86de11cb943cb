/- Joined texts. -/
import Derived.Test.YtlejhfnjmkdobaaGreatDoorJtG
import Derived.Test.YtlejhfnjmkdobaaGreatDoorJtF
set_option linter.unusedVariables false
set_option linter.unusedSimpArgs false
set_option maxRecDepth 10000
set_option maxHeartbeats 16000000
namespace Go.Proofs.YtlejhfnjmkdobaaGreatDoor
open ChangeShapes WideShapes ChangeAt RowKit
open Go.Proofs.Tryz
namespace N4
open N0 (Ln)
open N1 (Sl val vals Lists FitM LB lb_new)
open I2 (ints)
abbrev zero8:List Value:=[.int .i64 0,.int .i64 0,.int .i64 0,.string ⟨#[]⟩,.slice none 0 0,.string ⟨#[]⟩,.slice none 0 0,.slice none 0 0]
structure T (w:World) (d:Ln) (s:Sl) (vs:List Value) (W:World):Prop where
 arg:LB w.heap.size d s W
 res:K0.Blk (w.heap.size+1) zero8 W
 tmp:K0.Blk (w.heap.size+2) vs W
 bel:Bq w W
variable {w W W' : World} {d : Ln} {s : Sl} {vs : List Value}
theorem T.below (h:T w d s vs W) (hb:Bq W W'):T w d s vs W':=⟨h.arg.below hb,h.res.below hb,h.tmp.below hb,h.bel.trans (hb.mono h.bel.size)⟩
theorem T.set (h:T w d s vs W) (j:Nat) (v:Value):T w d s (vs.set j v) (W.setCell ⟨w.heap.size+2,j,none⟩ v):=
 ⟨⟨h.arg.b.setOther (by omega) j v⟩,h.res.setOther (by omega) j v,h.tmp.set j v,h.bel.setCell (p:=⟨w.heap.size+2,j,none⟩) (Nat.le_add_right _ _) v⟩
def at3 (d:Ln) (g1 g2 g3:Nat):Sl:=⟨some ⟨g1,0,none⟩,d.pg.length,some ⟨g2,0,none⟩,d.po.length,some ⟨g3,0,none⟩,d.fr.length⟩
theorem t_new (w:World) (d:Ln) (s:Sl) :
    T w d s [Iv d.ino,Iv d.cl,Iv d.un,.string d.rc,.slice none 0 0,.string ⟨#[]⟩,.slice none 0 0,.slice none 0 0] (((w.alloc (.cells (N1.Lc d s) 70)).alloc (.cells #[Iv 0,Iv 0,Iv 0,.string ⟨#[]⟩,.slice none 0 0,.string ⟨#[]⟩,.slice none 0 0,.slice none 0 0] 46)).alloc (.cells #[Iv d.ino,Iv d.cl,Iv d.un,.string d.rc,.slice none 0 0,.string ⟨#[]⟩,.slice none 0 0,.slice none 0 0] 46)):=
  ⟨⟨((K0.blk_new (vals d s) w 70).alloc _).alloc _⟩,(K0.blk_at zero8 _ 46 (by simp)).alloc _,K0.blk_at [Iv d.ino,Iv d.cl,Iv d.un,.string d.rc,.slice none 0 0,.string ⟨#[]⟩,.slice none 0 0,.slice none 0 0] _ 46 (by simp),
   (((Below.refl _ _).alloc (Nat.le_refl _) _).alloc (by simp) _).alloc (by simp;omega) _⟩
structure Cp (B:Nat) (d:Ln) (g1 g2 g3:Nat) (W:World):Prop where
 h1:B<=g1
 h2:B<=g2
 h3:B<=g3
 k1:K0.Blk g1 (ints d.pg) W
 k2:K0.Blk g2 (ints d.po) W
 k3:K0.Blk g3 (ints d.fr) W
variable {B g1 g2 g3 : Nat}
theorem Cp.below (h:Cp B d g1 g2 g3 W) (hb:Bq W W'):Cp B d g1 g2 g3 W':=⟨h.h1,h.h2,h.h3,h.k1.below hb,h.k2.below hb,h.k3.below hb⟩
theorem Cp.lists (h:Cp B d g1 g2 g3 W):Lists W d (at3 d g1 g2 g3):=⟨I2.row_of_blk h.k1,I2.row_of_blk h.k2,I2.row_of_blk h.k3⟩
theorem put8 {B:Nat} {x0 x1 x2 x3 x4 x5 x6 x7 y0 y1 y2 y3 y4 y5 y6 y7:Value} (h:K0.Blk B [x0,x1,x2,x3,x4,x5,x6,x7] W) :
  K0.Blk B [y0,y1,y2,y3,y4,y5,y6,y7] ((((((((W.setCell ⟨B,0,none⟩ y0).setCell ⟨B,1,none⟩ y1).setCell ⟨B,2,none⟩ y2).setCell ⟨B,3,none⟩ y3).setCell ⟨B,4,none⟩ y4).setCell ⟨B,5,none⟩ y5).setCell ⟨B,6,none⟩ y6).setCell ⟨B,7,none⟩ y7):=
 (((((((h.set 0 y0).set 1 y1).set 2 y2).set 3 y3).set 4 y4).set 5 y5).set 6 y6).set 7 y7
theorem other8 {B B':Nat} {vs:List Value} (h:K0.Blk B' vs W) (hne:B≠B') (y0 y1 y2 y3 y4 y5 y6 y7:Value) :
  K0.Blk B' vs ((((((((W.setCell ⟨B,0,none⟩ y0).setCell ⟨B,1,none⟩ y1).setCell ⟨B,2,none⟩ y2).setCell ⟨B,3,none⟩ y3).setCell ⟨B,4,none⟩ y4).setCell ⟨B,5,none⟩ y5).setCell ⟨B,6,none⟩ y6).setCell ⟨B,7,none⟩ y7):=
 (((((((h.setOther hne 0 y0).setOther hne 1 y1).setOther hne 2 y2).setOther hne 3 y3).setOther hne 4 y4).setOther hne 5 y5).setOther hne 6 y6).setOther hne 7 y7
theorem bel8 {B b:Nat} (h:Below b w W) (hb:b<=B) (y0 y1 y2 y3 y4 y5 y6 y7:Value) :
  Below b w ((((((((W.setCell ⟨B,0,none⟩ y0).setCell ⟨B,1,none⟩ y1).setCell ⟨B,2,none⟩ y2).setCell ⟨B,3,none⟩ y3).setCell ⟨B,4,none⟩ y4).setCell ⟨B,5,none⟩ y5).setCell ⟨B,6,none⟩ y6).setCell ⟨B,7,none⟩ y7):=
 (((((((h.setCell (p:=⟨B,0,none⟩) hb y0).setCell (p:=⟨B,1,none⟩) hb y1).setCell (p:=⟨B,2,none⟩) hb y2).setCell (p:=⟨B,3,none⟩) hb y3).setCell (p:=⟨B,4,none⟩) hb y4).setCell (p:=⟨B,5,none⟩) hb y5).setCell (p:=⟨B,6,none⟩) hb y6).setCell (p:=⟨B,7,none⟩) hb y7
theorem toLoan (d:Ln) (s:Sl) (w:World) (hp:d.pg.length<=1048576) (ho:d.po.length<=1048576) (hf:d.fr.length<=1048576) (hR:Lists w d s) :
  Calls prog 49 #[val d s] w fun e w'=>∃ g1 g2 g3,e=.returned (val d (at3 d g1 g2 g3))/\Cp w.heap.size d g1 g2 g3 w'/\Bq w w':=by
 have t0:=t_new w d s
 have HL:Hid (∀ W,Bq w W->Lists W d s):=fun W hb=>hR.below hb
 have r0:=(HL.out _ t0.bel).r1;clear hR;go_enter func49,ntmps49
 go_wp2_with (first
  | (go_at_call 77;have q2':=q2;refine (I2.toIntS s.a3 s.c3 d.fr _ hf q2).mono ?_;rintro e w3 ⟨g3,rfl,hg3,k3,b3⟩;have t3:=u2.below b3;have m1:=l2.below b3;have m2:=(k2.setOther (B':=w.heap.size+2) (by omega) 6 (Sv g2 d.po.length d.po.length)).below b3;have z7:=t3.tmp.cell 7 (by simp);have y7:=t3.tmp.free 7 (by simp);have z0:=t3.tmp.cell 0 (by simp);have z1:=t3.tmp.cell 1 (by simp);have z2:=t3.tmp.cell 2 (by simp);have z3:=t3.tmp.cell 3 (by simp);have z4:=t3.tmp.cell 4 (by simp);have z5:=t3.tmp.cell 5 (by simp);have z6:=t3.tmp.cell 6 (by simp);simp only[List.set_cons_zero,List.set_cons_succ,List.getElem_cons_zero,List.getElem_cons_succ] at z0 z1 z2 z3 z4 z5 z6 z7;have i0:=t3.res.cell 0 (by simp);have i1:=t3.res.cell 1 (by simp);have i2:=t3.res.cell 2 (by simp);have i3:=t3.res.cell 3 (by simp);have i4:=t3.res.cell 4 (by simp);have i5:=t3.res.cell 5 (by simp);have i6:=t3.res.cell 6 (by simp);have i7:=t3.res.cell 7 (by simp);simp only[List.getElem_cons_zero,List.getElem_cons_succ] at i0 i1 i2 i3 i4 i5 i6 i7;have j0:=t3.res.free 0 (by simp);have j1:=t3.res.free 1 (by simp);have j2:=t3.res.free 2 (by simp);have j3:=t3.res.free 3 (by simp);have j4:=t3.res.free 4 (by simp);have j5:=t3.res.free 5 (by simp);have j6:=t3.res.free 6 (by simp);have j7:=t3.res.free 7 (by simp))
  | (go_at_call 77;have q1':=q1;refine (I2.toIntS s.a2 s.c2 d.po _ ho q1).mono ?_;rintro e w2 ⟨g2,rfl,hg2,k2,b2⟩;have t2:=u1.below b2;have l2:=((k1.setOther (B':=w.heap.size+2) (by omega) 4 (Sv g1 d.pg.length d.pg.length)).setOther (B':=w.heap.size+2) (by omega) 5 (.string d.sav)).below b2;have hg2':w.heap.size+3<=g2:=(by have hq:=u1.tmp.lt;omega);have l2:=l2.setOther (B':=w.heap.size+2) (by omega) 6 (Sv g2 d.po.length d.po.length);have c7:=t2.arg.c7;have x6:=t2.tmp.cell 6 (by simp);have y6:=t2.tmp.free 6 (by simp);simp only[List.set_cons_zero,List.set_cons_succ,List.getElem_cons_zero,List.getElem_cons_succ] at x6;have u2:=t2.set 6 (Sv g2 d.po.length d.po.length);have q2:=(HL.out _ u2.bel).r3)
  | (go_at_call 77;refine (I2.toIntS s.a1 s.c1 d.pg _ hp r0).mono ?_;rintro e w1 ⟨g1,rfl,hg1,k1,b1⟩;have t1:=t0.below b1;have hg1':w.heap.size+3<=g1:=(by have hq:=t0.tmp.lt;omega);have c5:=t1.arg.c5;have c6:=t1.arg.c6;have x4:=t1.tmp.cell 4 (by simp);have y4:=t1.tmp.free 4 (by simp);have x5:=t1.tmp.cell 5 (by simp);have y5:=t1.tmp.free 5 (by simp);simp only[List.getElem_cons_zero,List.getElem_cons_succ] at x4 x5;have u1:=(t1.set 4 (Sv g1 d.pg.length d.pg.length)).set 5 (.string d.sav);have q1:=(HL.out _ u1.bel).r2))
 have hg3':w.heap.size+3<=g3:=by
  have:=u2.tmp.lt;simp at hg3 this;omega
 have u3:=t3.set 7 (Sv g3 d.fr.length d.fr.length);have q:=put8 (y0:=Iv d.ino) (y1:=Iv d.cl) (y2:=Iv d.un) (y3:=.string d.rc) (y4:=Sv g1 d.pg.length d.pg.length) (y5:=.string d.sav) (y6:=Sv g2 d.po.length d.po.length) (y7:=Sv g3 d.fr.length d.fr.length) u3.res;have v0:=q.cell 0 (by simp);have v1:=q.cell 1 (by simp);have v2:=q.cell 2 (by simp);have v3:=q.cell 3 (by simp);have v4:=q.cell 4 (by simp);have v5:=q.cell 5 (by simp);have v6:=q.cell 6 (by simp);have v7:=q.cell 7 (by simp);simp only[List.getElem_cons_zero,List.getElem_cons_succ] at v0 v1 v2 v3 v4 v5 v6 v7;refine bodyPost_ret (v:=val d (at3 d g1 g2 g3)) (by simp[results,results49,go_sem,v0,v1,v2,v3,v4,v5,v6,v7,at3]) rfl ⟨g1,g2,g3,rfl,⟨by omega,by omega,by omega,?_,?_,?_⟩,?_⟩
 ·exact other8 (m1.setOther (B':=w.heap.size+2) (by omega) 7 _) (by omega) _ _ _ _ _ _ _ _
 ·exact other8 (m2.setOther (B':=w.heap.size+2) (by omega) 7 _) (by omega) _ _ _ _ _ _ _ _
 ·exact other8 (k3.setOther (B':=w.heap.size+2) (by omega) 7 _) (by omega) _ _ _ _ _ _ _ _
 ·exact bel8 u3.bel (by omega) _ _ _ _ _ _ _ _
end N4
namespace V1
def flat:List T0.Ent->List Value
 | []=>[]
 | e :: r=>.int .i64 e.1 :: .string e.2 :: flat r
theorem flat_append:∀ (es:List T0.Ent) (e:T0.Ent),flat es ++ [Iv e.1,.string e.2]=flat (es ++ [e])
 | [],e=>rfl
 | x :: r,e=>by simp[flat,<- flat_append r e]
theorem flat_get:∀ (es:List T0.Ent) (j:Nat),j<es.length->(flat es)[j*2]? = some (Iv (T0.ent es j).1)/\(flat es)[j*2+1]? = some (.string (T0.ent es j).2)
 | [],j,h=>by simp at h
 | e :: r,0,_=>⟨rfl,rfl⟩
 | e :: r,j+1,h=>by
  have:=flat_get r j (by simpa using h)
  have e1:(j+1)*2=j*2+1+1:=by omega
  have e2:T0.ent (e :: r) (j+1)=T0.ent r j:=rfl;rw[e1,e2];exact this
def EBuf (base:Nat) (w:World) (a:Option Addr) (n cap:Nat) (es:List T0.Ent):Prop:=n=es.length/\w.ownsRow base 133 2 (.slice a n cap) n (flat es)
variable {base n cap : Nat} {a : Option Addr} {w W : World} {es : List T0.Ent}
theorem EBuf.below (h:EBuf base w a n cap es) (hb:Bq w W):EBuf base W a n cap es:=⟨h.1,F0.owns_below h.2 hb⟩
theorem EBuf.alloc (h:EBuf base w a n cap es) (o:Obj):EBuf base (w.alloc o) a n cap es:=h.below ((Below.refl _ _).alloc (Nat.le_refl _) o)
theorem ebuf_made (w:World) (hb:base<=w.heap.size):EBuf base (w.alloc (.cells #[] 133)) (some ⟨w.heap.size,0,none⟩) 0 0 []:=⟨rfl,World.ownsRow_made w #[] 0 hb (Nat.zero_le _) rfl⟩
theorem EBuf.fits (h:EBuf base w a n cap es):n<=cap:=by
 rcases h.2.2 with ⟨h0,h1⟩ | ⟨g,c,cur,hv,_,_,hle,_⟩
 ·omega
 ·simp at hv
  omega
def OwnE (base:Nat) (W:World) (a:Option Addr) (es:List T0.Ent):Prop:=es=[]\/∃ g,a=some ⟨g,0,none⟩/\base<=g/\T5.Mk g es.length es es.length W
theorem EBuf.own (h:EBuf base w a n cap es):OwnE base w a es:=by
 rcases h.2.2 with ⟨h0,h1⟩ | ⟨g,c,cur,hv,hg,hc,hle,_,hs,ht⟩
 ·left
  exact List.eq_nil_of_length_eq_zero (by rw[<- h.1];exact h1)
 ·right
  simp at hv
  have hcell:∀ j,w.cell? ⟨g,j,none⟩=cur[j]?:=fun j=>by
   unfold World.cell?;rw[hc];simp
  have hn:=h.1
  have hget:∀ j,j<n*2->cur[j]? = (flat es)[j]?:=fun j hj=>by
   have e1:(cur.toList.take (n*2))[j]? = (flat es)[j]?:=by rw[ht]
   rw[List.getElem?_take_of_lt hj] at e1;rw[<- Array.getElem?_toList,e1]
  refine ⟨g,hv.1,hg,⟨fun j hj=>?_,fun j hj=>?_,fun j hj=>?_,(Array.getElem?_eq_some_iff.1 hc).1⟩⟩
  ·have:=flat_get es j hj
   rw[hcell,hcell,hget _ (by omega),hget _ (by omega)];exact this
  ·rw[hcell]
   have:j<cur.size:=by omega
   simp[this]
  ·unfold World.frozen?
   rw[hc];simp
theorem OwnE.row (h:OwnE base W a es):T0.Row W a es:=by
 rcases h with h | ⟨g,rfl,_,hm⟩
 ·exact Or.inl h
 ·exact Or.inr ⟨g,0,rfl,hm.lt,fun j hj=>by rw[Nat.zero_add];exact hm.done j hj⟩
theorem OwnE.below {W':World} (h:OwnE base W a es) (hb:Bq W W'):OwnE base W' a es:=h.imp id fun ⟨g,e,hg,hk⟩=>⟨g,e,hg,hk.below hb⟩
theorem OwnE.mono {base':Nat} (h:OwnE base W a es) (hb:base'<=base):OwnE base' W a es:=h.imp id fun ⟨g,e,hg,hk⟩=>⟨g,e,Nat.le_trans hb hg,hk⟩
theorem one_ent (u:Int) (v:ByteArray):∀ x ∈ [Value.int .i64 u,.string v],x.oneCell'=true:=by
 intro x h;simp at h
 rcases h with rfl | rfl <;> rfl
theorem append_ent {ops:Array Oper} {rest:List Oper} {o:Oper} {A:Act} {Q:Exit->Act->World->Prop} (hgd:o.guard=none) (sl x:Operand)
  (ho:o.op=.call { callee:=.builtin .append,args:=#[sl,x],argTypes:=#[129,129] })
  (hbuf:EBuf base w a n cap es) (u:Int) (v:ByteArray) (hs:A.eval sl=.slice a n cap) {H:Nat} (hH:w.heap.size=H) (hx:A.eval x=Sv H 1 1) (hlen:n+1<=1048576) (hb:base<=w.heap.size)
  (h:∀ g' cap' w',EBuf base w' (some ⟨g',0,none⟩) (n+1) cap' (es ++ [(u,v)])->Below base w w'->wpList prog ops Q rest (A.put o.dst (Sv g' (n+1) cap')) w'):wpList prog ops Q (o :: rest) A (w.alloc (.cells #[Iv u,.string v] 133)):=by
 subst hH;obtain ⟨i0,hi,hz0,hz1,hz2⟩:=info_parts T5.info33;have hb2:=hbuf.alloc (.cells #[Iv u,.string v] 133);refine wpList_append_lies _ hgd sl x 129 ho base 133 i0 (.agg #[Iv 0,.string ⟨#[]⟩]) 2 24 underlying129 hi hz0 hz1 hz2 rfl (by omega) _ n _ hs hb2.2 ⟨w.heap.size,0,none⟩ 1 1 [Iv u,.string v] hx rfl (World.news_of_block (heap_alloc_new w _)) (one_ent u v) (by omega) (by unfold maxLen;omega) (by omega) (by simp;omega) _ rfl ?_;intro g' cap' w' ho' hg' _ _;refine h g' cap' w' ⟨by rw[hbuf.1];simp,?_⟩ ?_
 ·rw[<- flat_append]
  exact ho'
 ·exact F0.below_grown ((Below.refl _ _).alloc hb _) hg' (fun g hg=>(hbuf.2.lt g hg).1) (by simp;omega)
def Ans (s:ByteArray) (w:World) (e:Ending) (w':World):Prop:=
 ∃ a c,e=.returned (.tuple #[.slice a (V0.dE s).length c,.bool (V0.isD s)])/\OwnE w.heap.size w' a (V0.dE s)/\(V0.dE s).length<=c/\Bq w w'
theorem ans_no {s:ByteArray} {w w':World} {a:Option Addr} {c:Nat} (h:V0.isD s=false) (hb:Bq w w'):Ans s w (.returned (.tuple #[.slice a 0 c,.bool false])) w':=by
 have hd:V0.dE s=[]:=by rw[V0.dE,h];rfl
 exact ⟨a,c,by rw[hd,h];rfl,by rw[hd];exact Or.inl rfl,by rw[hd];exact Nat.zero_le _,hb⟩
theorem ans_yes {s:ByteArray} {w w':World} {a:Option Addr} {c:Nat} (h:V0.isD s=true) (ho:OwnE w.heap.size w' a (V0.ents s (V0.cnt s))) (hc:V0.cnt s<=c) (hb:Bq w w'):Ans s w (.returned (.tuple #[.slice a (V0.cnt s) c,.bool true])) w':=by
 have hd:V0.dE s=V0.ents s (V0.cnt s):=by rw[V0.dE,h];rfl
 exact ⟨a,c,by rw[hd,h,V0.ents_length],by rw[hd];exact ho,by rw[hd,V0.ents_length];exact hc,hb⟩
theorem name_size (x:ByteArray):(E4.eName x).size<=x.size:=by
 unfold E4.eName
 split
 ·exact B2.part_size _ _ _
 ·exact Nat.zero_le _
theorem fits_ents (s:ByteArray) (k:Nat) (hs:s.size<=281474976710656):T0.Fits (V0.ents s k):=fun j hj=>by
 rw[V0.ents_length] at hj;rw[V0.ents_get s k j hj];have h1:=name_size (V0.chunk s j);have h2:=B2.part_size s ((j:Int)*16) 16;have h3:(V0.chunk s j).size<=s.size:=h2;simp only;omega
end V1
namespace V2
open V1 (Ans ans_no ans_yes EBuf OwnE)
theorem get_lit {s:ByteArray} {W:World} {r:Bool} (hs:s.size<=281474976710656) (hr:E4.isE s=r) :
  Calls prog 219 #[.string s] W (Rb (.tuple #[.agg #[Iv (E4.eIno s),.string (E4.eName s)],.bool r]) W):=
 (E4.impl_GetEntry s W hs).mono fun _ _ ⟨he,hb⟩=>⟨by rw[he,E4.getE,hr],hb⟩
theorem impl_GetDir (s:ByteArray) (w:World) (hs:s.size<=281474976710656):Calls prog 198 #[.string s] w (Ans s w):=by
 have HN:Hid (∀ a c w',V0.isD s=false->Bq w w'->Ans s w (.returned (.tuple #[.slice a 0 c,.bool false])) w'):=fun a c w' h hb=>ans_no h hb
 have HF:Hid (∀ k,V0.isD s=true->k<s.size / 16->E4.isE (V0.chunk s k)=true):=fun k h hk=>(V0.of_isD h).2.2.2.1 k hk
 have HD:Hid (V0.isD s=true->T0.dirOk (V0.ents s (s.size / 16))=true):=fun h=>(V0.of_isD h).2.2.2.2
 have HY:Hid (∀ a c w',s.size<=192->s.size % 16=0->(∀ j,j<s.size / 16->E4.isE (V0.chunk s j)=true)->T0.dirOk (V0.ents s (s.size / 16))=true->OwnE w.heap.size w' a (V0.ents s (s.size / 16))->s.size / 16<=c->Bq w w'->Ans s w (.returned (.tuple #[.slice a (s.size / 16) c,.bool true])) w'):=fun a c w' h1 h2 h3 h4 ho hc hb=>by
  obtain ⟨hi,hk⟩:=V0.isD_of h1 h2 h3 h4;rw[<- hk] at ho hc ⊢;exact ans_yes hi ho hc hb
 obtain ⟨R,hR⟩:∃ R,Ans s w=R:=⟨_,rfl⟩
 by_cases h1:192<(s.size:Int)
 ·have hi:V0.isD s=false:=by
   cases h:V0.isD s with
   | false=>rfl
   | true=>have:=(V0.of_isD h).1;omega
  rw[hR] at HN ⊢;go_enter func198,ntmps198;go_wp2;exact HN.out _ _ _ hi (K0.below_new _ _)
 ·by_cases h2:s.size % 16=0
  ·have h2':((s.size:Int) % 16 != 0)=false:=by simp;omega
   have b0:=V1.ebuf_made w (Nat.le_refl _);have l0:=K0.below_new w (.cells #[] 133);rw[hR] at HN HY ⊢;clear hR;go_enter func198,ntmps198;go_wp2
   go_loopw [4,5] (fun v i w'=>∃ (k c:Nat) (a:Option Addr),k<=s.size / 16/\(∀ j,j<k->E4.isE (V0.chunk s j)=true)/\i=Iv ((k:Int)*16)/\v=.slice a k c/\EBuf w.heap.size w' a k c (V0.ents s k)/\Bq w w') (fun _ i _=>s.size-(intOf i).toNat)
   case atStart=>exact ⟨0,0,_,Nat.zero_le _,fun j hj=>absurd hj (Nat.not_lt_zero _),rfl,rfl,b0,l0⟩
   case round=>
    obtain ⟨k,c,a,hk,hE,rfl,rfl,hbuf,hbel⟩:=hrel;clear b0 l0
    by_cases hlt:k<s.size / 16
    ·have e1:(k:Int)*16<(s.size:Int):=by omega
     have hcs:(V0.chunk s k).size<=281474976710656:=by have:=B2.part_size s ((k:Int)*16) 16;unfold V0.chunk;omega
     have hpt:Hid (∀ W,Calls prog 124 #[.string s,Iv ((k:Int)*16),Iv 16] W (Rb (.string (V0.chunk s k)) W)):=fun W=>B2.impl_Part _ _ _ _ hs
     have HS:Hid (V0.ents s k ++ [(E4.eIno (V0.chunk s k),E4.eName (V0.chunk s k))]=V0.ents s (k+1)):=V0.ents_succ s k
     by_cases hi:E4.isE (V0.chunk s k)=true
     ·have HE:Hid (∀ j,j<k+1->E4.isE (V0.chunk s j)=true):=fun j hj=>by
       by_cases e:j=k
       ·rw[e];exact hi
       ·exact hE j (by omega)
      clear hE
      go_wp2_with (first
       | (go_at_call 124;refine (hpt.out _).mono ?_;rintro e w1 ⟨rfl,b1⟩;have f1:=hbel.trans (b1.mono hbel.size))
       | (go_at_call 219;refine (get_lit hcs hi).mono ?_;rintro e w2 ⟨rfl,b2⟩;have f2:=f1.trans (b2.mono f1.size);have u2:=((hbuf.below b1).below b2).alloc (.cells #[Iv (E4.eIno (V0.chunk s k)),.string (E4.eName (V0.chunk s k))] 133);have f3:=f2.alloc f2.size (.cells #[Iv (E4.eIno (V0.chunk s k)),.string (E4.eName (V0.chunk s k))] 133))
       | (at_builtin;refine V1.append_ent rfl (.tmp 35) (.tmp 37) rfl u2 _ _ (by rfl) (H:=w2.heap.size+1) (by simp) (by rfl) (by omega) f3.size ?_;intro g1 cap1 w4 hbuf4 bel4))
      go_roundw
      case rel=>exact ⟨k+1,cap1,_,by omega,HE.out,by go_num,rfl,by rw[<- HS.out];exact hbuf4,f3.trans bel4⟩
      case measure=>simp[intOf];omega
     ·have hi':E4.isE (V0.chunk s k)=false:=by simpa using hi
      have hn:V0.isD s=false:=by
       cases h:V0.isD s with
       | false=>rfl
       | true=>exact absurd (HF.out k h hlt) hi
      clear hE
      go_wp2_with (first
       | (go_at_call 124;refine (hpt.out _).mono ?_;rintro e w1 ⟨rfl,b1⟩;have f1:=hbel.trans (b1.mono hbel.size))
       | (go_at_call 219;refine (get_lit hcs hi').mono ?_;rintro e w2 ⟨rfl,b2⟩;have f2:=f1.trans (b2.mono f1.size);have f3:=f2.alloc f2.size (.cells #[Iv (E4.eIno (V0.chunk s k)),.string (E4.eName (V0.chunk s k))] 133);have f4:=f3.alloc f3.size (.cells #[] 133)))
      exact HN.out _ _ _ hn f4
    ·obtain rfl:k=s.size / 16:=by omega
     have e1:¬ ((s.size / 16:Nat):Int)*16<(s.size:Int):=by omega
     have hfit:=hbuf.fits
     have hdl:Hid (∀ r,T0.dirOk (V0.ents s (s.size / 16))=r->Calls prog 220 #[.slice a (s.size / 16) c] wr (Rb (.bool r) wr)):=fun r hr=>by
      have:=T2.dir_lit (a:=a) (c:=c) (W:=wr) (es:=V0.ents s (s.size / 16)) (by rw[V0.ents_length];omega) (by rw[V0.ents_length];exact hfit) (V1.fits_ents s _ hs) hbuf.own.row hr;rw[V0.ents_length] at this;exact this
     by_cases hd:T0.dirOk (V0.ents s (s.size / 16))=true
     ·go_wp2_with (go_at_call 220;refine (hdl.out true hd).mono ?_;rintro e w1 ⟨rfl,b1⟩)
      exact HY.out _ _ _ (by omega) h2 hE hd (hbuf.own.below b1) hfit (hbel.trans (b1.mono hbel.size))
     ·have hd':T0.dirOk (V0.ents s (s.size / 16))=false:=by simpa using hd
      have hn:V0.isD s=false:=by
       cases h:V0.isD s with
       | false=>rfl
       | true=>exact absurd (HD.out h) hd
      go_wp2_with (go_at_call 220;refine (hdl.out false hd').mono ?_;rintro e w1 ⟨rfl,b1⟩;have f1:=hbel.trans (b1.mono hbel.size);have f2:=f1.alloc f1.size (.cells #[] 133))
      exact HN.out _ _ _ hn f2
  ·have h2':((s.size:Int) % 16 != 0)=true:=by simp;omega
   have hi:V0.isD s=false:=by
    cases h:V0.isD s with
    | false=>rfl
    | true=>exact absurd (V0.of_isD h).2.1 h2
   rw[hR] at HN ⊢;go_enter func198,ntmps198;go_wp2;exact HN.out _ _ _ hi (K0.below_new _ _)
end V2
namespace V3
open V1 (Ans ans_no ans_yes EBuf OwnE)
theorem wf_of (n:Int) (h0 : -9223372036854775808<=n) (h1:n<=9223372036854775807):(Lit.int .i64 n).wf=true:=by
 simp[Lit.wf,IntKind.min,IntKind.max,IntKind.signed,IntKind.bits];omega
theorem get_any {s:ByteArray} {W:World} (hs:s.size<=281474976710656) :
  Calls prog 135 #[.string s] W (Rb (.tuple #[.agg #[Iv (E4.eIno s),.string (E4.eName s)],.bool (E4.isE s)]) W):=E4.spec_GetEntry s W hs
theorem cnt_lt (s:ByteArray) (k:Nat):k<V0.cnt s ↔ k*16<s.size/\k<13:=by
 unfold V0.cnt;omega
theorem spec_GetDir (s:ByteArray) (w:World) (hs:s.size<=281474976710656):Calls prog 93 #[.string s] w (Ans s w):=by
 have hm:s.size<=maxLen:=by unfold maxLen;omega
 have HN:Hid (∀ a c w',V0.isD s=false->Bq w w'->Ans s w (.returned (.tuple #[.slice a 0 c,.bool false])) w'):=fun a c w' h hb=>ans_no h hb
 have HY:Hid (∀ a c w',V0.isD s=true->OwnE w.heap.size w' a (V0.ents s (V0.cnt s))->V0.cnt s<=c->Bq w w'->Ans s w (.returned (.tuple #[.slice a (V0.cnt s) c,.bool true])) w'):=fun a c w' h1 ho hc hb=>ans_yes h1 ho hc hb
 obtain ⟨R,hR⟩:∃ R,Ans s w=R:=⟨_,rfl⟩;rw[hR] at HN HY ⊢;clear hR;have hct:=cnt_lt s;have b0:=V1.ebuf_made w (Nat.le_refl _);have l0:=K0.below_new w (.cells #[] 133);go_enter func93,ntmps93;go_wp2
 go_loopw [4,5] (fun v i w'=>∃ (k c:Nat) (a:Option Addr),k<=V0.cnt s/\i=Iv ((k:Int)*16)/\v=.slice a k c/\EBuf w.heap.size w' a k c (V0.ents s k)/\Bq w w') (fun _ i _=>208-(intOf i).toNat)
 case atStart=>exact ⟨0,0,_,Nat.zero_le _,rfl,rfl,b0,l0⟩
 case round=>
  obtain ⟨k,c,a,hk,rfl,rfl,hbuf,hbel⟩:=hrel;clear b0 l0
  by_cases hlt:k<V0.cnt s
  ·obtain ⟨h1,h2⟩:=(hct k).1 hlt
   have e1:(k:Int)*16<(s.size:Int):=by omega
   have e2:(k:Int)*16<208:=by omega
   have hcs:(V0.chunk s k).size<=281474976710656:=by have:=B2.part_size s ((k:Int)*16) 16;unfold V0.chunk;omega
   have hpt:Hid (∀ W,Calls prog 58 #[.string s,Iv ((k:Int)*16),Iv 16] W fun e w'=>e=.returned (.string (V0.chunk s k))/\W=w'):=fun W=>(B2.spec_Part _ _ _ _ hm (wf_of _ (by omega) (by omega)) (by decide)).mono fun _ _ h=>⟨h.1,h.2.symm⟩
   have HS:Hid (V0.ents s k ++ [(E4.eIno (V0.chunk s k),E4.eName (V0.chunk s k))]=V0.ents s (k+1)):=V0.ents_succ s k;clear hct
   go_wp2_with (first
    | (go_at_call 58;refine (hpt.out _).mono ?_;rintro e w1 ⟨rfl,rfl⟩)
    | (go_at_call 135;refine (get_any hcs).mono ?_;rintro e w2 ⟨rfl,b2⟩;have f2:=hbel.trans (b2.mono hbel.size);have u2:=(hbuf.below b2).alloc (.cells #[Iv (E4.eIno (V0.chunk s k)),.string (E4.eName (V0.chunk s k))] 133);have f3:=f2.alloc f2.size (.cells #[Iv (E4.eIno (V0.chunk s k)),.string (E4.eName (V0.chunk s k))] 133))
    | (at_builtin;refine V1.append_ent rfl (.tmp 26) (.tmp 28) rfl u2 _ _ (by rfl) (H:=w2.heap.size+1) (by simp) (by rfl) (by omega) f3.size ?_;intro g1 cap1 w4 hbuf4 bel4))
   go_roundw
   case rel=>exact ⟨k+1,cap1,_,by omega,by go_num,rfl,by rw[<- HS.out];exact hbuf4,f3.trans bel4⟩
   case measure=>simp[intOf];omega
  ·obtain rfl:k=V0.cnt s:=by omega
   have hfit:=hbuf.fits
   have hpd:Hid (Calls prog 136 #[.slice a (V0.cnt s) c] wr (Rb (.string (T0.putD (V0.ents s (V0.cnt s)))) wr)):=by
    have hc13:V0.cnt s<=13:=Nat.min_le_right _ _;have:=T3.spec_PutDir a c (V0.ents s (V0.cnt s)) wr (by rw[V0.ents_length];omega) (by rw[V0.ents_length];exact hfit) (V1.fits_ents s _ hs) hbuf.own.row;rw[V0.ents_length] at this;exact this
   have hex:decide ((V0.cnt s:Int)*16<(s.size:Int))=false\/((V0.cnt s:Int)*16<(s.size:Int)/\decide ((V0.cnt s:Int)*16<208)=false):=by
    by_cases h:(V0.cnt s:Int)*16<(s.size:Int)
    ·right
     refine ⟨h,?_⟩;simp
     by_cases h13:V0.cnt s<13
     ·exact absurd ((hct _).2 ⟨by omega,h13⟩) hlt
     ·omega
    ·left
     simpa using h
   clear hct hlt hk
   by_cases h0:s.size=0
   ·have hI:V0.isD s=true:=by rw[V0.isD,decide_eq_true h0];rfl
    have hemp:s.toList.isEmpty=true:=by
     rw[Lib.toList_data];have:s.data.toList=[]:=List.eq_nil_of_length_eq_zero (by rw[<- Lib.size_eq];exact h0);rw[this];rfl
    rcases hex with e3 | ⟨e4,e3⟩
    ·go_wp2
     exact HY.out _ _ _ hI hbuf.own hfit hbel
    ·exfalso
     omega
   ·have hemp:s.toList.isEmpty=false:=by
     rw[Lib.toList_data]
     cases hl:s.data.toList with
     | nil=>rw[Lib.size_eq,hl] at h0;exact absurd rfl h0
     | cons x r=>rfl
    by_cases hP:((T0.putD (V0.ents s (V0.cnt s))).toList == s.toList)=true
    ·have hI:V0.isD s=true:=by rw[V0.isD,hP,Bool.or_true]
     rcases hex with e3 | ⟨e4,e3⟩
     all_goals
      go_wp2_with (go_at_call 136;refine hpd.out.mono ?_;rintro e w2 ⟨rfl,b2⟩)
      exact HY.out _ _ _ hI (hbuf.own.below b2) hfit (hbel.trans (b2.mono hbel.size))
    ·have hP':((T0.putD (V0.ents s (V0.cnt s))).toList == s.toList)=false:=by simpa using hP
     have hI:V0.isD s=false:=by rw[V0.isD,hP',decide_eq_false h0];rfl
     rcases hex with e3 | ⟨e4,e3⟩
     all_goals
      go_wp2_with (go_at_call 136;refine hpd.out.mono ?_;rintro e w2 ⟨rfl,b2⟩;have f2:=hbel.trans (b2.mono hbel.size);have f3:=f2.alloc f2.size (.cells #[] 133))
      exact HN.out _ _ _ hI f3
end V3
namespace N5
open N0 (Ln)
open N1 (Sl Lists Fit LB lb_new)
open I2 (ints)
abbrev pv (k o s:Int) (a:Option Addr) (n c:Nat) (ae:Option Addr) (ne ce:Nat):Value:=.agg #[.int .i64 k,.int .i64 o,.int .i64 s,.slice a n c,.slice ae ne ce]
abbrev pvs (k o s:Int) (a:Option Addr) (n c:Nat) (ae:Option Addr) (ne ce:Nat):List Value:=[.int .i64 k,.int .i64 o,.int .i64 s,.slice a n c,.slice ae ne ce]
def oldE (d:Ln):List T0.Ent:=if G0.gK d.rc=2 then V0.dE (B2.part d.sav 0 (G0.gS d.rc)) else []
def Ans (d:Ln) (w:World) (e:Ending) (w':World):Prop:=
 ∃ (k o s:Int) (a:Option Addr) (n c:Nat) (ae:Option Addr) (ne ce:Nat),e=.returned (.tuple #[pv k o s a n c ae ne ce,.bool (N0.past d)])/\Bq w w'/\
  (N0.past d=true->k=G0.gK d.rc/\o=G0.gO d.rc/\s=G0.gS d.rc/\n=(G0.gZ d.rc).length/\n<=c/\J0.Own w.heap.size w' a (G0.gZ d.rc)/\ne=(oldE d).length/\ne<=ce/\V1.OwnE w.heap.size w' ae (oldE d))
theorem ans_no {d:Ln} {w w':World} {k o s:Int} {a:Option Addr} {n c:Nat} {ae:Option Addr} {ne ce:Nat} (h:N0.past d=false) (hb:Bq w w'):Ans d w (.returned (.tuple #[pv k o s a n c ae ne ce,.bool false])) w':=
 ⟨k,o,s,a,n,c,ae,ne,ce,by rw[h],hb,fun h'=>by rw[h] at h';cases h'⟩
theorem ans_yes {d:Ln} {w w':World} {a:Option Addr} {c:Nat} {ae:Option Addr} {ce:Nat} (h:N0.past d=true) (hb:Bq w w') (hc:(G0.gZ d.rc).length<=c) (ho:J0.Own w.heap.size w' a (G0.gZ d.rc)) (hce:(oldE d).length<=ce) (hoe:V1.OwnE w.heap.size w' ae (oldE d)) :
  Ans d w (.returned (.tuple #[pv (G0.gK d.rc) (G0.gO d.rc) (G0.gS d.rc) a (G0.gZ d.rc).length c ae (oldE d).length ce,.bool true])) w':=
 ⟨_,_,_,a,_,c,ae,_,ce,by rw[h],hb,fun _=>⟨rfl,rfl,rfl,rfl,hc,ho,rfl,hce,hoe⟩⟩
variable {w W W' : World} {d : Ln} {s : Sl} {k o t : Int} {a : Option Addr} {n c B : Nat}
theorem ownE_set {base:Nat} {es:List T0.Ent} (h:V1.OwnE base W a es) (hB:B<base) (j:Nat) (v:Value):V1.OwnE base (W.setCell ⟨B,j,none⟩ v) a es:=by
 rcases h with h | ⟨g,e,hg,hk⟩
 ·exact Or.inl h
 ·refine Or.inr ⟨g,e,hg,?_⟩
  have hne:∀ x,(⟨B,j,none⟩:Addr) ≠ ⟨g,x,none⟩:=fun x q=>by have:=(Addr.mk.inj q).1;omega
  refine ⟨fun i hi=>?_,fun i hi=>?_,fun i hi=>?_,?_⟩
  ·rw[World.cell?_setCell_other _ _ _ _ (hne _),World.cell?_setCell_other _ _ _ _ (hne _)]
   exact hk.done i hi
  ·rw[World.cell?_setCell_other _ _ _ _ (hne _)]
   exact hk.there i hi
  ·rw[World.frozen?_setCell]
   exact hk.free i hi
  ·have:=hk.lt
   simpa [World.setCell] using this
abbrev W5 (W:World) (B:Nat) (y0 y1 y2 y3 y4:Value):World:=((((W.setCell ⟨B,0,none⟩ y0).setCell ⟨B,1,none⟩ y1).setCell ⟨B,2,none⟩ y2).setCell ⟨B,3,none⟩ y3).setCell ⟨B,4,none⟩ y4
theorem put5 {x0 x1 x2 x3 x4 y0 y1 y2 y3 y4:Value} (h:K0.Blk B [x0,x1,x2,x3,x4] W):K0.Blk B [y0,y1,y2,y3,y4] (W5 W B y0 y1 y2 y3 y4):=((((h.set 0 y0).set 1 y1).set 2 y2).set 3 y3).set 4 y4
theorem bel5 {b:Nat} (h:Below b w W) (hb:b<=B) (y0 y1 y2 y3 y4:Value):Below b w (W5 W B y0 y1 y2 y3 y4):=
 ((((h.setCell (p:=⟨B,0,none⟩) hb y0).setCell (p:=⟨B,1,none⟩) hb y1).setCell (p:=⟨B,2,none⟩) hb y2).setCell (p:=⟨B,3,none⟩) hb y3).setCell (p:=⟨B,4,none⟩) hb y4
theorem own5 {base:Nat} {zs:List Int} (h:J0.Own base W a zs) (hB:B<base) (y0 y1 y2 y3 y4:Value):J0.Own base (W5 W B y0 y1 y2 y3 y4) a zs:=((((h.set hB 0 y0).set hB 1 y1).set hB 2 y2).set hB 3 y3).set hB 4 y4
theorem ownE5 {base:Nat} {es:List T0.Ent} (h:V1.OwnE base W a es) (hB:B<base) (y0 y1 y2 y3 y4:Value):V1.OwnE base (W5 W B y0 y1 y2 y3 y4) a es:=ownE_set (ownE_set (ownE_set (ownE_set (ownE_set h hB 0 y0) hB 1 y1) hB 2 y2) hB 3 y3) hB 4 y4
structure PR (w:World) (d:Ln) (s:Sl) (k o t:Int) (a:Option Addr) (n c B:Nat) (W:World):Prop where
 arg:LB w.heap.size d s W
 res:K0.Blk (w.heap.size+1) (pvs 0 0 0 none 0 0 none 0 0) W
 nb:K0.Blk B (I0.vals k o t a n c) W
 bel:Bq w W
theorem PR.below (h:PR w d s k o t a n c B W) (hb:Bq W W'):PR w d s k o t a n c B W':=⟨h.arg.below hb,h.res.below hb,h.nb.below hb,h.bel.trans (hb.mono h.bel.size)⟩
theorem PR.drewN (h:PR w d s k o t a n c B W) (m:Nat):PR w d s k o t a n c B (W.drewN m):=⟨⟨h.arg.b.drewN m⟩,h.res.drewN m,h.nb.drewN m,K0.below_drewN h.bel m⟩
abbrev w00 (w:World) (d:Ln) (s:Sl):World:=(w.alloc (.cells #[.int .i64 d.ino,.int .i64 d.cl,.int .i64 d.un,.string d.rc,.slice s.a1 d.pg.length s.c1,.string d.sav,.slice s.a2 d.po.length s.c2,.slice s.a3 d.fr.length s.c3] 46)).alloc (.cells #[.int .i64 0,.int .i64 0,.int .i64 0,.slice none 0 0,.slice none 0 0] 187)
theorem bel00 (w:World) (d:Ln) (s:Sl):Bq w (w00 w d s):=((Below.refl _ _).alloc (Nat.le_refl _) _).alloc (by simp) _
theorem pr_new (hb:Bq (w00 w d s) W) :
    PR w d s k o t a n c W.heap.size (W.alloc (.cells (Iq k o t a n c) 96)):=
  ⟨⟨(((K0.blk_new (N1.vals d s) w 46).alloc _).below hb).alloc _⟩,((K0.blk_at (pvs 0 0 0 none 0 0 none 0 0) _ 187 (by simp)).below hb).alloc _,K0.blk_new (I0.vals k o t a n c) W 96,
   (((bel00 w d s).trans (hb.mono (bel00 w d s).size))).alloc (Nat.le_trans (bel00 w d s).size hb.size) _⟩
end N5
namespace N6
open N0 (Ln)
open N1 (Sl Lists Fit LB lb_new)
open N5 (Ans ans_no ans_yes pv pvs oldE PR pr_new W5 put5 bel5 own5 ownE5 w00 bel00)
theorem past_cases (d:Ln) :
  (G0.isI d.rc=false/\N0.past d=false)\/(G0.isI d.rc=true/\(G0.gK d.rc == 0)=true/\N0.past d=false)\/
  (G0.isI d.rc=true/\(G0.gK d.rc == 0)=false/\decide (G0.gZ d.rc=d.pg)=false/\N0.past d=false)\/
  (G0.isI d.rc=true/\(G0.gK d.rc == 0)=false/\decide (G0.gZ d.rc=d.pg)=true/\((d.sav.size:Int) != (d.pg.length:Int)*32)=true/\N0.past d=false)\/
  (G0.isI d.rc=true/\(G0.gK d.rc == 0)=false/\decide (G0.gZ d.rc=d.pg)=true/\((d.sav.size:Int) != (d.pg.length:Int)*32)=false/\(G0.gK d.rc != 2)=true/\N0.past d=true/\oldE d=[])\/
  (G0.isI d.rc=true/\(G0.gK d.rc == 0)=false/\decide (G0.gZ d.rc=d.pg)=true/\((d.sav.size:Int) != (d.pg.length:Int)*32)=false/\(G0.gK d.rc != 2)=false/\N0.past d=V0.isD (B2.part d.sav 0 (G0.gS d.rc))/\oldE d=V0.dE (B2.part d.sav 0 (G0.gS d.rc))):=by
 unfold N0.past
 cases hI:G0.isI d.rc with
 | false=>exact Or.inl ⟨rfl,rfl⟩
 | true=>
  right
  by_cases h0:G0.gK d.rc=0
  ·left
   exact ⟨rfl,by simpa using h0,by rw[decide_eq_true h0];rfl⟩
  ·right
   have h0':(G0.gK d.rc == 0)=false:=by simpa using h0
   by_cases hz:G0.gZ d.rc=d.pg
   ·right
    by_cases hs:d.sav.size=d.pg.length*32
    ·right
     have hs':((d.sav.size:Int) != (d.pg.length:Int)*32)=false:=by simp;omega
     by_cases h2:G0.gK d.rc=2
     ·right
      refine ⟨rfl,h0',decide_eq_true hz,hs',by simpa using h2,?_,by rw[oldE,if_pos h2]⟩;rw[decide_eq_false h0,decide_eq_true hz,decide_eq_true hs,decide_eq_true h2];rfl
     ·left
      refine ⟨rfl,h0',decide_eq_true hz,hs',by simpa using h2,?_,by rw[oldE,if_neg h2]⟩;rw[decide_eq_false h0,decide_eq_true hz,decide_eq_true hs,decide_eq_false h2];rfl
    ·left
     refine ⟨rfl,h0',decide_eq_true hz,by simp;omega,?_⟩;rw[decide_eq_false hs,Bool.false_and,Bool.and_false,Bool.and_false];rfl
   ·left
    refine ⟨rfl,h0',decide_eq_false hz,?_⟩;rw[decide_eq_false hz,Bool.false_and,Bool.and_false];rfl
theorem readPast (d:Ln) (s:Sl) (w:World) (hF:Fit d s) (hR:Lists w d s):Calls prog 191 #[N1.val d s] w (Ans d w):=by
 have hG:Hid (∀ W,_):=fun W=>G3.impl_GetInode d.rc W hF.m4
 have HL:Hid (∀ W,Bq w W->P0.Row W s.a1 d.pg):=fun W hb=>(hR.below hb).r1
 have hpt:Hid (∀ W,Calls prog 124 #[.string d.sav,Iv 0,Iv (G0.gS d.rc)] W (Rb (.string (B2.part d.sav 0 (G0.gS d.rc))) W)):=fun W=>B2.impl_Part _ _ _ _ hF.m5
 have hgd:Hid (∀ W,Calls prog 198 #[.string (B2.part d.sav 0 (G0.gS d.rc))] W (V1.Ans (B2.part d.sav 0 (G0.gS d.rc)) W)):=fun W=>V2.impl_GetDir _ _ (Nat.le_trans (B2.part_size _ _ _) hF.m5)
 have hpl:d.pg.length<=281474976710656:=hF.p1;have hsl:=hF.m5;have hb00:=bel00 w d s
 have HN:Hid (∀ k o t a n c ae ne ce w',N0.past d=false->Bq w w'->Ans d w (.returned (.tuple #[pv k o t a n c ae ne ce,.bool false])) w'):=fun k o t a n c ae ne ce w' h hb=>ans_no h hb
 have HY:Hid (∀ a c ae ce w',N0.past d=true->Bq w w'->(G0.gZ d.rc).length<=c->J0.Own w.heap.size w' a (G0.gZ d.rc)->(oldE d).length<=ce->V1.OwnE w.heap.size w' ae (oldE d)->Ans d w (.returned (.tuple #[pv (G0.gK d.rc) (G0.gO d.rc) (G0.gS d.rc) a (G0.gZ d.rc).length c ae (oldE d).length ce,.bool true])) w'):=fun a c ae ce w' h hb hc ho hce hoe=>ans_yes h hb hc ho hce hoe
 have hA:Hid (∀ W e w',G3.Ans d.rc W e w'->∃ a c,e=.returned (.tuple #[I0.val (G0.gK d.rc) (G0.gO d.rc) (G0.gS d.rc) a (G0.gZ d.rc).length c,.bool (G0.isI d.rc)])/\J0.Own W.heap.size w' a (G0.gZ d.rc)/\(G0.gZ d.rc).length<=c/\Bq W w'):=fun W e w' h=>h
 have hzl:(G0.gZ d.rc).length<=281474976710656:=by
  unfold G0.gZ
  split
  ·rw[G0.pgs_length];have:=G0.cnt_le d.rc;omega
  ·exact Nat.zero_le _
 have hcase:=past_cases d;obtain ⟨R,hR'⟩:∃ R,Ans d w=R:=⟨_,rfl⟩;rw[hR'] at HN HY ⊢;obtain ⟨P,hP⟩:∃ P,B2.part d.sav 0 (G0.gS d.rc)=P:=⟨_,rfl⟩;rw[hP] at hpt hgd hcase;obtain ⟨K,hK⟩:∃ K,G0.gK d.rc=K:=⟨_,rfl⟩;obtain ⟨O,hO⟩:∃ O,G0.gO d.rc=O:=⟨_,rfl⟩;obtain ⟨S,hS⟩:∃ S,G0.gS d.rc=S:=⟨_,rfl⟩;obtain ⟨Z,hZ⟩:∃ Z,G0.gZ d.rc=Z:=⟨_,rfl⟩;rw[hK,hZ] at hcase;rw[hK,hO,hS,hZ] at HY hA;rw[hS] at hpt;rw[hZ] at hzl;clear hK hO hS hZ hP hR' hR hF
 rcases hcase with ⟨gI,hp⟩ | ⟨gI,g0,hp⟩ | ⟨gI,g0,gz,hp⟩ | ⟨gI,g0,gz,gs,hp⟩ | ⟨gI,g0,gz,gs,g2,hp,hE⟩ | ⟨gI,g0,gz,gs,g2,hp,hE⟩
 iterate 2
  ·rw[gI] at hA
   clear gI;go_enter func191,ntmps191
   go_wp2_with (go_at_call 197;refine (hG.out _).mono ?_;intro e w1 hans;obtain ⟨a,c,rfl,ho,hc,b1⟩:=hA.out _ _ _ hans;clear hans;have p1:=pr_new (k:=K) (o:=O) (t:=S) (a:=a) (n:=Z.length) (c:=c) b1;have x0:=p1.nb.c0;have i0:=p1.res.cell 0 (by simp);have i1:=p1.res.cell 1 (by simp);have i2:=p1.res.cell 2 (by simp);have i3:=p1.res.cell 3 (by simp);have i4:=p1.res.cell 4 (by simp);simp only[List.getElem_cons_zero,List.getElem_cons_succ] at i0 i1 i2 i3 i4;have j0:=p1.res.free 0 (by simp);have j1:=p1.res.free 1 (by simp);have j2:=p1.res.free 2 (by simp);have j3:=p1.res.free 3 (by simp);have j4:=p1.res.free 4 (by simp))
   have q:=put5 (y0:=Iv 0) (y1:=Iv 0) (y2:=Iv 0) (y3:=.slice none 0 0) (y4:=.slice none 0 0) p1.res;have v0:=q.cell 0 (by simp);have v1:=q.cell 1 (by simp);have v2:=q.cell 2 (by simp);have v3:=q.cell 3 (by simp);have v4:=q.cell 4 (by simp);simp only[List.getElem_cons_zero,List.getElem_cons_succ] at v0 v1 v2 v3 v4;exact bodyPost_ret (v:=.tuple #[pv 0 0 0 none 0 0 none 0 0,.bool false]) (by simp[results,results191,go_sem,v0,v1,v2,v3,v4]) rfl (HN.out _ _ _ _ _ _ _ _ _ _ hp (bel5 p1.bel (by omega) _ _ _ _ _))
 iterate 2
  ·rw[gI] at hA
   clear gI;go_enter func191,ntmps191
   go_wp2_with (first
    | (go_at_call 197;refine (hG.out _).mono ?_;intro e w1 hans;obtain ⟨a,c,rfl,ho,hc,b1⟩:=hA.out _ _ _ hans;clear hans;have p1:=pr_new (k:=K) (o:=O) (t:=S) (a:=a) (n:=Z.length) (c:=c) b1;have x0:=p1.nb.c0;have x3:=p1.nb.c3;have c4:=p1.arg.c4;have c5:=p1.arg.c5;have r1:=ho.row.alloc (.cells (Iq K O S a Z.length c) 96);have r2:=HL.out _ p1.bel;have i0:=p1.res.cell 0 (by simp);have i1:=p1.res.cell 1 (by simp);have i2:=p1.res.cell 2 (by simp);have i3:=p1.res.cell 3 (by simp);have i4:=p1.res.cell 4 (by simp);simp only[List.getElem_cons_zero,List.getElem_cons_succ] at i0 i1 i2 i3 i4;have j0:=p1.res.free 0 (by simp);have j1:=p1.res.free 1 (by simp);have j2:=p1.res.free 2 (by simp);have j3:=p1.res.free 3 (by simp);have j4:=p1.res.free 4 (by simp))
    | (go_at_call 216;refine (N2.equal _ _ _ _ _ _ _ hzl hpl r1 r2).mono ?_;rintro e w2 ⟨rfl,m,rfl⟩))
   have q:=put5 (y0:=Iv 0) (y1:=Iv 0) (y2:=Iv 0) (y3:=.slice none 0 0) (y4:=.slice none 0 0) (p1.drewN m).res;have v0:=q.cell 0 (by simp);have v1:=q.cell 1 (by simp);have v2:=q.cell 2 (by simp);have v3:=q.cell 3 (by simp);have v4:=q.cell 4 (by simp);simp only[List.getElem_cons_zero,List.getElem_cons_succ] at v0 v1 v2 v3 v4;exact bodyPost_ret (v:=.tuple #[pv 0 0 0 none 0 0 none 0 0,.bool false]) (by simp[results,results191,go_sem,v0,v1,v2,v3,v4]) rfl (HN.out _ _ _ _ _ _ _ _ _ _ hp (bel5 (p1.drewN m).bel (by omega) _ _ _ _ _))
 ·rw[gI] at hA
  clear gI;rw[hE] at HY;go_enter func191,ntmps191
  go_wp2_with (first
   | (go_at_call 197;refine (hG.out _).mono ?_;intro e w1 hans;obtain ⟨a,c,rfl,ho,hc,b1⟩:=hA.out _ _ _ hans;clear hans;have p1:=pr_new (k:=K) (o:=O) (t:=S) (a:=a) (n:=Z.length) (c:=c) b1;have x0:=p1.nb.c0;have x1:=p1.nb.c1;have x2:=p1.nb.c2;have x3:=p1.nb.c3;have c4:=p1.arg.c4;have c5:=p1.arg.c5;have r1:=ho.row.alloc (.cells (Iq K O S a Z.length c) 96);have r2:=HL.out _ p1.bel;have i0:=p1.res.cell 0 (by simp);have i1:=p1.res.cell 1 (by simp);have i2:=p1.res.cell 2 (by simp);have i3:=p1.res.cell 3 (by simp);have i4:=p1.res.cell 4 (by simp);simp only[List.getElem_cons_zero,List.getElem_cons_succ] at i0 i1 i2 i3 i4;have j0:=p1.res.free 0 (by simp);have j1:=p1.res.free 1 (by simp);have j2:=p1.res.free 2 (by simp);have j3:=p1.res.free 3 (by simp);have j4:=p1.res.free 4 (by simp))
   | (go_at_call 216;refine (N2.equal _ _ _ _ _ _ _ hzl hpl r1 r2).mono ?_;rintro e w2 ⟨rfl,m,rfl⟩))
  have q:=put5 (y0:=Iv K) (y1:=Iv O) (y2:=Iv S) (y3:=.slice a Z.length c) (y4:=.slice none 0 0) (p1.drewN m).res;have v0:=q.cell 0 (by simp);have v1:=q.cell 1 (by simp);have v2:=q.cell 2 (by simp);have v3:=q.cell 3 (by simp);have v4:=q.cell 4 (by simp);simp only[List.getElem_cons_zero,List.getElem_cons_succ] at v0 v1 v2 v3 v4;refine bodyPost_ret (v:=.tuple #[pv K O S a Z.length c none 0 0,.bool true]) (by simp[results,results191,go_sem,v0,v1,v2,v3,v4]) rfl (HY.out a c none 0 _ hp (bel5 (p1.drewN m).bel (by omega) _ _ _ _ _) hc ?_ (Nat.le_refl _) (Or.inl rfl));exact (own5 ((ho.alloc _).drewN m) (by simp) _ _ _ _ _).mono (by simp;omega)
 ·rw[gI] at hA
  clear gI;rw[hE] at HY
  have HD:Hid (∀ W e w',V1.Ans P W e w'->∃ a c,e=.returned (.tuple #[.slice a (V0.dE P).length c,.bool (V0.isD P)])/\V1.OwnE W.heap.size w' a (V0.dE P)/\(V0.dE P).length<=c/\Bq W w'):=fun W e w' h=>h
  have HP:Hid (N0.past d=V0.isD P):=hp;clear hp hE;go_enter func191,ntmps191
  go_wp2_with (first
   | (go_at_call 197;refine (hG.out _).mono ?_;intro e w1 hans;obtain ⟨a,c,rfl,ho,hc,b1⟩:=hA.out _ _ _ hans;clear hans;have p1:=pr_new (k:=K) (o:=O) (t:=S) (a:=a) (n:=Z.length) (c:=c) b1;have x0:=p1.nb.c0;have x1:=p1.nb.c1;have x2:=p1.nb.c2;have x3:=p1.nb.c3;have c4:=p1.arg.c4;have c5:=p1.arg.c5;have r1:=ho.row.alloc (.cells (Iq K O S a Z.length c) 96);have r2:=HL.out _ p1.bel)
   | (go_at_call 216;refine (N2.equal _ _ _ _ _ _ _ hzl hpl r1 r2).mono ?_;rintro e w2 ⟨rfl,m,rfl⟩)
   | (go_at_call 124;refine (hpt.out _).mono ?_;rintro e w3 ⟨rfl,b3⟩;have p3:=(p1.drewN m).below b3)
   | (go_at_call 198;refine (hgd.out _).mono ?_;intro e w4 hans;obtain ⟨ae,ce,rfl,hoe,hce,b4⟩:=HD.out _ _ _ hans;clear hans;have p4:=p3.below b4;have z0:=p4.nb.c0;have z1:=p4.nb.c1;have z2:=p4.nb.c2;have z3:=p4.nb.c3;have i0:=p4.res.cell 0 (by simp);have i1:=p4.res.cell 1 (by simp);have i2:=p4.res.cell 2 (by simp);have i3:=p4.res.cell 3 (by simp);have i4:=p4.res.cell 4 (by simp);simp only[List.getElem_cons_zero,List.getElem_cons_succ] at i0 i1 i2 i3 i4;have j0:=p4.res.free 0 (by simp);have j1:=p4.res.free 1 (by simp);have j2:=p4.res.free 2 (by simp);have j3:=p4.res.free 3 (by simp);have j4:=p4.res.free 4 (by simp)))
  have q:=put5 (y0:=Iv K) (y1:=Iv O) (y2:=Iv S) (y3:=.slice a Z.length c) (y4:=.slice ae (V0.dE P).length ce) p4.res;have v0:=q.cell 0 (by simp);have v1:=q.cell 1 (by simp);have v2:=q.cell 2 (by simp);have v3:=q.cell 3 (by simp);have v4:=q.cell 4 (by simp);simp only[List.getElem_cons_zero,List.getElem_cons_succ] at v0 v1 v2 v3 v4;have hbl:=bel5 p4.bel (B:=w.heap.size+1) (by omega) (Iv K) (Iv O) (Iv S) (.slice a Z.length c) (.slice ae (V0.dE P).length ce);have h1:=p1.bel.size;have h3:=p3.bel.size;refine bodyPost_ret (v:=.tuple #[pv K O S a Z.length c ae (V0.dE P).length ce,.bool (V0.isD P)]) (by simp[results,results191,go_sem,v0,v1,v2,v3,v4]) rfl ?_
  cases hD:V0.isD P with
  | false=>exact HN.out _ _ _ _ _ _ _ _ _ _ (HP.out.trans hD) hbl
  | true=>
   refine HY.out a c ae ce _ (HP.out.trans hD) hbl hc ?_ hce ?_
   ·exact (own5 ((((ho.alloc _).drewN m).below b3).below b4) (by simp) _ _ _ _ _).mono (by simp;omega)
   ·exact (ownE5 hoe (by have:=p3.res.lt;omega) _ _ _ _ _).mono (by omega)
end N6
namespace N7
open N0 (Ln)
open N1 (Sl Lists Fit)
open N5 (pv)
open P1 (ret_bool)
abbrev tv (k o t:Int) (a:Option Addr) (n c:Nat) (ae:Option Addr) (ne ce:Nat) (d:Ln) (s:Sl):Value:=.agg #[.int .i64 k,.int .i64 o,.int .i64 t,.slice a n c,.slice ae ne ce,.int .i64 d.ino,.int .i64 d.cl,.int .i64 d.un,.string d.rc,.slice s.a1 d.pg.length s.c1,.string d.sav,.slice s.a2 d.po.length s.c2,.slice s.a3 d.fr.length s.c3]
abbrev tvs (k o t:Int) (a:Option Addr) (n c:Nat) (ae:Option Addr) (ne ce:Nat) (d:Ln) (s:Sl):List Value:=[.int .i64 k,.int .i64 o,.int .i64 t,.slice a n c,.slice ae ne ce,.int .i64 d.ino,.int .i64 d.cl,.int .i64 d.un,.string d.rc,.slice s.a1 d.pg.length s.c1,.string d.sav,.slice s.a2 d.po.length s.c2,.slice s.a3 d.fr.length s.c3]
abbrev tObj (k o t:Int) (a:Option Addr) (n c:Nat) (ae:Option Addr) (ne ce:Nat) (d:Ln) (s:Sl):Obj:=.cells #[.int .i64 k,.int .i64 o,.int .i64 t,.slice a n c,.slice ae ne ce,.int .i64 d.ino,.int .i64 d.cl,.int .i64 d.un,.string d.rc,.slice s.a1 d.pg.length s.c1,.string d.sav,.slice s.a2 d.po.length s.c2,.slice s.a3 d.fr.length s.c3] 189
theorem isDir (k o t:Int) (a:Option Addr) (n c:Nat) (ae:Option Addr) (ne ce:Nat) (w:World) :
  Calls prog 218 #[pv k o t a n c ae ne ce] w (Rb (.bool (k == 2)) w):=by
 have hB:=K0.below_new w (.cells #[Iv k,Iv o,Iv t,.slice a n c,.slice ae ne ce] 187);go_enter func218,ntmps218;go_wp2;go_ret;exact ⟨rfl,hB⟩
theorem nums_cases (d:Ln) :
  (decide (0<=d.ino)=false/\N0.nums d=false)\/(0<=d.ino/\decide (d.ino<8)=false/\N0.nums d=false)\/(0<=d.ino/\d.ino<8/\B1.inB d.cl 0 8=false/\N0.nums d=false)\/
  (0<=d.ino/\d.ino<8/\B1.inB d.cl 0 8=true/\decide (0<=d.un)=false/\N0.nums d=false)\/(0<=d.ino/\d.ino<8/\B1.inB d.cl 0 8=true/\0<=d.un/\N0.nums d=true):=by
 unfold N0.nums B1.inB
 by_cases h1:0<=d.ino <;> by_cases h2:d.ino<8 <;> by_cases h3:0<=d.cl <;> by_cases h4:d.cl<=8 <;> by_cases h5:0<=d.un <;> simp[h1,h2,h3,h4,h5]
theorem numbersOk (k o t:Int) (a:Option Addr) (n c:Nat) (ae:Option Addr) (ne ce:Nat) (d:Ln) (s:Sl) (w:World) :
  Calls prog 192 #[tv k o t a n c ae ne ce d s] w (Rb (.bool (N0.nums d)) w):=by
 have hB:=K0.below_new w (tObj k o t a n c ae ne ce d s);have hB2:=hB.alloc hB.size (.cells (N1.Lc d s) 46)
 have HC:Hid (∀ W,Calls prog 217 #[Iv d.cl] W (Rw (.bool (B1.inB d.cl 0 8)) W)):=fun W=>I0.clientOk _ _
 rcases nums_cases d with ⟨h1,hp⟩ | ⟨h1,h2,hp⟩ | ⟨h1,h2,h3,hp⟩ | ⟨h1,h2,h3,h5,hp⟩ | ⟨h1,h2,h3,h5,hp⟩
 all_goals
  rw[hp];clear hp
 ·go_enter func192,ntmps192
  go_wp2;go_ret;exact ⟨rfl,hB2⟩
 ·go_enter func192,ntmps192
  go_wp2;go_ret;exact ⟨rfl,hB2⟩
 all_goals
  rw[h3] at HC;clear h3;go_enter func192,ntmps192
  go_wp2_with (go_at_call 217;refine (HC.out _).mono ?_;rintro e w1 ⟨rfl,rfl⟩)
  go_ret;exact ⟨rfl,hB2⟩
theorem poolOk (k o t:Int) (a:Option Addr) (c:Nat) (ae:Option Addr) (ne ce:Nat) (d:Ln) (s:Sl) (Z:List Int) (w:World) (hz:Z.length<=12) (hpo:d.po.length<=1048576) (hR:P0.Row w a Z) (h2:P0.Row w s.a2 d.po) :
  Calls prog 193 #[tv k o t a Z.length c ae ne ce d s] w (Rb (.bool (decide (d.po.length<=4) && (N0.asc d.po && P0.pagesOk (Z++d.po)))) w):=by
 have hB:=K0.below_new w (tObj k o t a Z.length c ae ne ce d s);have r1:=hR.alloc (tObj k o t a Z.length c ae ne ce d s);have r2:=h2.alloc (tObj k o t a Z.length c ae ne ce d s);have HA:=N2.ascends s.a2 s.c2 d.po _ (by omega) r2
 by_cases hl:d.po.length<=4
 ·have hl':(d.po.length:Int)<=4:=by omega
  rw[decide_eq_true hl,Bool.true_and]
  cases hasc:N0.asc d.po with
  | false=>
   rw[hasc] at HA;clear hR h2 r1 r2;go_enter func193,ntmps193
   go_wp2_with (go_at_call 100;refine HA.mono ?_;rintro e w1 ⟨rfl,m,rfl⟩)
   go_ret;exact ⟨rfl,K0.below_drewN hB m⟩
  | true=>
   rw[hasc] at HA;rw[Bool.true_and]
   have HC:Hid (∀ m,Calls prog 104 #[Sv (w.heap.size+1) 2 2] (((w.alloc (tObj k o t a Z.length c ae ne ce d s)).drewN m).alloc (.cells #[.slice a Z.length c,.slice s.a2 d.po.length s.c2] 32)) fun e w'=>∃ a' c',e=.returned (.slice a' (Z++d.po).length c')/\J0.Own ((((w.alloc (tObj k o t a Z.length c ae ne ce d s)).drewN m).alloc (.cells #[.slice a Z.length c,.slice s.a2 d.po.length s.c2] 32))).heap.size w' a' (Z++d.po)/\(Z++d.po).length<=c'/\Below ((((w.alloc (tObj k o t a Z.length c ae ne ce d s)).drewN m).alloc (.cells #[.slice a Z.length c,.slice s.a2 d.po.length s.c2] 32))).heap.size (((w.alloc (tObj k o t a Z.length c ae ne ce d s)).drewN m).alloc (.cells #[.slice a Z.length c,.slice s.a2 d.po.length s.c2] 32)) w'):=fun m=>by
    have hk:=K0.blk_at (B:=w.heap.size+1) [.slice a Z.length c,.slice s.a2 d.po.length s.c2] ((w.alloc (tObj k o t a Z.length c ae ne ce d s)).drewN m) 32 (by simp);exact Q1.concat (w.heap.size+1) a s.a2 c s.c2 Z d.po _ hk.c0 hk.c1 hk.lt ((r1.drewN m).alloc _) ((r2.drewN m).alloc _) (by omega) hpo
   have HL:Hid ((Z++d.po).length<=281474976710656):=by
    show (Z++d.po).length<=_
    rw[List.length_append];omega
   obtain ⟨Y,hY⟩:∃ Y,Z++d.po=Y:=⟨_,rfl⟩;rw[hY] at HC HL ⊢;clear hR h2 r1 r2 hY;go_enter func193,ntmps193
   go_wp2_with (first
    | (go_at_call 100;refine HA.mono ?_;rintro e w1 ⟨rfl,m,rfl⟩)
    | (go_at_call 104;refine (HC.out m).mono ?_;rintro e w2 ⟨a',c',rfl,ho,hc',b2⟩)
    | (go_at_call 214;refine (P1.pagesOk a' c' Y _ HL.out hc' ho.row).mono ?_;rintro e w3 ⟨rfl,rfl⟩))
   go_ret;exact ⟨rfl,((K0.below_drewN hB m).alloc (by simp) _).trans (b2.mono (by simp;omega))⟩
 ·have hl':decide ((d.po.length:Int)<=4)=false:=by simp;omega
  have hl2:decide (d.po.length<=4)=false:=by simp;omega
  rw[hl2,Bool.false_and];clear HA hR h2 r1 r2;go_enter func193,ntmps193;go_wp2;go_ret;exact ⟨rfl,hB⟩
end N7
namespace N8
open N0 (Ln)
open N1 (Sl Lists Fit)
open N7 (tv tvs tObj)
open P1 (ret_bool)
def frOk (k:Int) (d:Ln):Bool:=if k=2 then decide (d.fr.length<=2) && (N0.asc d.fr && N0.to (N0.frAt d.fr d.ino) d.fr.length) else decide (d.fr.length=0)
theorem freshOk (k o t:Int) (a:Option Addr) (n c:Nat) (ae:Option Addr) (ne ce:Nat) (d:Ln) (s:Sl) (w:World) (hfr:d.fr.length<=1048576) (h3:P0.Row w s.a3 d.fr) :
  Calls prog 194 #[tv k o t a n c ae ne ce d s] w (Rb (.bool (frOk k d)) w):=by
 have hB:=K0.below_new w (tObj k o t a n c ae ne ce d s);have hT:=K0.blk_new (tvs k o t a n c ae ne ce d s) w 189;have r3:=h3.alloc (tObj k o t a n c ae ne ce d s);clear h3
 by_cases hk:k=2
 ·have hk':(k == 2)=true:=by simpa using hk
  by_cases hl:d.fr.length<=2
  ·have hl':¬ (2<(d.fr.length:Int)):=by omega
   have hl2:decide (2<(d.fr.length:Int))=false:=by simp;omega
   have HV:Hid (frOk k d=(N0.asc d.fr && N0.to (N0.frAt d.fr d.ino) d.fr.length)):=by
    show frOk k d=_
    rw[frOk,if_pos hk,decide_eq_true hl,Bool.true_and]
   clear hk
   cases hasc:N0.asc d.fr with
   | false=>
    rw[HV.out,hasc,Bool.false_and];clear HV;go_enter func194,ntmps194
    go_wp2_with (first
     | (go_at_call 218;refine (N7.isDir _ _ _ _ _ _ _ _ _ _).mono ?_;rintro e w1 ⟨rfl,b1⟩;have q3:=r3.below b1)
     | (go_at_call 100;refine (N2.ascends _ _ _ _ (by omega) q3).mono ?_;rintro e w2 ⟨rfl,m,rfl⟩))
    go_ret;exact ⟨rfl,K0.below_drewN (hB.trans (b1.mono hB.size)) m⟩
   | true=>
    rw[HV.out,hasc,Bool.true_and];clear HV;go_enter func194,ntmps194
    go_wp2_with (first
     | (go_at_call 218;refine (N7.isDir _ _ _ _ _ _ _ _ _ _).mono ?_;rintro e w1 ⟨rfl,b1⟩;have q3:=r3.below b1;have t1:=hT.below b1)
     | (go_at_call 100;refine (N2.ascends _ _ _ _ (by omega) q3).mono ?_;rintro e w2 ⟨rfl,m,rfl⟩))
    have x5:=(t1.drewN m).cell 5 (by simp);simp only[List.getElem_cons_zero,List.getElem_cons_succ] at x5;have q4:=q3.drewN m;have hBel:=K0.below_drewN (hB.trans (b1.mono hB.size)) m;obtain ⟨V,hV⟩:∃ V,w1.drewN m=V:=⟨_,rfl⟩;rw[hV] at x5 q4 hBel ⊢;clear hV b1 q3 t1 r3 hT hB hasc
    go_loop [26] (fun i=>∃ j:Nat,j<=d.fr.length/\N0.to (N0.frAt d.fr d.ino) j=true/\i=Iv j) (fun i=>d.fr.length-(intOf i).toNat)
    case atStart=>exact ⟨0,Nat.zero_le _,rfl,rfl⟩
    case round=>
     obtain ⟨j,hj,hok,rfl⟩:=hrel
     by_cases hlt:j<d.fr.length
     ·obtain ⟨b,off,hab,_,hc⟩:=q4.get hlt
      have x1:=hc j hlt;have hat:N0.frAt d.fr d.ino j=(B1.inB (d.fr.getD j 0) 1 7 && !decide (d.fr.getD j 0=d.ino)):=rfl;obtain ⟨z,ez⟩:∃ z,d.fr.getD j 0=z:=⟨_,rfl⟩;rw[ez] at x1 hat;rw[hab]
      have e1:(0:Int)<=(j:Int):=by omega
      have e2:(j:Int)<(d.fr.length:Int):=by omega
      by_cases g1:z<1
      ·have HR:Hid (N0.to (N0.frAt d.fr d.ino) d.fr.length=false):=N0.to_bad hlt (by rw[hat,show B1.inB z 1 7=false from decide_eq_false (by omega)];rfl)
       clear hat hok ez hc;go_wp2;go_ret;exact ⟨ret_bool HR.out.symm,hBel⟩
      ·have g1':decide (z<1)=false:=by simpa using g1
       by_cases g2:8<=z
       ·have HR:Hid (N0.to (N0.frAt d.fr d.ino) d.fr.length=false):=N0.to_bad hlt (by rw[hat,show B1.inB z 1 7=false from decide_eq_false (by omega)];rfl)
        clear hat hok ez hc;go_wp2;go_ret;exact ⟨ret_bool HR.out.symm,hBel⟩
       ·have g2':decide (8<=z)=false:=by simpa using g2
        have hin:B1.inB z 1 7=true:=decide_eq_true (by omega)
        by_cases g3:z=d.ino
        ·have g3':(z == d.ino)=true:=by simpa using g3
         have HR:Hid (N0.to (N0.frAt d.fr d.ino) d.fr.length=false):=N0.to_bad hlt (by rw[hat,decide_eq_true g3];simp);clear hat hok ez hc g3;go_wp2;go_ret;exact ⟨ret_bool HR.out.symm,hBel⟩
        ·have g3':(z == d.ino)=false:=by simpa using g3
         have HO:Hid (N0.to (N0.frAt d.fr d.ino) (j+1)=true):=N0.to_step hok (by rw[hat,hin,decide_eq_false g3];rfl);clear hat hok ez hc;go_wp2
         go_round
         case rel=>exact ⟨j+1,by omega,HO.out,by go_num⟩
         case measure=>simp[intOf];omega
     ·obtain rfl:j=d.fr.length:=by omega
      have HR:Hid (N0.to (N0.frAt d.fr d.ino) d.fr.length=true):=hok;clear hok q4;go_wp2;go_ret;exact ⟨ret_bool HR.out.symm,hBel⟩
  ·have hl':2<(d.fr.length:Int):=by omega
   have HV:frOk k d=false:=by rw[frOk,if_pos hk,decide_eq_false hl];rfl
   rw[HV];clear HV r3 hk;go_enter func194,ntmps194
   go_wp2_with (go_at_call 218;refine (N7.isDir _ _ _ _ _ _ _ _ _ _).mono ?_;rintro e w1 ⟨rfl,b1⟩)
   go_ret;exact ⟨rfl,hB.trans (b1.mono hB.size)⟩
 ·have hk':(k == 2)=false:=by simpa using hk
  have HV:Hid (((d.fr.length:Int) == 0)=frOk k d):=by
   show _=frOk k d
   rw[frOk,if_neg hk]
   by_cases h0:d.fr.length=0
   ·simp[h0]
   ·rw[decide_eq_false h0]
    simp;intro e;exact h0 (by rw[e];rfl)
  clear r3 hk;go_enter func194,ntmps194
  go_wp2_with (go_at_call 218;refine (N7.isDir _ _ _ _ _ _ _ _ _ _).mono ?_;rintro e w1 ⟨rfl,b1⟩)
  go_ret;exact ⟨ret_bool HV.out,hB.trans (b1.mono hB.size)⟩
end N8
end Go.Proofs.YtlejhfnjmkdobaaGreatDoor
