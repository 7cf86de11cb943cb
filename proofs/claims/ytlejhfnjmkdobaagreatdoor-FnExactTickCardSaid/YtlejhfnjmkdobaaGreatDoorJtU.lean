/- Joined texts. -/
import Derived.Test.YtlejhfnjmkdobaaGreatDoorJtH
set_option linter.unusedVariables false
set_option linter.unusedSimpArgs false
set_option maxRecDepth 10000
set_option maxHeartbeats 16000000
namespace Go.Proofs.YtlejhfnjmkdobaaGreatDoor
open ChangeShapes WideShapes ChangeAt RowKit
open Go.Proofs.Tryz
namespace R5
open I2 (ints)
open J0 (Own)
def RBuf (base:Nat) (w:World) (a:Option Addr) (n cap:Nat) (zs:List Int):Prop:=zs.length=n*2/\w.ownsRow base 107 2 (.slice a n cap) n (ints zs)
theorem infoR:(prog.info? 107).map (fun i=>(i.zero,i.size,i.bytes))=some (some (.agg #[Iv 0,Iv 0]),2,16):=by kernel_rfl
variable {base n cap : Nat} {a : Option Addr} {w W : World} {zs : List Int}
theorem RBuf.below (h:RBuf base w a n cap zs) (hb:Bq w W):RBuf base W a n cap zs:=⟨h.1,F0.owns_below h.2 hb⟩
theorem RBuf.alloc (h:RBuf base w a n cap zs) (o:Obj):RBuf base (w.alloc o) a n cap zs:=h.below ((Below.refl _ _).alloc (Nat.le_refl _) o)
theorem rbuf_one (w:World) (x y:Int) (hb:base<=w.heap.size):RBuf base (w.alloc (.cells #[Iv x,Iv y] 107)) (some ⟨w.heap.size,0,none⟩) 1 1 [x,y]:=
 ⟨rfl,rfl,Or.inr ⟨w.heap.size,1,#[Iv x,Iv y],rfl,hb,heap_alloc_new w _,Nat.le_refl _,by unfold maxLen;omega,rfl,rfl⟩⟩
theorem RBuf.fits (h:RBuf base w a n cap zs):n<=cap:=by
 rcases h.2.2 with ⟨h0,h1⟩ | ⟨g,c,cur,hv,_,_,hle,_⟩
 ·omega
 ·simp at hv
  omega
theorem RBuf.own (h:RBuf base w a n cap zs):J0.Own base w a zs:=by
 rcases h.2.2 with ⟨h0,h1⟩ | ⟨g,c,cur,hv,hg,hc,hle,_,hs,ht⟩
 ·left
  exact List.eq_nil_of_length_eq_zero (by rw[h.1,h1])
 ·right
  simp at hv;have hn:=h.1;refine ⟨g,hv.1,hg,⟨fun j hj=>?_,fun j hj=>?_,(Array.getElem?_eq_some_iff.1 hc).1⟩⟩
  ·have hcell:w.cell? ⟨g,j,none⟩=cur[j]?:=by
    unfold World.cell?;rw[hc];simp
   have hj':j<zs.length:=by simpa using hj
   have e1:(cur.toList.take (n*2))[j]? = (ints zs)[j]?:=by rw[ht]
   rw[List.getElem?_take_of_lt (by omega)] at e1;rw[hcell,<- Array.getElem?_toList,e1];simp[hj']
  ·unfold World.frozen?
   rw[hc];simp
theorem one_rng (x y:Int):∀ u ∈ [Value.int .i64 x,Iv y],u.oneCell'=true:=by
 intro u h;simp at h
 rcases h with rfl | rfl <;> rfl
theorem append_rng {ops:Array Oper} {rest:List Oper} {o:Oper} {A:Act} {Q:Exit->Act->World->Prop} (hgd:o.guard=none) (sl x:Operand)
  (ho:o.op=.call { callee:=.builtin .append,args:=#[sl,x],argTypes:=#[103,103] })
  (hbuf:RBuf base w a n cap zs) (u v:Int) (hs:A.eval sl=.slice a n cap) (hx:A.eval x=Sv w.heap.size 1 1) (hlen:n+1<=1048576) (hb:base<=w.heap.size)
  (h:∀ g' cap' w',RBuf base w' (some ⟨g',0,none⟩) (n+1) cap' (zs ++ [u,v])->Below base w w'->wpList prog ops Q rest (A.put o.dst (Sv g' (n+1) cap')) w'):wpList prog ops Q (o :: rest) A (w.alloc (.cells #[Iv u,Iv v] 107)):=by
 obtain ⟨i0,hi,hz0,hz1,hz2⟩:=info_parts infoR;have hb2:=hbuf.alloc (.cells #[Iv u,Iv v] 107);refine wpList_append_lies _ hgd sl x 103 ho base 107 i0 (.agg #[Iv 0,Iv 0]) 2 16 underlying103 hi hz0 hz1 hz2 rfl (by omega) _ n _ hs hb2.2 ⟨w.heap.size,0,none⟩ 1 1 [Iv u,Iv v] hx rfl (World.news_of_block (heap_alloc_new w _)) (one_rng u v) (by omega) (by unfold maxLen;omega) (by omega) (by simp;omega) _ rfl ?_;intro g' cap' w' ho' hg' _ _;refine h g' cap' w' ⟨by rw[List.length_append,hbuf.1];simp;omega,?_⟩ ?_
 ·rw[show ints (zs ++ [u,v])=ints zs ++ [Iv u,Iv v] by simp]
  exact ho'
 ·exact F0.below_grown ((Below.refl _ _).alloc hb _) hg' (fun g hg=>(hbuf.2.lt g hg).1) (by simp;omega)
end R5
end Go.Proofs.YtlejhfnjmkdobaaGreatDoor
