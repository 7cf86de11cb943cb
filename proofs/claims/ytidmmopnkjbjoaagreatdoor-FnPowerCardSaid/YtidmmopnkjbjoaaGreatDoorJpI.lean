/- Joined texts. -/
import Derived.Test.YtidmmopnkjbjoaaGreatDoorJpH
set_option linter.unusedVariables false
set_option linter.unusedSimpArgs false
set_option maxRecDepth 10000
set_option maxHeartbeats 16000000
namespace Go.Proofs.YtidmmopnkjbjoaaGreatDoor
open ChangeShapes WideShapes ChangeAt RowKit
open Go.Proofs.Tryz
section
variable {P : Program} {n l : Nat} {Q : Exit → Act → World → Prop} {ops : Array Oper}
theorem Zo {o:Oper} {a:Act} {K K':Act->World->Prop} (hK:∀ a w,K a w->K' a w) (r:Result Next) (h:o.upon P a K Q r):o.uponIn (Fence.wide.inRound l) n P a K' Q r:=by
 cases r with
 | ok x w=>
  cases x with
  | value v=>exact hK _ _ h
  | skip=>exact hK _ _ h
  | defer d=>exact hK _ _ h
  | enter f args=>
   refine ⟨(fun h=>by cases h),WU l (H3.2 (mC h ?_))⟩;rintro (v | c | _) w' hw;·exact hK _ _ hw
   ·exact hw
   ·exact hw
  | row f args=>
   refine ⟨(fun h=>by cases h),fun c cs _=>?_⟩;obtain ⟨v,w',r,s⟩:=h c cs;exact ⟨v,w',hK _ _ r,stepsIn_wide.2 s⟩
  | _=>exact h.elim
 | halt x w=>cases x <;> first | exact h | exact h.elim
theorem Zp {i:Nat} {a:Act} {w:World} {K K':Act->World->Prop} (hd:∀ o ∈ ops,∀ c,o.op ≠ .defer c) (hq:¬ LetsOut Q) (hK:∀ a w,K a w->K' a w) (h:wpOp P ops Q i K a w):wpOpIn (Fence.wide.inRound l) n P ops Q i K' a w:=by
 unfold wpOp at h;unfold wpOpIn;cases ho:ops[i]? with
 | none=>rw[ho] at h;exact hK _ _ h
 | some o=>
  rw[ho] at h;dsimp only at h ⊢;split
  ·rename_i hw;rw[aF hw] at h;rcases h with h | ⟨_,h⟩
   ·refine ⟨fun _ _=>trivial,?_⟩;rw[Oper.semAt_eq _ _ _ (hd o (Array.mem_of_getElem? ho))];exact Zo hK _ h
   exact absurd h hq
  ·rename_i hw;rw[aG hw] at h;exact ⟨fun _ _=>trivial,hK _ _ h⟩
theorem Pd {S:World->Prop} {md:Region.Mode} (hd:∀ o ∈ ops,∀ c,o.op ≠ .defer c) (hq:¬ LetsOut Q):∀ (fuel:Nat) (listed:Array Bool) (a:Act) (w:World),wpAnyH P md ops Q S fuel listed a w->wpAnyIn (Fence.wide.inRound l) n P md ops Q fuel listed a w
 | 0,_,_,_,h=>h
 | fuel+1,listed,a,w,h=>⟨h.1,fun i hi=>Zp hd hq (fun a' w' hk=>Pd hd hq fuel _ a' w' hk.2) (h.2 i hi)⟩
theorem Pe {S:World->Prop} {id:Nat} {a:Act} {w:World} (hd:∀ o ∈ ops,∀ c,o.op ≠ .defer c) (hq:¬ LetsOut Q) (hm:P.follows .mixedOrders=true) (h:wpAnyH P .any ops Q S ops.size (Array.replicate ops.size false) a w.drew):(Code.region id ops true).wpIn (Fence.wide.inRound l) n P Q a w:=wpIn_region_any hm (Pd hd hq _ _ _ _ h)
theorem Pf {c:Prop} [Decidable c] {p q:Prop} (hc:c) (hp:p):if c then p else q:=by rw[aF hc];exact hp
theorem BH {S:World->Prop} {a:Act} {w:World} {i:Nat} {o:Oper} {listed:Array Bool} {fuel:Nat} {md:Region.Mode} (hr:Region.ready md ops listed=[i]) (ho:ops[i]? = some o) (hg:o.guard=none) (ty:TypeId) (x y:Operand) (hop:o.op=.store ty x y) (b off:Nat) (cells:List Value) (hx:a.eval x=aD b off) (hy:a.eval y=.agg cells.toArray) (ht:w.there b off cells.length) (hi:(P.info? ty).map (·.size)=some cells.length) (h1:∀ v ∈ cells,v.oneCell'=true) (hS:S (w.setCells b off cells)) (hdone:Region.ready md ops (listed.setIfInBounds i true)=[]) (h:Q .normal (a.put o.dst undef) (w.setCells b off cells)):wpAnyH P md ops Q S (fuel+1) listed a w:=by
 refine pG hr (by simp) ?_;intro j hj;obtain rfl:j=i:=by simpa using hj
 unfold wpOp;rw[ho];refine Pf (by rw[Region.wanted,hg]) (.inl (wp_store_mid ty x y hop b off cells.toArray hx hy (by simpa using ht) (by simpa using hi) (all_oneCell_toArray h1) ?_));rw[List.toList_toArray];exact ⟨hS,dV hdone h _⟩
theorem ze {S:World->Prop} {a:Act} {w:World} {i f:Nat} {o:Oper} {listed:Array Bool} {fuel:Nat} {md:Region.Mode} (hr:Region.ready md ops listed=[i]) (ho:ops[i]? = some o) (hg:o.guard=none) (x:Operand) (ts:Array TypeId) (hop:o.op=.call { callee:=.value (.func f),args:=#[x],argTypes:=ts }) (v:Value) (hx:a.eval x=v) (eg:∀ args w,(callFunc f args).run P w=.ok (.enter f args) w) (hc:Calls P f #[v] w fun e w'=>∃ u,e=.returned u/\S w'/\wpAnyH P md ops Q S fuel (listed.setIfInBounds i true) (a.put o.dst u) w'):wpAnyH P md ops Q S (fuel+1) listed a w:=by
 refine pG hr (by simp) ?_;intro j hj;obtain rfl:j=i:=by simpa using hj
 unfold wpOp;rw[ho];refine Pf (by rw[Region.wanted,hg]) (.inl ?_);have he:(execOp a.eval o).run P w=.ok (.enter f #[v]) w:=by subst hx;simp[execOp,hop,resolve,go_sem,invoke,eg]
 unfold Oper.wp;rw[he];refine mC hc ?_;rintro e w' ⟨u,rfl,h⟩;exact h
theorem IQ {fn:Func} {R:Ending->World->Prop} {A:Act} {W:World} {D:Nat} (hdf:A.defers=[{ target:=.collected D,args:=#[] }]) (hK:W.heap[D]? = some (.deferred (some []))) (h:∃ v,(results fn A.tmps).run P (W.putObj D (.deferred none))=.ok v (W.putObj D (.deferred none))/\R (.returned v) (W.putObj D (.deferred none))):bodyPostM Fence.wide n P fn R .ret A W:=by
 show LeavesInM _ _ _ _ _ _ _ _ _
 rw[hdf];refine ⟨by simp,.inl ⟨_,_,rfl,run_takeDeferred hK,?_⟩⟩;exact h
theorem Pg {c:Code} {F:Fence} {V:World} (a:Act) (p:Act->Prop) (ha:p a) (h:∀ A,p A->c.wpIn F n P Q A V):c.wpIn F n P Q a V:=h a ha
theorem zg {c:Code} {V:World} (a:Act) (p:Act->Prop) (ha:p a) (h:∀ A,p A->c.wp P Q A V):c.wp P Q a V:=h a ha
theorem zh (a:Act) (v:Value):a.put none v=a:=rfl
theorem IS (a:Act) (d:Option Tmp) (v:Value):(a.put d v).defers=a.defers:=by cases d <;> rfl
theorem cB (a:Act) (d:Tmp) (v:Value):(a.put (some d) v).tmps.size=a.tmps.size:=by simp[Act.put]
theorem cC (a:Act) (d:Tmp) (v:Value) (h:d<a.tmps.size):(a.put (some d) v).eval (.tmp d)=v:=by simp[Act.eval,Act.put,Array.getD,h]
theorem cD (a:Act) (d e:Tmp) (v:Value) (h:d≠e):(a.put (some d) v).eval (.tmp e)=a.eval (.tmp e):=by
 simp only[Act.eval,Act.put];by_cases he:e<a.tmps.size;·simp[Array.getD,he,Array.getElem_setIfInBounds,h]
 simp[Array.getD,he]
end
section
open Go.Conc.Locks
abbrev Zq:MuLink:={ lock:=122,unlock:=123,ilock:=170,iunlock:=171,lockSlow:=212,unlockSlow:=215,disable:=208,enable:=210,acquire:=211,relMerge:=213,cas32:=209,add32:=214,tMutex:=99,tIMutex:=97,tPMutex:=215,tPIMutex:=249,tPI32:=251,tUP:=253,tNoCopy:=94,tU32:=95 }
theorem Ph:MuLib prog Zq:=by
 constructor;all_goals first
  | exact func122.trans (fK some (by kernel_rfl))
  | exact func123.trans (fK some (by kernel_rfl))
  | exact func170.trans (fK some (by kernel_rfl))
  | exact func171.trans (fK some (by kernel_rfl))
  | exact func208.trans (fK some (by kernel_rfl))
  | exact func210.trans (fK some (by kernel_rfl))
  | exact func211.trans (fK some (by kernel_rfl))
  | exact func213.trans (fK some (by kernel_rfl))
  | exact func209.trans (fK some (by kernel_rfl))
  | exact func214.trans (fK some (by kernel_rfl))
  | kernel_rfl
  | (intro w;kernel_rfl)
end
end Go.Proofs.YtidmmopnkjbjoaaGreatDoor
