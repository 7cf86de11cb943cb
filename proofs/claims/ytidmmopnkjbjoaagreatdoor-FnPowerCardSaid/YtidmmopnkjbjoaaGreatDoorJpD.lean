/- Joined texts. -/
import Derived.Test.YtidmmopnkjbjoaaGreatDoorJpA
import Derived.Test.YtidmmopnkjbjoaaGreatDoorProg
set_option linter.unusedVariables false
set_option linter.unusedSimpArgs false
set_option maxRecDepth 10000
set_option maxHeartbeats 16000000
namespace Go.Proofs.YtidmmopnkjbjoaaGreatDoor
open ChangeShapes WideShapes ChangeAt RowKit
section
open List
theorem ao:(∀ {α:Type} {xs:List α} {i:Nat} (h:i<xs.toArray.size),xs.toArray[i]'h=xs[i]'(by simpa using h))/\(∀ {α:Type} {a:α} {zs:List α} {i:Nat} {h:i+1<(a :: zs).length},getElem (a :: zs) (i+1) h=getElem zs i (Nat.lt_of_succ_lt_succ h))/\(∀ {α:Type} {a:α} {zs:List α} {h:0<(a :: zs).length},getElem (a :: zs) 0 h=a)/\(∀ {α:Type} (l:List α) (i:Nat) (a:α),l.toArray.setIfInBounds i a=(l.set i a).toArray)/\(∀ {α:Type} {x y:α} {xs:List α} {i:Nat},(x :: xs).set (i+1) y=x :: xs.set i y)/\(∀ {α:Type} {x y:α} {xs:List α},(x :: xs).set 0 y=y :: xs):=⟨getElem_toArray,getElem_cons_succ _ _ _ _,getElem_cons_zero _ _ _,fun _ _ _=>setIfInBounds_toArray ..,set_cons_succ,set_cons_zero⟩
end
section
variable {P : Program} {ops : Array Oper} {Q : Exit → Act → World → Prop} {md : Region.Mode} {S : World → Prop} {oi : Oper} {fuel : Nat} {listed l' : Array Bool} {a a' : Act} {w : World}
theorem aE (i:Nat) (v:Value) (hS:S w) (h:wpAnyH P md ops Q S fuel l' a' w) (hi:ops[i]? = some oi:=by exact rfl) (hl:listed.setIfInBounds i true=l':=by (try simp only[ao]);exact rfl) (ha:a.put oi.dst v=a':=by (try simp only[ao,Act.put,Nat.reduceAdd]);exact rfl) (hs:Region.noSelect ops=true:=by kernel_rfl) (hf:Region.free md ops listed i=true:=by kernel_rfl) (hr:(Region.ready md ops listed).contains i=true:=by kernel_rfl) (hQ:∀ c a w,Q (.panic c) (a.put oi.dst v) w->Q (.panic c) a w:=by exact fun _ _ _ h=>h) (hw:Region.wanted oi (yielded ops a.tmps)=true:=by rfl) (hy:∀ w,S w->(execOp a.eval oi).run P w=.ok (.value v) w:=by exact fun w' hS'=>by rfl):wpAnyH P md ops Q S (fuel+1) listed a w:=by subst hl ha;exact bG hi hs hf hr hQ (Or.inl ⟨hw,hy⟩) hS h
theorem aC (i:Nat) (v:Value) (hS:S w) (h:wpAnyH P md ops Q S fuel l' a' w) (hi:ops[i]? = some oi:=by exact rfl) (hl:listed.setIfInBounds i true=l':=by (try simp only[ao]);exact rfl) (ha:a.put oi.dst v=a':=by (try simp only[ao,Act.put,Nat.reduceAdd]);exact rfl) (hs:Region.noSelect ops=true:=by kernel_rfl) (hf:Region.free md ops listed i=true:=by kernel_rfl) (hr:(Region.ready md ops listed).contains i=true:=by kernel_rfl) (hQ:∀ c a w,Q (.panic c) (a.put oi.dst v) w->Q (.panic c) a w:=by exact fun _ _ _ h=>h) (hw:Region.wanted oi (yielded ops a.tmps)=true:=by rfl) (hy:∀ w,S w->(execOp a.eval oi).run P w=.ok (.value v) w:=by intro w' hS';(try dsimp only at hS');go_split_ands;go_simp):wpAnyH P md ops Q S (fuel+1) listed a w:=by subst hl ha;exact bG hi hs hf hr hQ (Or.inl ⟨hw,hy⟩) hS h
theorem Oi (i:Nat) (v:Value) (hi:ops[i]? = some oi) (hy:∀ w,S w->(execOp a.eval oi).run P w=.ok (.value v) w) (hS:S w) (h:wpAnyH P md ops Q S fuel l' a' w) (hl:listed.setIfInBounds i true=l':=by (try simp only[ao]);exact rfl) (ha:a.put oi.dst v=a':=by (try simp only[ao,Act.put,Nat.reduceAdd]);exact rfl) (hs:Region.noSelect ops=true:=by kernel_rfl) (hf:Region.free md ops listed i=true:=by kernel_rfl) (hr:(Region.ready md ops listed).contains i=true:=by kernel_rfl) (hQ:∀ c a w,Q (.panic c) (a.put oi.dst v) w->Q (.panic c) a w:=by exact fun _ _ _ h=>h) (hw:Region.wanted oi (yielded ops a.tmps)=true:=by rfl):wpAnyH P md ops Q S (fuel+1) listed a w:=by subst hl ha;exact bG hi hs hf hr hQ (Or.inl ⟨hw,hy⟩) hS h
theorem aM (i:Nat) (hS:S w) (h:wpAnyH P md ops Q S fuel l' a' w) (hi:ops[i]? = some oi:=by exact rfl) (hl:listed.setIfInBounds i true=l':=by (try simp only[ao]);exact rfl) (ha:a.put oi.dst undef=a':=by (try simp only[ao,Act.put,Nat.reduceAdd]);exact rfl) (hs:Region.noSelect ops=true:=by kernel_rfl) (hf:Region.free md ops listed i=true:=by kernel_rfl) (hr:(Region.ready md ops listed).contains i=true:=by kernel_rfl) (hQ:∀ c a w,Q (.panic c) (a.put oi.dst undef) w->Q (.panic c) a w:=by exact fun _ _ _ h=>h) (hw:Region.wanted oi (yielded ops a.tmps)=false:=by rfl):wpAnyH P md ops Q S (fuel+1) listed a w:=by subst hl ha;exact bG hi hs hf hr hQ (Or.inr ⟨hw,rfl⟩) hS h
end
section
variable {P : Program} {Q : Exit → Act → World → Prop} {ops : Array Oper}
theorem gT {c:Prop} [Decidable c] {p q:Prop} (hc:c) (hp:p):if c then p else q:=by rw[aF hc];exact hp
theorem XW {S:World->Prop} {a:Act} {w:World} {i f:Nat} {o:Oper} {listed:Array Bool} {fuel:Nat} {md:Region.Mode} (hr:Region.ready md ops listed=[i]) (ho:ops[i]? = some o) (hg:o.guard=none) (x:Operand) (ts:Array TypeId) (hop:o.op=.call { callee:=.value (.func f),args:=#[x],argTypes:=ts }) (v:Value) (hx:a.eval x=v) (eg:∀ args w,(callFunc f args).run P w=.ok (.enter f args) w) (hc:Calls P f #[v] w fun e w'=>∃ u,e=.returned u/\S w'/\wpAnyH P md ops Q S fuel (listed.setIfInBounds i true) (a.put o.dst u) w'):wpAnyH P md ops Q S (fuel+1) listed a w:=by
 refine pG hr (by simp) ?_;intro j hj;obtain rfl:j=i:=by simpa using hj
 unfold wpOp;rw[ho];refine gT (by rw[Region.wanted,hg]) (.inl ?_);have he:(execOp a.eval o).run P w=.ok (.enter f #[v]) w:=by subst hx;simp[execOp,hop,resolve,go_sem,invoke,eg]
 unfold Oper.wp;rw[he];refine mC hc ?_;rintro e w' ⟨u,rfl,h⟩;exact h
theorem fY {S:World->Prop} {a:Act} {w:World} {i f:Nat} {o:Oper} {listed:Array Bool} {fuel:Nat} {md:Region.Mode} (hr:Region.ready md ops listed=[i]) (ho:ops[i]? = some o) (hw:Region.wanted o (yielded ops a.tmps)=true) (x:Operand) (ts:Array TypeId) (hop:o.op=.call { callee:=.value (.func f),args:=#[x],argTypes:=ts }) (v:Value) (hx:a.eval x=v) (eg:∀ args w,(callFunc f args).run P w=.ok (.enter f args) w) (hc:Calls P f #[v] w fun e w'=>∃ u,e=.returned u/\S w'/\wpAnyH P md ops Q S fuel (listed.setIfInBounds i true) (a.put o.dst u) w'):wpAnyH P md ops Q S (fuel+1) listed a w:=by
 refine pG hr (by simp) ?_;intro j hj;obtain rfl:j=i:=by simpa using hj
 unfold wpOp;rw[ho];refine gT hw (.inl ?_);have he:(execOp a.eval o).run P w=.ok (.enter f #[v]) w:=by subst hx;simp[execOp,hop,resolve,go_sem,invoke,eg]
 unfold Oper.wp;rw[he];refine mC hc ?_;rintro e w' ⟨u,rfl,h⟩;exact h
theorem jm {S:World->Prop} {a:Act} {w:World} {i f:Nat} {o:Oper} {listed:Array Bool} {fuel:Nat} {md:Region.Mode} (hr:Region.ready md ops listed=[i]) (ho:ops[i]? = some o) (hw:Region.wanted o (yielded ops a.tmps)=true) (x y:Operand) (ts:Array TypeId) (hop:o.op=.call { callee:=.value (.func f),args:=#[x,y],argTypes:=ts }) (v u1:Value) (hx0:a.eval x=v) (hx1:a.eval y=u1) (eg:∀ args w,(callFunc f args).run P w=.ok (.enter f args) w) (hc:Calls P f #[v,u1] w fun e w'=>∃ u,e=.returned u/\S w'/\wpAnyH P md ops Q S fuel (listed.setIfInBounds i true) (a.put o.dst u) w'):wpAnyH P md ops Q S (fuel+1) listed a w:=by
 refine pG hr (by simp) ?_;intro j hj;obtain rfl:j=i:=by simpa using hj
 unfold wpOp;rw[ho];refine gT hw (.inl ?_);have he:(execOp a.eval o).run P w=.ok (.enter f #[v,u1]) w:=by subst hx0 hx1;simp[execOp,hop,resolve,go_sem,invoke,eg]
 unfold Oper.wp;rw[he];refine mC hc ?_;rintro e w' ⟨u,rfl,h⟩;exact h
theorem uP {S:World->Prop} {a:Act} {w:World} {i f:Nat} {o:Oper} {listed:Array Bool} {fuel:Nat} {md:Region.Mode} (hr:Region.ready md ops listed=[i]) (ho:ops[i]? = some o) (hw:Region.wanted o (yielded ops a.tmps)=true) (x y z:Operand) (ts:Array TypeId) (hop:o.op=.call { callee:=.value (.func f),args:=#[x,y,z],argTypes:=ts }) (v u1 u2:Value) (hx0:a.eval x=v) (hx1:a.eval y=u1) (hx2:a.eval z=u2) (eg:∀ args w,(callFunc f args).run P w=.ok (.enter f args) w) (hc:Calls P f #[v,u1,u2] w fun e w'=>∃ u,e=.returned u/\S w'/\wpAnyH P md ops Q S fuel (listed.setIfInBounds i true) (a.put o.dst u) w'):wpAnyH P md ops Q S (fuel+1) listed a w:=by
 refine pG hr (by simp) ?_;intro j hj;obtain rfl:j=i:=by simpa using hj
 unfold wpOp;rw[ho];refine gT hw (.inl ?_);have he:(execOp a.eval o).run P w=.ok (.enter f #[v,u1,u2]) w:=by subst hx0 hx1 hx2;simp[execOp,hop,resolve,go_sem,invoke,eg]
 unfold Oper.wp;rw[he];refine mC hc ?_;rintro e w' ⟨u,rfl,h⟩;exact h
theorem tJ {S:World->Prop} {a:Act} {w w':World} {u:Value} {i:Nat} {o:Oper} {listed:Array Bool} {fuel:Nat} {md:Region.Mode} (hr:Region.ready md ops listed=[i]) (ho:ops[i]? = some o) (hw:Region.wanted o (yielded ops a.tmps)=true) (he:(execOp a.eval o).run P w=.ok (.value u) w') (hS:S w') (h:wpAnyH P md ops Q S fuel (listed.setIfInBounds i true) (a.put o.dst u) w'):wpAnyH P md ops Q S (fuel+1) listed a w:=by
 refine pG hr (by simp) ?_;intro j hj;obtain rfl:j=i:=by simpa using hj
 unfold wpOp;rw[ho];refine gT hw (.inl ?_);unfold Oper.wp;rw[he];exact ⟨hS,h⟩
theorem nV {S:World->Prop} {a:Act} {w w':World} {i:Nat} {o:Oper} {listed:Array Bool} {fuel:Nat} {md:Region.Mode} (hr:Region.ready md ops listed=[i]) (ho:ops[i]? = some o) (hw:Region.wanted o (yielded ops a.tmps)=true) (he:(execOp a.eval o).run P w=.ok .skip w') (hS:S w') (h:wpAnyH P md ops Q S fuel (listed.setIfInBounds i true) (a.put o.dst undef) w'):wpAnyH P md ops Q S (fuel+1) listed a w:=by
 refine pG hr (by simp) ?_;intro j hj;obtain rfl:j=i:=by simpa using hj
 unfold wpOp;rw[ho];refine gT hw (.inl ?_);unfold Oper.wp;rw[he];exact ⟨hS,h⟩
end
end Go.Proofs.YtidmmopnkjbjoaaGreatDoor
