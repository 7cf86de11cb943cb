/- Joined texts. -/
import Derived.Test.YtlejhfnjmkdobaaGreatDoorJtA
import Derived.Deep.RegionHeld3
set_option linter.unusedVariables false
set_option linter.unusedSimpArgs false
set_option maxRecDepth 10000
set_option maxHeartbeats 16000000
namespace Go.Proofs.YtlejhfnjmkdobaaGreatDoor
namespace BT
variable {P : Program} {ops : Array Oper} {Q : Exit → Act → World → Prop} {md : Region.Mode} {S : World → Prop} {oi : Oper} {fuel : Nat} {listed l' : Array Bool} {a a' : Act} {w : World}
theorem r (i:Nat) (v:Value) (hS:S w) (h:wpAnyH P md ops Q S fuel l' a' w) (hi:ops[i]? = some oi:=by exact rfl)
  (hl:listed.setIfInBounds i true=l':=by (try simp only[BZ.z]);exact rfl) (ha:a.put oi.dst v=a':=by (try simp only[BZ.z,Act.put,Nat.reduceAdd]);exact rfl)
  (hs:Region.noSelect ops=true:=by kernel_rfl) (hf:Region.free md ops listed i=true:=by kernel_rfl) (hr:(Region.ready md ops listed).contains i=true:=by kernel_rfl)
  (hQ:∀ c a w,Q (.panic c) (a.put oi.dst v) w->Q (.panic c) a w:=by exact fun _ _ _ h=>h)
  (hw:Region.wanted oi (yielded ops a.tmps)=true:=by rfl) (hy:∀ w,S w->(execOp a.eval oi).run P w=.ok (.value v) w:=by exact fun w' hS'=>by rfl):wpAnyH P md ops Q S (fuel+1) listed a w:=by
 subst hl ha;exact wpAnyH_take hi hs hf hr hQ (Or.inl ⟨hw,hy⟩) hS h
theorem s (i:Nat) (v:Value) (hS:S w) (h:wpAnyH P md ops Q S fuel l' a' w) (hi:ops[i]? = some oi:=by exact rfl)
  (hl:listed.setIfInBounds i true=l':=by (try simp only[BZ.z]);exact rfl) (ha:a.put oi.dst v=a':=by (try simp only[BZ.z,Act.put,Nat.reduceAdd]);exact rfl)
  (hs:Region.noSelect ops=true:=by kernel_rfl) (hf:Region.free md ops listed i=true:=by kernel_rfl) (hr:(Region.ready md ops listed).contains i=true:=by kernel_rfl)
  (hQ:∀ c a w,Q (.panic c) (a.put oi.dst v) w->Q (.panic c) a w:=by exact fun _ _ _ h=>h)
  (hw:Region.wanted oi (yielded ops a.tmps)=true:=by rfl) (hy:∀ w,S w->(execOp a.eval oi).run P w=.ok (.value v) w:=by intro w' hS';(try dsimp only at hS');go_split_ands;go_simp):wpAnyH P md ops Q S (fuel+1) listed a w:=by
 subst hl ha;exact wpAnyH_take hi hs hf hr hQ (Or.inl ⟨hw,hy⟩) hS h
theorem u (i:Nat) (hS:S w) (h:wpAnyH P md ops Q S fuel l' a' w) (hi:ops[i]? = some oi:=by exact rfl)
  (hl:listed.setIfInBounds i true=l':=by (try simp only[BZ.z]);exact rfl) (ha:a.put oi.dst undef=a':=by (try simp only[BZ.z,Act.put,Nat.reduceAdd]);exact rfl)
  (hs:Region.noSelect ops=true:=by kernel_rfl) (hf:Region.free md ops listed i=true:=by kernel_rfl) (hr:(Region.ready md ops listed).contains i=true:=by kernel_rfl)
  (hQ:∀ c a w,Q (.panic c) (a.put oi.dst undef) w->Q (.panic c) a w:=by exact fun _ _ _ h=>h)
  (hw:Region.wanted oi (yielded ops a.tmps)=false:=by rfl):wpAnyH P md ops Q S (fuel+1) listed a w:=by
 subst hl ha;exact wpAnyH_take hi hs hf hr hQ (Or.inr ⟨hw,rfl⟩) hS h
end BT
end Go.Proofs.YtlejhfnjmkdobaaGreatDoor
