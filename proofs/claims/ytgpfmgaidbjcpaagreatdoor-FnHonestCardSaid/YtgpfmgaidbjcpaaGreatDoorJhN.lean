/- Joined texts. -/
import Derived.Test.YtgpfmgaidbjcpaaGreatDoorJhM
import Derived.Test.YtgpfmgaidbjcpaaGreatDoorJhK
set_option linter.unusedVariables false
set_option linter.unusedSimpArgs false
set_option maxRecDepth 10000
set_option maxHeartbeats 16000000
namespace Go.Proofs.YtgpfmgaidbjcpaaGreatDoor
open ChangeShapes WideShapes ChangeAt RowKit
open Go.Proofs.Tryz
section
variable {P : Program} {ops : Array Oper} {Q : Exit → Act → World → Prop} {md : Region.Mode} {S : World → Prop} {n : Nat}
def ik (P:Program) (md:Region.Mode) (ops:Array Oper) (Q:Exit->Act->World->Prop) (S:World->Prop) (n:Nat):Nat->Array Bool->Act->World->Prop
 | 0,listed,a,w=>Region.ready md ops listed=[]/\Q .normal a w
 | fuel+1,listed,a,w=>
  (Region.ready md ops listed=[]->Q .normal a w)/\
  ∀ i ∈ Region.ready md ops listed,wpOp P ops Q i (fun a' w'=>(i<n->S w')/\ik P md ops Q S n fuel (listed.setIfInBounds i true) a' w') a w
theorem QX:∀ (fuel:Nat) (listed:Array Bool) (a:Act) (w:World),ik P md ops Q S n fuel listed a w->wpAny P md ops Q fuel listed a w
 | 0,_,_,_,h=>h
 | fuel+1,_,_,_,h=>⟨h.1,fun i hi=>It (fun a' w' h'=>QX fuel _ a' w' h'.2) (h.2 i hi)⟩
theorem acQ {i:Nat} {oi:Oper} {v:Value} (hi:ops[i]? = some oi) (hin:i<n) (Dp:∀ (j:Nat) (o:Oper),ops[j]? = some o->n<=j->∃ e ∈ o.after,Region.binds md e=true/\e.on=i) (hsel:∀ (j:Nat) (o:Oper) cs b,ops[j]? = some o->o.op ≠ .select cs b) (hQ:∀ c a w,Q (.panic c) (a.put oi.dst v) w->Q (.panic c) a w):∀ (fuel:Nat) (listed:Array Bool) (a:Act) (w:World),(∀ j oj,ops[j]? = some oj->j≠i->listed.getD j true=false->(∀ e ∈ oj.after,Region.binds md e=true->e.on≠i)->oi.apart ops oj=true)->i ∈ Region.ready md ops listed->YieldsIf P ops S oi v a->S w->ik P md ops Q S n fuel (listed.setIfInBounds i true) (a.put oi.dst v) w->ik P md ops Q S n (fuel+1) listed a w:=by
 intro fuel;induction fuel with
 | zero=>
  intro listed a w _ hr hy hS H;refine ⟨fun h=>(by rw[h] at hr;cases hr),fun j hj=>?_⟩;by_cases hji:j=i;·subst hji;exact hy.wpOp hi hS ⟨fun _=>hS,H⟩
  ·have:=wM hj hji;rw[H.1] at this;cases this
 | succ fuel ih=>
  intro listed a w hfree hr hy hS H;refine ⟨fun h=>(by rw[h] at hr;cases hr),fun j hj=>?_⟩;by_cases hji:j=i;·subst hji;exact hy.wpOp hi hS ⟨fun _=>hS,H⟩
  ·have h1:=H.2 j (wM hj hji);obtain ⟨hjun,oj,hoj,hall⟩:=za.1 hj;have hnot:∀ e ∈ oj.after,Region.binds md e=true->e.on≠i:=fun e he hb heq=>by
    have h1:=hall e he hb;have h0:=(za.1 hr).1;rw[heq] at h1;rcases tL i listed.size with h' | h';·simp[h'] at h0 h1;rw[h0] at h1;cases h1
    simp[zc h'] at h1
   have hjn:j<n:=by
    rcases tL j n with h' | h';·exact h'
    obtain ⟨e,he,hb,ho⟩:=Dp j oj hoj h';exact absurd ho (hnot e he hb)
   have h2:=wpOp_putIf hoj (hfree j oj hoj hji hjun hnot) (fun cs b=>hsel i oi cs b hi) (fun cs b=>hsel j oj cs b hoj) hQ hy h1;have hfree':∀ k ok,ops[k]? = some ok->k≠i->(listed.setIfInBounds j true).getD k true=false->
     (∀ e ∈ ok.after,Region.binds md e=true->e.on≠i)->oi.apart ops ok=true:=fun k ok hk hki hun hno=>by
    refine hfree k ok hk hki ?_ hno;by_cases hjk:j=k;·subst hjk;exact hjun
    rw[D4 true hjk] at hun;exact hun
   refine It (fun a' w' h3=>⟨h3.2.1,ih (listed.setIfInBounds j true) a' w' hfree' (wM hr (D8 hji)) h3.1 (h3.2.1 hjn) ?_⟩) h2;rw[Zd _ _ hji];exact h3.2.2
def vu (md:Region.Mode) (ops:Array Oper) (n i:Nat):Bool:=(List.range ops.size).all fun j=>decide (j<n) || match ops[j]? with
 | some o=>o.after.any fun e=>Region.binds md e && e.on == i
 | none=>true
theorem QY {i:Nat} (h:vu md ops n i=true) (j:Nat) (o:Oper) (hj:ops[j]? = some o) (hn:n<=j):∃ e ∈ o.after,Region.binds md e=true/\e.on=i:=by
 simp only[vu,oz,kY] at h;have h1:=h j (nz.1 hj).1;simp only[hj,nx,dp] at h1;rcases h1 with h1 | h1;·omega
 obtain ⟨e,he,hb⟩:=Array.any_eq_true'.1 h1;simp only[ca,tH] at hb;exact ⟨e,he,hb.1,hb.2⟩
theorem QZ {i:Nat} {oi:Oper} {v:Value} {fuel:Nat} {listed:Array Bool} {a:Act} {w:World} (hi:ops[i]? = some oi) (hin:i<n) (hl:vu md ops n i=true) (hs:Region.noSelect ops=true) (hf:Region.free md ops listed i=true) (hr:(Region.ready md ops listed).contains i=true) (hQ:∀ c a w,Q (.panic c) (a.put oi.dst v) w->Q (.panic c) a w) (hy:YieldsIf P ops S oi v a) (hS:S w) (h:ik P md ops Q S n fuel (listed.setIfInBounds i true) (a.put oi.dst v) w):ik P md ops Q S n (fuel+1) listed a w:=acQ hi hin (QY hl) (Ze hs) hQ fuel listed a w (Zf hi hf) (by simpa using hr) hy hS h
theorem zP {rs:List Nat} {fuel:Nat} {listed:Array Bool} {a:Act} {w:World} (hr:Region.ready md ops listed=rs) (hne:rs ≠ []) (h:∀ i ∈ rs,wpOp P ops Q i (fun a' w'=>(i<n->S w')/\ik P md ops Q S n fuel (listed.setIfInBounds i true) a' w') a w):ik P md ops Q S n (fuel+1) listed a w:=⟨fun h0=>absurd (hr ▸ h0) hne,hr ▸ h⟩
theorem Co {listed:Array Bool} {a:Act} {w:World} (hr:Region.ready md ops listed=[]) (h:Q .normal a w):∀ fuel,ik P md ops Q S n fuel listed a w
 | 0=>⟨hr,h⟩
 | _+1=>⟨fun _=>h,by rw[hr];simp⟩
theorem Cp {id:Nat} {a:Act} {w:World} (hm:P.follows .mixedOrders=true) (h:ik P .any ops Q S n ops.size (Array.replicate ops.size false) a w.drew):(Code.region id ops true).wp P Q a w:=wp_region_any hm (QX _ _ _ _ h)
theorem Fy {a:Act} {w:World} {i f:Nat} {o:Oper} {listed:Array Bool} {fuel:Nat} (hr:Region.ready md ops listed=[i]) (ho:ops[i]? = some o) (hw:Region.wanted o (yielded ops a.tmps)=true) (x:Operand) (ts:Array TypeId) (hop:o.op=.call { callee:=.value (.func f),args:=#[x],argTypes:=ts }) (v:Value) (hx:a.eval x=v) (eg:∀ args w,(callFunc f args).run P w=.ok (.enter f args) w) (hc:Calls P f #[v] w fun e w'=>∃ u,e=.returned u/\S w'/\ik P md ops Q S n fuel (listed.setIfInBounds i true) (a.put o.dst u) w'):ik P md ops Q S n (fuel+1) listed a w:=by
 refine zP hr (by simp) ?_;intro j hj;obtain rfl:j=i:=by simpa using hj
 unfold wpOp;rw[ho];refine iU hw (.inl ?_);have he:(execOp a.eval o).run P w=.ok (.enter f #[v]) w:=by subst hx;simp[execOp,hop,resolve,go_sem,invoke,eg]
 unfold Oper.wp;rw[he];refine kZ hc ?_;rintro e w' ⟨u,rfl,hS,h⟩;exact ⟨fun _=>hS,h⟩
theorem xt {a:Act} {w w':World} {i:Nat} {o:Oper} {listed:Array Bool} {fuel:Nat} (hr:Region.ready md ops listed=[i]) (ho:ops[i]? = some o) (hn:n<=i) (hw:Region.wanted o (yielded ops a.tmps)=true) (he:(execOp a.eval o).run P w=.ok .skip w') (h:ik P md ops Q S n fuel (listed.setIfInBounds i true) (a.put o.dst undef) w'):ik P md ops Q S n (fuel+1) listed a w:=by
 refine zP hr (by simp) ?_;intro j hj;obtain rfl:j=i:=by simpa using hj
 unfold wpOp;rw[ho];refine iU hw (.inl ?_);unfold Oper.wp;rw[he];exact ⟨fun h'=>absurd h' (by omega),h⟩
theorem Q2 {a:Act} {w w':World} {u:Value} {i:Nat} {o:Oper} {listed:Array Bool} {fuel:Nat} (hr:Region.ready md ops listed=[i]) (ho:ops[i]? = some o) (hn:n<=i) (hw:Region.wanted o (yielded ops a.tmps)=true) (he:(execOp a.eval o).run P w=.ok (.value u) w') (h:ik P md ops Q S n fuel (listed.setIfInBounds i true) (a.put o.dst u) w'):ik P md ops Q S n (fuel+1) listed a w:=by
 refine zP hr (by simp) ?_;intro j hj;obtain rfl:j=i:=by simpa using hj
 unfold wpOp;rw[ho];refine iU hw (.inl ?_);unfold Oper.wp;rw[he];exact ⟨fun h'=>absurd h' (by omega),h⟩
end
section
variable {P : Program} {ops : Array Oper} {Q : Exit → Act → World → Prop} {md : Region.Mode} {S : World → Prop} {oi : Oper} {n fuel : Nat} {listed l' : Array Bool} {a a' : Act} {w : World}
theorem mz (i:Nat) (v:Value) (hS:S w) (h:ik P md ops Q S n fuel l' a' w) (hi:ops[i]? = some oi:=by exact rfl) (hin:i<n:=by decide) (hb:vu md ops n i=true:=by kernel_rfl) (hl:listed.setIfInBounds i true=l':=by (try simp only[ar]);exact rfl) (ha:a.put oi.dst v=a':=by (try simp only[ar,Act.put,Nat.reduceAdd]);exact rfl) (hs:Region.noSelect ops=true:=by kernel_rfl) (hf:Region.free md ops listed i=true:=by kernel_rfl) (hr:(Region.ready md ops listed).contains i=true:=by kernel_rfl) (hQ:∀ c a w,Q (.panic c) (a.put oi.dst v) w->Q (.panic c) a w:=by exact fun _ _ _ h=>h) (hw:Region.wanted oi (yielded ops a.tmps)=true:=by rfl) (hy:∀ w,S w->(execOp a.eval oi).run P w=.ok (.value v) w:=by exact fun w' hS'=>by rfl):ik P md ops Q S n (fuel+1) listed a w:=by subst hl ha;exact QZ hi hin hb hs hf hr hQ (Or.inl ⟨hw,hy⟩) hS h
theorem jc (i:Nat) (v:Value) (hS:S w) (h:ik P md ops Q S n fuel l' a' w) (hi:ops[i]? = some oi:=by exact rfl) (hin:i<n:=by decide) (hb:vu md ops n i=true:=by kernel_rfl) (hl:listed.setIfInBounds i true=l':=by (try simp only[ar]);exact rfl) (ha:a.put oi.dst v=a':=by (try simp only[ar,Act.put,Nat.reduceAdd]);exact rfl) (hs:Region.noSelect ops=true:=by kernel_rfl) (hf:Region.free md ops listed i=true:=by kernel_rfl) (hr:(Region.ready md ops listed).contains i=true:=by kernel_rfl) (hQ:∀ c a w,Q (.panic c) (a.put oi.dst v) w->Q (.panic c) a w:=by exact fun _ _ _ h=>h) (hw:Region.wanted oi (yielded ops a.tmps)=true:=by rfl) (hy:∀ w,S w->(execOp a.eval oi).run P w=.ok (.value v) w:=by intro w' hS';(try dsimp only at hS');go_split_ands;go_simp):ik P md ops Q S n (fuel+1) listed a w:=by subst hl ha;exact QZ hi hin hb hs hf hr hQ (Or.inl ⟨hw,hy⟩) hS h
end
section
variable {lo hi lo' hi' g : Nat} {w W W' w' : World}
def zQ (b m:Nat) (W:World):Prop:=∀ j,j<m->(∃ v,W.cell? ⟨b,j,none⟩=some v)/\W.frozen? ⟨b,j,none⟩=false
theorem acR {b m:Nat} (h:zQ b m W) (p:Addr) (v:Value):zQ b m (W.setCell p v):=by
 intro j hj;obtain ⟨⟨u,hu⟩,hf⟩:=h j hj;refine ⟨?_,by rw[iu];exact hf⟩;by_cases e:p=⟨b,j,none⟩
 ·subst e;exact ⟨v,ov _ _ _ hu⟩
 exact ⟨u,by rw[gH _ _ _ _ e];exact hu⟩
theorem acS {b j:Nat} {v:Value} (h:W.cell? ⟨b,j,none⟩=some v):b<W.heap.size:=by
 rcases tL b W.heap.size with h1 | h1;·exact h1
 unfold World.cell? at h;rw[zc h1] at h;simp at h
structure cM (lo hi:Nat) (w w':World):Prop where
 os:w'.os=w.os
 tape:w'.tape=w.tape
 output:w'.output=w.output
 size:w.heap.size<=w'.heap.size
 block:∀ k,k<w.heap.size->k<lo\/hi<=k->w'.heap[k]? = w.heap[k]?
 wr:∀ b m,zQ b m w->zQ b m w'
theorem cM.refl (lo hi:Nat) (w:World):cM lo hi w w:=⟨rfl,rfl,rfl,av _,fun _ _ _=>rfl,fun _ _ h=>h⟩
theorem cM.trans (h:cM lo hi w W) (k:cM lo hi W W'):cM lo hi w W':=⟨k.os.trans h.os,k.tape.trans h.tape,k.output.trans h.output,br h.size k.size,fun i hi hx=>(k.block i (cv hi h.size) hx).trans (h.block i hi hx),fun b m hw=>k.wr b m (h.wr b m hw)⟩
theorem cM.mono (h:cM lo hi w W) (h1:lo'<=lo) (h2:hi<=hi'):cM lo' hi' w W:=⟨h.os,h.tape,h.output,h.size,fun k hk hx=>h.block k hk (by omega),h.wr⟩
theorem acT {b m:Nat} (h:zQ b m w) (hb:ah w W):zQ b m W:=by intro j hj;obtain ⟨⟨v,hv⟩,hf⟩:=h j hj;have hlt:=acS hv;exact ⟨⟨v,(hb.cell (p:=⟨b,j,none⟩) hlt).trans hv⟩,(hb.frozen (p:=⟨b,j,none⟩) hlt).trans hf⟩
theorem cM.Az (h:ah w W):cM lo hi w W:=⟨h.os,h.tape,h.output,h.size,fun k hk _=>h.block k hk,fun _ _ hw=>acT hw h⟩
theorem cM.then (h:cM lo hi w W) (hb:ah W W'):cM lo hi w W':=h.trans (cM.Az hb)
theorem cM.set (h:cM lo hi w W) {p:Addr} (h1:lo<=p.block) (h2:p.block<hi) (v:Value):cM lo hi w (W.setCell p v):=h.trans ⟨rfl,rfl,rfl,by simp[World.setCell],fun k hk hx=>Ij _ _ _ _ (by omega),fun b m hw=>acR hw p v⟩
theorem cM.below {b:Nat} (h:cM lo hi w W) (hb:b<=lo) (hs:b<=w.heap.size):Below b w W:=⟨h.os,h.tape,h.output,h.size,fun k hk=>h.block k (by omega) (by omega)⟩
theorem Cq {B:Nat} {vs:List Value} (h:az B vs w) (hb:cM lo hi w W) (hx:B<lo\/hi<=B):az B vs W:=by
 have e:=hb.block B h.lt hx;refine ⟨fun j hj=>?_,fun j hj=>?_,cv h.lt hb.size⟩
 ·rw[mv (a:=⟨B,j,none⟩) e];exact h.cell j hj
 rw[yY (a:=⟨B,j,none⟩) e];exact h.free j hj
def kj (lo hi:Nat) (W:World) (a:Option Addr) (zs:List Int):Prop:=zs=[]\/∃ g,a=some ⟨g,0,none⟩/\lo<=g/\g<hi/\az g (cR zs) W
variable {a : Option Addr} {zs : List Int}
theorem kj.row (h:kj lo hi W a zs):aK W a zs:=by
 rcases h with h | ⟨g,rfl,_,_,hb⟩;·exact Or.inl h
 exact wU hb
theorem kj.below (h:kj lo hi W a zs) (hb:ah W W'):kj lo hi W' a zs:=h.imp id fun ⟨g,e,h1,h2,hk⟩=>⟨g,e,h1,h2,hk.below hb⟩
theorem kj.mL (h:kj lo hi W a zs) (hb:cM lo' hi' W W') (hx:hi<=lo'\/hi'<=lo):kj lo hi W' a zs:=h.imp id fun ⟨g,e,h1,h2,hk⟩=>⟨g,e,h1,h2,Cq hk hb (by omega)⟩
theorem kj.set (h:kj lo hi W a zs) {B:Nat} (hB:B<lo) (j:Nat) (v:Value):kj lo hi (W.setCell ⟨B,j,none⟩ v) a zs:=h.imp id fun ⟨g,e,h1,h2,hk⟩=>⟨g,e,h1,h2,hk.aP (by omega) j v⟩
theorem acU (h:aR lo W a zs):kj lo W.heap.size W a zs:=h.imp id fun ⟨g,e,h1,hk⟩=>⟨g,e,h1,hk.lt,hk⟩
theorem kj.mono (h:kj lo hi W a zs) (h1:lo'<=lo) (h2:hi<=hi'):kj lo' hi' W a zs:=h.imp id fun ⟨g,e,l1,l2,hk⟩=>⟨g,e,by omega,by omega,hk⟩
theorem acV (a:Option Addr) (c:Nat) (zs:List Int) (w:World) (hn:zs.length<=1048576) (hR:aK w a zs):Calls prog 93 #[.slice a zs.length c] w fun e w'=>∃ a' c',e=.returned (.slice a' zs.length c')/\aR w.heap.size w' a' zs/\ah w w':=by
 have qn:∀ (w:World) (a:Option Addr) (n c n' c':Nat),(binOp .eql 29 (.slice a n c) (.slice none n' c')).run prog w=.ok (.bool a.isNone) w:=fun w a n c n' c'=>YW w _ _ a n c n' c' underlying29;cases a with
 | none=>
  have h0:zs=[]:=by
   rcases hR with h | ⟨b,off,h,_⟩;·exact h
   cases h
  subst h0;go_enter func93,ntmps93;go_wp2;go_ret;exact ⟨none,0,rfl,Or.inl rfl,aQ _ _⟩
 | some p=>
  have b0:=lP w (av _);have l0:=aA w (.cells #[] 3);have r0:=hR.below l0;clear hR;go_enter func93,ntmps93;go_wp2_with (at_builtin;refine tQ rfl (.tmp 5) (.tmp 6) rfl b0 _ _ zs (by rfl) (by rfl) r0 (by omega) l0.size ?_;intro a1 c1 w1 b1 l1);go_ret;exact ⟨a1,c1,by simp,by simpa using b1.own,l0.trans l1⟩
end
section
variable {g hi : Nat} {ds : List ai} {P : Nat → JH} {L : List Value} {w W W' : World} {d : ai} {s : aI}
structure iA (lo m1 m2 hi:Nat) (s:aI) (z1 z2 z3:List Int) (W:World):Prop where
 p1:kj lo m1 W s.a1 z1
 p2:kj m1 m2 W s.a2 z2
 p3:kj m2 hi W s.a3 z3
 le:lo<=m1/\m1<=m2/\m2<=hi
variable {lo m1 m2 lo' hi' : Nat} {z1 z2 z3 : List Int}
theorem iA.below (h:iA lo m1 m2 hi s z1 z2 z3 W) (hb:ah W W'):iA lo m1 m2 hi s z1 z2 z3 W':=⟨h.p1.below hb,h.p2.below hb,h.p3.below hb,h.le⟩
theorem iA.mL (h:iA lo m1 m2 hi s z1 z2 z3 W) (hb:cM lo' hi' W W') (hx:hi<=lo'\/hi'<=lo):iA lo m1 m2 hi s z1 z2 z3 W':=⟨h.p1.mL hb (by have:=h.le;omega),h.p2.mL hb (by have:=h.le;omega),h.p3.mL hb (by have:=h.le;omega),h.le⟩
theorem iA.lists (h:iA lo m1 m2 hi s d.pg d.po d.fr W):cJ W d s:=⟨h.p1.row,h.p2.row,h.p3.row⟩
abbrev ri (d:ai) (s:aI):Obj:=.cells #[.int .i64 d.ino,.int .i64 d.cl,.int .i64 d.un,.string d.rc,.slice s.a1 d.pg.length s.c1,.string d.aU,.slice s.a2 d.po.length s.c2,.slice s.a3 d.fr.length s.c3] 31
end
section
variable {w W W' : World} {d : ai} {s : aI} {x4 x6 x7 : Value} {b : Nat}
abbrev Cr:Obj:=.cells #[.int .i64 0,.int .i64 0,.int .i64 0,.string ⟨#[]⟩,.slice none 0 0,.string ⟨#[]⟩,.slice none 0 0,.slice none 0 0] 31
structure fK (w:World) (d:ai) (x4 x6 x7:Value) (W:World):Prop where
 box:az w.heap.size [.int .i64 d.ino,.int .i64 d.cl,.int .i64 d.un,.string d.rc,x4,.string d.aU,x6,x7] W
 res:az (w.heap.size+1) EF W
 au:ah w W
theorem fK.below (h:fK w d x4 x6 x7 W) (hb:ah W W'):fK w d x4 x6 x7 W':=⟨h.box.below hb,h.res.below hb,h.au.trans (hb.mono h.au.size)⟩
theorem fK.drew (h:fK w d x4 x6 x7 W):fK w d x4 x6 x7 W.drew:=h.below ((aQ _ _).drew)
theorem fK.lt (h:fK w d x4 x6 x7 W):w.heap.size+2<=W.heap.size:=h.res.lt
theorem fK.akd (h:fK w d x4 x6 x7 W) (v:Value):fK w d v x6 x7 (W.setCell ⟨w.heap.size,4,none⟩ v):=⟨h.box.set 4 v,h.res.aP (by omega) 4 v,h.au.setCell (p:=⟨w.heap.size,4,none⟩) (av _) v⟩
theorem fK.alP (h:fK w d x4 x6 x7 W) (v:Value):fK w d x4 v x7 (W.setCell ⟨w.heap.size,6,none⟩ v):=⟨h.box.set 6 v,h.res.aP (by omega) 6 v,h.au.setCell (p:=⟨w.heap.size,6,none⟩) (av _) v⟩
theorem fK.ak3 (h:fK w d x4 x6 x7 W) (v:Value):fK w d x4 x6 v (W.setCell ⟨w.heap.size,7,none⟩ v):=⟨h.box.set 7 v,h.res.aP (by omega) 7 v,h.au.setCell (p:=⟨w.heap.size,7,none⟩) (av _) v⟩
theorem fK.Wn (h:fK w d x4 x6 x7 W):fK w d x4 x6 x7 (W.setCell ⟨w.heap.size,3,none⟩ (.string d.rc)):=⟨h.box.set 3 (.string d.rc),h.res.aP (by omega) 3 _,h.au.setCell (p:=⟨w.heap.size,3,none⟩) (av _) _⟩
theorem fK.aj3 (h:fK w d x4 x6 x7 W):fK w d x4 x6 x7 (W.setCell ⟨w.heap.size,5,none⟩ (.string d.aU)):=⟨h.box.set 5 (.string d.aU),h.res.aP (by omega) 5 _,h.au.setCell (p:=⟨w.heap.size,5,none⟩) (av _) _⟩
theorem acW (w:World) (d:ai) (s:aI):fK w d (.slice s.a1 d.pg.length s.c1) (.slice s.a2 d.po.length s.c2) (.slice s.a3 d.fr.length s.c3) ((w.alloc (ri d s)).alloc Cr):=⟨(aY (jG d s) w 31).alloc _,dR EF _ 31 (by simp),((aQ _ _).alloc (av _) _).alloc (by simp) _⟩
def Q3 (d:ai) (w:World) (e:Ending) (w':World):Prop:=∃ s' m1 m2 hi,e=.returned (bL d s')/\iA w.heap.size m1 m2 hi s' d.pg d.po d.fr w'/\hi<=w'.heap.size/\ah w w'
theorem acX {a1 a2 a3:Option Addr} {c1 c2 c3 m1 m2 hi:Nat} (h:fK w d (.slice a1 d.pg.length c1) (.slice a2 d.po.length c2) (.slice a3 d.fr.length c3) W) (hl:iA (w.heap.size+2) m1 m2 hi ⟨a1,c1,a2,c2,a3,c3⟩ d.pg d.po d.fr W) (hh:hi<=W.heap.size) (W':World) (hW:(((((((W.setCell ⟨w.heap.size+1,0,none⟩ (aa d.ino)).setCell ⟨w.heap.size+1,1,none⟩ (aa d.cl)).setCell ⟨w.heap.size+1,2,none⟩ (aa d.un)).setCell ⟨w.heap.size+1,3,none⟩ (.string d.rc)).setCell ⟨w.heap.size+1,4,none⟩ (.slice a1 d.pg.length c1)).setCell ⟨w.heap.size+1,5,none⟩ (.string d.aU)).setCell ⟨w.heap.size+1,6,none⟩ (.slice a2 d.po.length c2)).setCell ⟨w.heap.size+1,7,none⟩ (.slice a3 d.fr.length c3)=W'):az (w.heap.size+1) (jG d ⟨a1,c1,a2,c2,a3,c3⟩) W'/\Q3 d w (.returned (bL d ⟨a1,c1,a2,c2,a3,c3⟩)) W':=by
 have q:=PG (y0:=aa d.ino) (y1:=aa d.cl) (y2:=aa d.un) (y3:=.string d.rc) (y4:=.slice a1 d.pg.length c1) (y5:=.string d.aU) (y6:=.slice a2 d.po.length c2) (y7:=.slice a3 d.fr.length c3) h.res;have hlt:=h.res.lt;have t:cM (w.heap.size+1) (w.heap.size+2) W W':=by rw[<- hW];exact ((((((((cM.refl _ _ W).set (p:=⟨w.heap.size+1,0,none⟩) (av _) (cm _) _).set (p:=⟨w.heap.size+1,1,none⟩) (av _) (cm _) _).set (p:=⟨w.heap.size+1,2,none⟩) (av _) (cm _) _).set (p:=⟨w.heap.size+1,3,none⟩) (av _) (cm _) _).set (p:=⟨w.heap.size+1,4,none⟩) (av _) (cm _) _).set (p:=⟨w.heap.size+1,5,none⟩) (av _) (cm _) _).set (p:=⟨w.heap.size+1,6,none⟩) (av _) (cm _) _).set (p:=⟨w.heap.size+1,7,none⟩) (av _) (cm _) _
 rw[hW] at q;have hl':=hl.mL t (Or.inr (av _));exact ⟨q,_,m1,m2,hi,rfl,⟨hl'.p1.mono (by omega) (av _),hl'.p2,hl'.p3,by have:=hl'.le;omega⟩,br hh t.size,h.au.trans (t.below (by omega) (by omega))⟩
theorem Q4 (d:ai) (s:aI) (w:World) (hp:d.pg.length<=1048576) (ho:d.po.length<=1048576) (hf:d.fr.length<=1048576) (hr:d.rc.size<=281474976710656) (hs:d.aU.size<=281474976710656) (hR:cJ w d s):Calls prog 44 #[bL d s] w (Q3 d w):=by
 have t0:=(acW w d s).drew;have Ma:Hid (∀ W,ah w W->cJ W d s):=fun W hb=>hR.below hb;have HC:Hid (∀ (x:ByteArray) W,x.size<=281474976710656->fK w d (.slice s.a1 d.pg.length s.c1) (.slice s.a2 d.po.length s.c2) (.slice s.a3 d.fr.length s.c3) W->Calls prog 21 #[.string x] W fun e w'=>e=.returned (.string x)/\fK w d (.slice s.a1 d.pg.length s.c1) (.slice s.a2 d.po.length s.c2) (.slice s.a3 d.fr.length s.c3) w'):=fun x W hx hc=>(ze x W hx).mono fun _ _ ⟨he,hb⟩=>⟨he,hc.below hb⟩;clear hR;go_enter func44,ntmps44;go_wp2;obtain ⟨W0,hW0⟩:∃ W0,(w.alloc (ri d s)).alloc Cr=W0:=⟨_,rfl⟩;rw[hW0] at t0 ⊢;have HS:Hid (∀ {x4 x6 x7:Value} W,fK w d x4 x6 x7 W->ad W w.heap.size 3 (.string d.rc)/\ad W w.heap.size 5 (.string d.aU)):=fun W h=>⟨h.box.cell 3 (by simp),h.box.cell 5 (by simp)⟩;have s0:=HS.out _ t0;go_region_held3 (fun W=>ad W w.heap.size 3 (.string d.rc)/\ad W w.heap.size 5 (.string d.aU)) (assumption) ((first
  | (go_at_call 21;have t1':=t1;refine (HC.out _ _ (by omega) t1).mono ?_;rintro e w2 ⟨rfl,t2⟩;have s2:=HS.out _ t2;have f3:=t2.box.free 3 (by simp);have f5:=t2.box.free 5 (by simp);have t3:=t2.Wn.aj3;have s2a:=HS.out _ t2.Wn;have XS:=HS.out _ t3)
  | (go_at_call 21;refine (HC.out _ _ (by omega) t0).mono ?_;rintro e w1 ⟨rfl,t1⟩;have s1:=HS.out _ t1)))
 obtain ⟨W3,hW3⟩:∃ W3,(w2.setCell ⟨w.heap.size,3,none⟩ (.string d.rc)).setCell ⟨w.heap.size,5,none⟩ (.string d.aU)=W3:=⟨_,rfl⟩;rw[hW3] at t3 ⊢;clear XS s2a s2 f3 f5 t2 t1' s1 t1 s0 t0 hW0 hW3 HC HS;have HC:Hid (∀ (a:Option Addr) (c:Nat) (zs:List Int) W,zs.length<=1048576->aK W a zs->fK w d (.slice s.a1 d.pg.length s.c1) (.slice s.a2 d.po.length s.c2) (.slice s.a3 d.fr.length s.c3) W->Calls prog 93 #[.slice a zs.length c] W fun e w'=>∃ a' c',e=.returned (.slice a' zs.length c')/\kj W.heap.size w'.heap.size w' a' zs/\ah W w'/\fK w d (.slice s.a1 d.pg.length s.c1) (.slice s.a2 d.po.length s.c2) (.slice s.a3 d.fr.length s.c3) w'):=fun a c zs W hn hr hc=>(acV a c zs W hn hr).mono fun _ _ ⟨a',c',he,ho,hb⟩=>⟨a',c',he,acU ho,hb,hc.below hb⟩;have HS:Hid (∀ W,fK w d (.slice s.a1 d.pg.length s.c1) (.slice s.a2 d.po.length s.c2) (.slice s.a3 d.fr.length s.c3) W->ad W w.heap.size 4 (.slice s.a1 d.pg.length s.c1)/\ad W w.heap.size 6 (.slice s.a2 d.po.length s.c2)/\ad W w.heap.size 7 (.slice s.a3 d.fr.length s.c3)):=fun W h=>⟨h.box.cell 4 (by simp),h.box.cell 6 (by simp),h.box.cell 7 (by simp)⟩;have t4:=t3.drew;have z4:=t4.lt;have s4:=HS.out _ t4;go_wp2;refine Cp (n:=10) (S:=fun W=>ad W w.heap.size 4 (.slice s.a1 d.pg.length s.c1)/\ad W w.heap.size 6 (.slice s.a2 d.po.length s.c2)/\ad W w.heap.size 7 (.slice s.a3 d.fr.length s.c3)) (by kernel_rfl) ?_;refine mz 0 (ao w.heap.size 4) s4 ?_;refine jc 1 (.slice s.a1 d.pg.length s.c1) s4 ?_;refine mz 3 (ao w.heap.size 6) s4 ?_;refine jc 4 (.slice s.a2 d.po.length s.c2) s4 ?_;refine mz 6 (ao w.heap.size 7) s4 ?_;refine jc 7 (.slice s.a3 d.fr.length s.c3) s4 ?_;refine Fy (i:=2) (by kernel_rfl) rfl (by rfl) (.tmp 12) _ rfl (.slice s.a1 d.pg.length s.c1) (by rfl) (bo func93 (by kernel_rfl) rfl) ((HC.out s.a1 s.c1 d.pg _ hp (Ma.out _ t4.au).r1 t4).mono ?_);rintro e w5 ⟨a1,c1,rfl,o1,b1,t5⟩;have s5:=HS.out _ t5;refine ⟨_,rfl,s5,?_⟩;simp only[ar,Act.put,Nat.reduceAdd];refine mz 9 (ao w.heap.size 4) s5 ?_;refine Fy (i:=5) (by kernel_rfl) rfl (by rfl) (.tmp 15) _ rfl (.slice s.a2 d.po.length s.c2) (by rfl) (bo func93 (by kernel_rfl) rfl) ((HC.out s.a2 s.c2 d.po _ ho (Ma.out _ t5.au).r2 t5).mono ?_);rintro e w6 ⟨a2,c2,rfl,o2,b2,t6⟩;have s6:=HS.out _ t6;have o12:=o1.below b2;refine ⟨_,rfl,s6,?_⟩;simp only[ar,Act.put,Nat.reduceAdd]
 refine Fy (i:=8) (by kernel_rfl) rfl (by rfl) (.tmp 18) _ rfl (.slice s.a3 d.fr.length s.c3) (by rfl) (bo func93 (by kernel_rfl) rfl) ((HC.out s.a3 s.c3 d.fr _ hf (Ma.out _ t6.au).r3 t6).mono ?_);rintro e w7 ⟨a3,c3,rfl,o3,b3,t7⟩;have s7:=HS.out _ t7;have g1:=o12.below b3;have g2:=o2.below b3;refine ⟨_,rfl,s7,?_⟩;simp only[ar,Act.put,Nat.reduceAdd];have y4:=t7.box.free 4 (by simp);have y6:=t7.box.free 6 (by simp);have y7:=t7.box.free 7 (by simp);obtain ⟨p4,p6,p7⟩:=s7;refine xt (i:=10) (w':=(w7.setCell ⟨w.heap.size,4,none⟩ (.slice a1 d.pg.length c1))) (by kernel_rfl) rfl (by decide) (by rfl) ?_ ?_;·go_simp
 simp only[ar,Act.put,Nat.reduceAdd];refine Q2 (i:=11) (w':=(w7.setCell ⟨w.heap.size,4,none⟩ (.slice a1 d.pg.length c1))) (u:=ao w.heap.size 6) (by kernel_rfl) rfl (by decide) (by rfl) (by rfl) ?_;simp only[ar,Act.put,Nat.reduceAdd];refine xt (i:=12) (w':=((w7.setCell ⟨w.heap.size,4,none⟩ (.slice a1 d.pg.length c1)).setCell ⟨w.heap.size,6,none⟩ (.slice a2 d.po.length c2))) (by kernel_rfl) rfl (by decide) (by rfl) ?_ ?_;·go_simp
 simp only[ar,Act.put,Nat.reduceAdd];refine Q2 (i:=13) (w':=((w7.setCell ⟨w.heap.size,4,none⟩ (.slice a1 d.pg.length c1)).setCell ⟨w.heap.size,6,none⟩ (.slice a2 d.po.length c2))) (u:=ao w.heap.size 7) (by kernel_rfl) rfl (by decide) (by rfl) (by rfl) ?_;simp only[ar,Act.put,Nat.reduceAdd];refine xt (i:=14) (w':=(((w7.setCell ⟨w.heap.size,4,none⟩ (.slice a1 d.pg.length c1)).setCell ⟨w.heap.size,6,none⟩ (.slice a2 d.po.length c2)).setCell ⟨w.heap.size,7,none⟩ (.slice a3 d.fr.length c3))) (by kernel_rfl) rfl (by decide) (by rfl) ?_ ?_;·go_simp
 simp only[ar,Act.put,Nat.reduceAdd];refine Co (by kernel_rfl) ?_ _;have u:=((t7.akd (.slice a1 d.pg.length c1)).alP (.slice a2 d.po.length c2)).ak3 (.slice a3 d.fr.length c3);have x1:=((g1.set (B:=w.heap.size) (by omega) 4 (.slice a1 d.pg.length c1)).set (B:=w.heap.size) (by omega) 6 (.slice a2 d.po.length c2)).set (B:=w.heap.size) (by omega) 7 (.slice a3 d.fr.length c3);have x2:=((g2.set (B:=w.heap.size) (by have:=t5.lt;omega) 4 (.slice a1 d.pg.length c1)).set (B:=w.heap.size) (by have:=t5.lt;omega) 6 (.slice a2 d.po.length c2)).set (B:=w.heap.size) (by have:=t5.lt;omega) 7 (.slice a3 d.fr.length c3);have x3:=((o3.set (B:=w.heap.size) (by have:=t6.lt;omega) 4 (.slice a1 d.pg.length c1)).set (B:=w.heap.size) (by have:=t6.lt;omega) 6 (.slice a2 d.po.length c2)).set (B:=w.heap.size) (by have:=t6.lt;omega) 7 (.slice a3 d.fr.length c3);have hh:((((w7.setCell ⟨w.heap.size,4,none⟩ (.slice a1 d.pg.length c1)).setCell ⟨w.heap.size,6,none⟩ (.slice a2 d.po.length c2)).setCell ⟨w.heap.size,7,none⟩ (.slice a3 d.fr.length c3))).heap.size=w7.heap.size:=by simp
 obtain ⟨W7,iL⟩:∃ W7,(((w7.setCell ⟨w.heap.size,4,none⟩ (.slice a1 d.pg.length c1)).setCell ⟨w.heap.size,6,none⟩ (.slice a2 d.po.length c2)).setCell ⟨w.heap.size,7,none⟩ (.slice a3 d.fr.length c3))=W7:=⟨_,rfl⟩;rw[iL] at u x1 x2 x3 hh ⊢;have e0:=u.box.cell 0 (by simp);have e1:=u.box.cell 1 (by simp);have e2:=u.box.cell 2 (by simp);have e3:=u.box.cell 3 (by simp);have e4:=u.box.cell 4 (by simp);have e5:=u.box.cell 5 (by simp);have e6:=u.box.cell 6 (by simp);have e7:=u.box.cell 7 (by simp);have j0:=u.res.cell 0 (by simp);have j1:=u.res.cell 1 (by simp);have j2:=u.res.cell 2 (by simp);have j3:=u.res.cell 3 (by simp);have j4:=u.res.cell 4 (by simp);have j5:=u.res.cell 5 (by simp);have j6:=u.res.cell 6 (by simp);have j7:=u.res.cell 7 (by simp);have n0:=u.res.free 0 (by simp);have n1:=u.res.free 1 (by simp);have n2:=u.res.free 2 (by simp);have n3:=u.res.free 3 (by simp);have n4:=u.res.free 4 (by simp);have n5:=u.res.free 5 (by simp);have n6:=u.res.free 6 (by simp);have n7:=u.res.free 7 (by simp);simp only[dK,eT] at e0 e1 e2 e3 e4 e5 e6 e7 j0 j1 j2 j3 j4 j5 j6 j7;have AX:=t5.lt;have akL:=b2.size;have akY:=b3.size;obtain ⟨q,ha⟩:=acX (m1:=w5.heap.size) (m2:=w6.heap.size) (hi:=w7.heap.size) u ⟨x1.mono z4 (av _),x2,x3,AX,akL,akY⟩ (by omega) _ rfl;have v0:=q.cell 0 (by simp);have v1:=q.cell 1 (by simp);have v2:=q.cell 2 (by simp);have v3:=q.cell 3 (by simp);have v4:=q.cell 4 (by simp);have v5:=q.cell 5 (by simp);have v6:=q.cell 6 (by simp);have v7:=q.cell 7 (by simp);simp only[dK,eT] at v0 v1 v2 v3 v4 v5 v6 v7;have HV:Hid (_/\_/\_/\_/\_/\_/\_/\_):=⟨v0,v1,v2,v3,v4,v5,v6,v7⟩;clear v0 v1 v2 v3 v4 v5 v6 v7 iL hh q x1 x2 x3 u;go_wp2;obtain ⟨v0,v1,v2,v3,v4,v5,v6,v7⟩:=HV.out;exact bF (v:=bL d ⟨a1,c1,a2,c2,a3,c3⟩) (by simp[results,results44,go_sem,v0,v1,v2,v3,v4,v5,v6,v7]) rfl ha
end
theorem W0b.below {w W W':World} {row:Option Nat} (h:ah w W) (hg:W.grownBy W' row) (hr:∀ g,row=some g->w.heap.size<=g):ah w W':=mw h hg hr h.size
def oN:List ai->(Nat->aI)->List Value
 | [],_=>[]
 | d :: r,ss=>jG d (ss 0)++oN r (fun j=>ss (j+1))
theorem Ct:∀ (ds:List ai) (ss:Nat->aI),(oN ds ss).length=ds.length*8
 | [],_=>rfl
 | d :: r,ss=>by simp[oN,Ct r];omega
theorem JJ:∀ (ds:List ai) (ss:Nat->aI) (j:Nat),j<ds.length->oM (oN ds ss) (j*8) (aJ ds j) (ss j)
 | [],_,j,h=>by simp at h
 | d :: r,ss,0,_=>⟨rfl,rfl,rfl,rfl,rfl,rfl,rfl,rfl⟩
 | d :: r,ss,j+1,h=>by
  have ih:=JJ r (fun j=>ss (j+1)) j (by simpa using h);unfold oM at ih ⊢;have e:∀ x,(oN (d :: r) ss)[(j+1)*8+x]? = (oN r (fun j=>ss (j+1)))[j*8+x]?:=fun x=>by rw[oN,nF (by simp;omega)];congr 1;simp;omega
  have e0:=e 0;simp only[sr] at e0;rw[e0,e 1,e 2,e 3,e 4,e 5,e 6,e 7];exact ih
theorem Q5:∀ (ds:List ai) (ss:Nat->aI),∀ u ∈ oN ds ss,u.oneCell'=true
 | [],_,u,h=>by cases h
 | d :: r,ss,u,h=>by
  rw[oN,mr] at h;rcases h with h | h
  ·simp at h;rcases h with rfl | rfl | rfl | rfl | rfl | rfl | rfl | rfl <;> rfl
  ·exact Q5 r _ u h
theorem acY {W:World} {b off:Nat} {ds:List ai} {ss:Nat->aI} (hc:∀ j,j<ds.length->kh W b (off+j*8) (aJ ds j) (ss j)) (i:Nat) (u:Value) (h:(oN ds ss)[i]? = some u):W.cell? ⟨b,off+i,none⟩=some u:=by
 have hi:i<ds.length*8:=by have:=(qI.1 h).1;rwa [Ct] at this
 have hj:i / 8<ds.length:=by omega
 obtain ⟨f0,f1,f2,f3,f4,f5,f6,f7⟩:=JJ ds ss (i / 8) hj;obtain ⟨c0,c1,c2,c3,c4,c5,c6,c7⟩:=hc (i / 8) hj;rcases (show i=i / 8*8\/i=i / 8*8+1\/i=i / 8*8+2\/i=i / 8*8+3\/i=i / 8*8+4\/i=i / 8*8+5\/i=i / 8*8+6\/i=i / 8*8+7 by omega) with e | e | e | e | e | e | e | e
 ·rw[e,f0] at h;rw[e,<- h];exact c0
 ·rw[e,f1] at h;rw[e,<- h];exact c1
 ·rw[e,f2] at h;rw[e,<- h];exact c2
 ·rw[e,f3] at h;rw[e,<- h];exact c3
 ·rw[e,f4] at h;rw[e,<- h];exact c4
 ·rw[e,f5] at h;rw[e,<- h];exact c5
 ·rw[e,f6] at h;rw[e,<- h];exact c6
 rw[e,f7] at h;rw[e,<- h];exact c7
theorem JK {W:World} {base n g cap:Nat} {e:TypeId} {vs:List Value} (h:W.ownsRow base e 8 (aH g n cap) n vs) (hl:vs.length=n*8):base<=g/\az g vs W:=by
 rcases h.2 with ⟨h0,_⟩ | ⟨g',cap',cur,hv,hg,hc,hle,hm,hs,ht⟩;·cases h0
 obtain ⟨rfl,rfl⟩:g=g'/\cap=cap':=by simpa using hv
 refine ⟨hg,fun j hj=>?_,fun j hj=>?_,(nz.1 hc).1⟩
 ·have hcell:W.cell? ⟨g,j,none⟩=cur[j]?:=by
   unfold World.cell?;rw[hc];simp
  have e1:(cur.toList.take (n*8))[j]? = vs[j]?:=by rw[ht]
  rw[yV (by omega)] at e1;rw[hcell,<- DS,e1,gM hj]
 unfold World.frozen?;rw[hc];simp
theorem Fz {W:World} {base n g cap:Nat} {e:TypeId} {vs:List Value} (h:W.ownsRow base e 8 (aH g n cap) n vs):n<=cap/\cap<=maxLen:=by
 rcases h.2 with ⟨h0,_⟩ | ⟨g',cap',cur,hv,hg,hc,hle,hm,hs,ht⟩;·cases h0
 obtain ⟨rfl,rfl⟩:g=g'/\cap=cap':=by simpa using hv
 exact ⟨hle,hm⟩
def acZ (ds:List ai) (ss:Nat->aI) (w:World) (e:Ending) (w':World):Prop:=∃ a' c',e=.returned (.slice a' ds.length c')/\(ds=[]\/∃ g,a'=some ⟨g,0,none⟩/\w.heap.size<=g/\az g (oN ds ss) w')/\ah w w'/\ds.length<=c'/\c'<=maxLen/\(ds=[]->w'.ownsRow w.heap.size 31 8 (.slice a' 0 c') 0 [])
theorem ac0 (a:Option Addr) (c:Nat) (ds:List ai) (ss:Nat->aI) (w:World) (hn:ds.length<=1048576) (hR:sM w a ds ss):Calls prog 43 #[.slice a ds.length c] w (acZ ds ss w):=by
 have qn:∀ (w:World) (a:Option Addr) (n c n' c':Nat),(binOp .eql 26 (.slice a n c) (.slice none n' c')).run prog w=.ok (.bool a.isNone) w:=fun w a n c n' c'=>YW w _ _ a n c n' c' underlying26;cases a with
 | none=>
  have h0:ds=[]:=by
   rcases hR with h | ⟨b,off,h,_⟩;·exact h
   cases h
  subst h0;go_enter func43,ntmps43;go_wp2;go_ret;exact ⟨none,0,rfl,Or.inl rfl,aQ _ _,av _,bh _,fun _=>⟨rfl,Or.inl ⟨rfl,rfl⟩⟩⟩
 | some p=>
  obtain ⟨i0,hi,hz0,hz1,hz2⟩:=iv Cl;have l0:=aA w (.cells #[] 31);have o0:(w.alloc (.cells #[] 31)).ownsRow w.heap.size 31 8 (aH w.heap.size 0 0) 0 []:=uT w #[] 0 (av _) (bh _) rfl;have r0:=hR.below l0;by_cases hd:ds=[]
  ·subst hd;have hrun:=vh (P:=prog) (w.alloc (.cells #[] 31)) 26 26 31 i0 underlying26 hi (some ⟨w.heap.size,0,none⟩) 0 0 (av _) (some p) c;have HO:Hid ((w.alloc (.cells #[] 31)).ownsRow w.heap.size 31 8 (aH w.heap.size 0 0) 0 []):=o0;clear hR r0 o0;go_enter func43,ntmps43;go_wp2_with (at_builtin;refine Bf _ rfl (.tmp 5) (.tmp 6) 26 26 rfl _ _ (by rfl) (by rfl) _ _ hrun ?_);go_ret;exact ⟨_,_,rfl,Or.inl rfl,l0,bh _,bh _,fun _=>HO.out⟩
  ·obtain ⟨b,off,hp,hlt,hc⟩:∃ b off,p=⟨b,off,none⟩/\b<(w.alloc (.cells #[] 31)).heap.size/\∀ j,j<ds.length->kh (w.alloc (.cells #[] 31)) b (off+j*8) (aJ ds j) (ss j):=by
    rcases r0 with h | ⟨b,off,h,hl,hc⟩;·exact absurd h hd
    exact ⟨b,off,gw h,hl,hc⟩
   subst hp;have hm:0<ds.length:=Bg.2 hd;clear hR r0;go_enter func43,ntmps43;go_wp2_with (at_builtin;refine qG _ rfl (.tmp 5) (.tmp 6) 26 rfl w.heap.size 31 i0 (.agg jb) 8 128 underlying26 hi hz0 hz1 hz2 rfl (by omega) _ 0 _ (by rfl) o0 ⟨b,off,none⟩ ds.length c (oN ds ss) (by rfl) (Ct ds ss) (fun j u hj=>by rw[qL];exact acY hc j u hj) (Q5 ds ss) hm (by unfold maxLen;omega) (by omega) l0.size _ rfl ?_;intro g cap' w1 ho' hg' hl' hlt';rw[qE,dW] at ho';simp only[dW]);go_ret;obtain ⟨hg1,hk1⟩:=JK ho' (Ct ds ss);exact ⟨_,cap',rfl,Or.inr ⟨g,rfl,hg1,hk1⟩,W0b.below l0 hg' (fun k hk=>by simp[Value.ownBlock] at hk;omega),(Fz ho').1,(Fz ho').2,fun x=>absurd x hd⟩
section
structure oO (g:Nat) (b:Nat->Nat) (ds:List ai) (s0 ss:Nat->aI) (k:Nat) (L:List Value) (W:World):Prop where
 len:L.length=ds.length*8
 aF:az g L W
 new:∀ j,j<k->oM L (j*8) (aJ ds j) (ss j)
 Mt:∀ j,k<=j->j<ds.length->oM L (j*8) (aJ ds j) (s0 j)
 sub:∀ j,j<k->∃ m1 m2,iA (b j) m1 m2 (b (j+1)) (ss j) (aJ ds j).pg (aJ ds j).po (aJ ds j).fr W
 gb:g<b 0
 hi:b k<=W.heap.size
variable {g k : Nat} {b : Nat → Nat} {ds : List ai} {s0 ss : Nat → aI} {L : List Value} {w W W' : World}
theorem oO.below (h:oO g b ds s0 ss k L W) (hb:ah W W'):oO g b ds s0 ss k L W':=⟨h.len,h.aF.below hb,h.new,h.Mt,fun j hj=>by obtain ⟨m1,m2,q⟩:=h.sub j hj;exact ⟨m1,m2,q.below hb⟩,h.gb,br h.hi hb.size⟩
theorem JL (h:oO g b ds s0 ss k L W):∀ j,j<=k->b 0<=b j
 | 0,_=>av _
 | j+1,hj=>by have:=JL h j (by omega);obtain ⟨m1,m2,q⟩:=h.sub j (by omega);have:=q.le;omega
theorem Q6 (W:World) (g o:Nat) (d:ai) (s:aI):cM g (g+1) W (Cn W g o d s):=by unfold Cn;exact ((((((((cM.refl _ _ W).set (p:=⟨g,o,none⟩) (av _) (cm _) _).set (p:=⟨g,o+1,none⟩) (av _) (cm _) _).set (p:=⟨g,o+2,none⟩) (av _) (cm _) _).set (p:=⟨g,o+3,none⟩) (av _) (cm _) _).set (p:=⟨g,o+4,none⟩) (av _) (cm _) _).set (p:=⟨g,o+5,none⟩) (av _) (cm _) _).set (p:=⟨g,o+6,none⟩) (av _) (cm _) _).set (p:=⟨g,o+7,none⟩) (av _) (cm _) _
theorem Q7 {L:List Value} {o x:Nat} {d e:ai} {s t:aI} (hx:x+7<o\/o+7<x) (h:oM L x e t):oM (sN L o d s) x e t:=by unfold oM at h ⊢;obtain ⟨h0,h1,h2,h3,h4,h5,h6,h7⟩:=h;exact ⟨(vr (by omega)).trans h0,(vr (by omega)).trans h1,(vr (by omega)).trans h2,(vr (by omega)).trans h3,(vr (by omega)).trans h4,(vr (by omega)).trans h5,(vr (by omega)).trans h6,(vr (by omega)).trans h7⟩
theorem oO.step {lo m1 m2 hi:Nat} {q:aI} (h:oO g b ds s0 ss k L W) (hk:k<ds.length) (hl:iA lo m1 m2 hi q (aJ ds k).pg (aJ ds k).po (aJ ds k).fr W) (hlo:b k<=lo) (hh:hi<=W.heap.size):oO g (fun j=>if j<=k then b j else hi) ds s0 (fun j=>if j=k then q else ss j) (k+1) (sN L (k*8) (aJ ds k) q) (Cn W g (k*8) (aJ ds k) q):=by
 have hlen:=h.len;have ht:=Q6 W g (k*8) (aJ ds k) q;have hgb:=h.gb;refine ⟨by rw[acG];exact hlen,acI h.aF,fun j hj=>?_,fun j hj hj2=>?_,fun j hj=>?_,?_,?_⟩
 ·by_cases e:j=k
  ·subst e;have:=acH L (j*8) (aJ ds j) q (by omega);simpa using this
  have:=Q7 (o:=k*8) (d:=aJ ds k) (s:=q) (Or.inl (by omega)) (h.new j (by omega));simpa [e] using this
 ·exact Q7 (Or.inr (by omega)) (h.Mt j (by omega) hj2)
 ·by_cases e:j=k
  ·subst e;have hb0:=JL h j (av _);have hle:=hl.le;have h1:iA (b j) m1 m2 hi q (aJ ds j).pg (aJ ds j).po (aJ ds j).fr W:=⟨hl.p1.mono hlo (av _),hl.p2,hl.p3,by omega⟩;refine ⟨m1,m2,?_⟩;have h2:=h1.mL ht (Or.inr (by omega));have e2:¬ j+1<=j:=by omega
   simpa [e2] using h2
  obtain ⟨n1,n2,hq⟩:=h.sub j (by omega);have hb0:=JL h j (by omega);refine ⟨n1,n2,?_⟩;have h2:=hq.mL ht (Or.inr (by omega));have e1:j<=k:=by omega
  have e2:j+1<=k:=by omega
  simpa [e,e1,e2] using h2
 ·simpa using hgb
 have e:¬ k+1<=k:=by omega
 simp only[e,if_false];exact br hh ht.size
structure zR (g:Nat) (b:Nat->Nat) (ds:List ai) (ss:Nat->aI) (L:List Value) (W:World):Prop where
 len:L.length=ds.length*8
 aF:az g L W
 at_:∀ j,j<ds.length->oM L (j*8) (aJ ds j) (ss j)
 sub:∀ j,j<ds.length->∃ m1 m2,iA (b j) m1 m2 (b (j+1)) (ss j) (aJ ds j).pg (aJ ds j).po (aJ ds j).fr W
 gb:g<b 0
 hi:b ds.length<=W.heap.size
theorem zR.below (h:zR g b ds ss L W) (hb:ah W W'):zR g b ds ss L W':=⟨h.len,h.aF.below hb,h.at_,fun j hj=>by obtain ⟨m1,m2,q⟩:=h.sub j hj;exact ⟨m1,m2,q.below hb⟩,h.gb,br h.hi hb.size⟩
theorem ac1 (h:oO g b ds s0 ss ds.length L W):zR g b ds ss L W:=⟨h.len,h.aF,h.new,h.sub,h.gb,h.hi⟩
def mV (lo:Nat) (a:Option Addr) (ds:List ai) (W:World):Prop:=ds=[]\/∃ g b ss L,a=some ⟨g,0,none⟩/\lo<=g/\zR g b ds ss L W
theorem mV.below {lo:Nat} {a:Option Addr} (h:mV lo a ds W) (hb:ah W W'):mV lo a ds W':=h.imp id fun ⟨g,b,ss,L,e,h1,h2⟩=>⟨g,b,ss,L,e,h1,h2.below hb⟩
theorem mV.set {lo B:Nat} {a:Option Addr} (h:mV lo a ds W) (hB:B<lo) (j:Nat) (v:Value):mV lo a ds (W.setCell ⟨B,j,none⟩ v):=by
 rcases h with h | ⟨g,b,ss,L,e,h1,h2⟩;·exact Or.inl h
 have ht:cM B (B+1) W (W.setCell ⟨B,j,none⟩ v):=(cM.refl _ _ W).set (p:=⟨B,j,none⟩) (av _) (cm _) v;have hgb:=h2.gb;have hb0:∀ i,i<=ds.length->b 0<=b i:=fun i=>by
  induction i with
  | zero=>intro _;exact av _
  | succ i ih=>
   intro hi;have:=ih (by omega);obtain ⟨m1,m2,q⟩:=h2.sub i (by omega);have:=q.le;omega
 refine Or.inr ⟨g,b,ss,L,e,h1,h2.len,h2.aF.aP (by omega) j v,h2.at_,fun i hi=>?_,hgb,br h2.hi ht.size⟩;obtain ⟨m1,m2,q⟩:=h2.sub i hi;have:=hb0 i (by omega);exact ⟨m1,m2,q.mL ht (Or.inr (by omega))⟩
def ac2 (k:bz) (w:World) (e:Ending) (w':World):Prop:=∃ a' c',e=.returned (bP k a' c')/\mV w.heap.size a' k.ds w'/\ah w w'/\k.ds.length<=c'/\c'<=maxLen
def jd (lo:Nat) (a:Option Addr) (c:Nat) (W:World):Prop:=W.ownsRow lo 31 8 (.slice a 0 c) 0 []
theorem jd.below {lo c:Nat} {a:Option Addr} {W W':World} (h:jd lo a c W) (hb:ah W W'):jd lo a c W':=vd h hb
theorem jd.set {lo c B:Nat} {a:Option Addr} {W:World} (h:jd lo a c W) (hB:B<lo) (j:Nat) (v:Value):jd lo a c (W.setCell ⟨B,j,none⟩ v):=ownsRow_setCell_below h (a:=⟨B,j,none⟩) hB v
theorem jd.mono {lo lo' c:Nat} {a:Option Addr} {W:World} (h:jd lo a c W) (hl:lo'<=lo):jd lo' a c W:=⟨h.1,h.2.imp id fun ⟨g,c,cur,hv,hg,r⟩=>⟨g,c,cur,hv,br hl hg,r⟩⟩
def ac3 (k:bz) (w:World) (e:Ending) (w':World):Prop:=∃ a' c',e=.returned (bP k a' c')/\mV w.heap.size a' k.ds w'/\ah w w'/\k.ds.length<=c'/\c'<=maxLen/\(k.ds=[]->jd w.heap.size a' c' w')
def FC (ds:List ai):Prop:=∀ j,j<ds.length->(aJ ds j).pg.length<=1048576/\(aJ ds j).po.length<=1048576/\(aJ ds j).fr.length<=1048576/\(aJ ds j).rc.size<=1048576/\(aJ ds j).aU.size<=1048576
abbrev iB:Obj:=.cells #[.string ⟨#[]⟩,.string ⟨#[]⟩,.slice none 0 0,.int .i64 0] 28
abbrev iC (k:bz) (a:Option Addr) (c:Nat):Obj:=.cells #[.string k.mem,.string k.aL,.slice a k.ds.length c,.int .i64 k.ck] 28
structure tU (w:World) (k:bz) (a:Option Addr) (c:Nat) (W:World):Prop where
 box:az w.heap.size (iZ k a c) W
 res:az (w.heap.size+1) ij W
 au:ah w W
variable {K : bz} {a : Option Addr} {c : Nat}
theorem tU.below (h:tU w K a c W) (hb:ah W W'):tU w K a c W':=⟨h.box.below hb,h.res.below hb,h.au.trans (hb.mono h.au.size)⟩
theorem tU.keep {B:Nat} (h:tU w K a c W) (hb:Below B W W') (hB:w.heap.size+2<=B):tU w K a c W':=⟨gd h.box hb (by omega),gd h.res hb (by omega),h.au.trans (hb.mono (by omega))⟩
theorem ac4 (w:World) (k:bz) (a:Option Addr) (c:Nat):tU w k a c ((w.alloc (iC k a c)).alloc iB):=⟨(aY (iZ k a c) w 28).alloc _,dR ij _ 28 (by simp),((aQ _ _).alloc (av _) _).alloc (by simp) _⟩
theorem Q8 (k:bz) (a:Option Addr) (c:Nat) (s0:Nat->aI) (w:World) (hm:k.mem.size<=281474976710656) (hd:k.aL.size<=281474976710656) (hn:k.ds.length<=1048576) (hz:FC k.ds) (hR:cN w a k.ds s0):Calls prog 23 #[bP k a c] w (ac3 k w):=by
 have t0:=ac4 w k a c;have c2:=t0.box.c2;have rK:Hid (∀ W,ah w W->cN W a k.ds s0):=fun W hb=>hR.below hb;have hcl:=ac0 a c k.ds s0 _ hn (rK.out _ t0.au).row;obtain ⟨W0,hW0⟩:∃ W0,(w.alloc (iC k a c)).alloc iB=W0:=⟨_,rfl⟩;rw[hW0] at t0 c2 hcl;have im:=t0.res.lt;clear hR;have HZ:Hid (FC k.ds):=hz;clear hz;go_enter func23,ntmps23;go_wp2_with (go_at_call 43;refine hcl.mono ?_;rintro e w1 ⟨a1,c1,rfl,h1,b1,hcap,hcm,hc0⟩;have t1:=t0.below b1);have H1:Hid ((k.ds=[]/\jd (w.heap.size+2) a1 c1 w1)\/(k.ds ≠ []/\∃ g b ss L,a1=some ⟨g,0,none⟩/\W0.heap.size<=g/\oO g b k.ds s0 ss 0 L w1)):=by
  by_cases h0:k.ds=[];·exact Or.inl ⟨h0,jd.mono (hc0 h0) im⟩
  rcases h1 with h | ⟨g,e,hg,hk⟩;·exact absurd h h0
  exact Or.inr ⟨h0,g,fun _=>w1.heap.size,s0,oN k.ds s0,e,hg,Ct _ _,hk,fun j hj=>absurd hj (uW _),fun j _ hj=>JJ _ _ j hj,fun j hj=>absurd hj (uW _),hk.lt,av _⟩
 clear h1 t0 c2 hcl hc0;go_loopw [11] (fun i w'=>∃ j:Nat,j<=k.ds.length/\i=aa j/\tU w k a c w'/\Hid ((k.ds=[]/\jd (w.heap.size+2) a1 c1 w')\/(k.ds ≠ []/\∃ g b ss L,a1=some ⟨g,0,none⟩/\W0.heap.size<=g/\oO g b k.ds s0 ss j L w'))) (fun i _=>k.ds.length-(intOf i).toNat);case atStart=>exact ⟨0,bh _,rfl,t1,H1⟩
 case round=>
 obtain ⟨j,hj,rfl,hbx,iA⟩:=hrel;clear H1 t1;by_cases hlt:j<k.ds.length
 ·obtain ⟨g,b,ss,L,rfl,hg,px⟩:∃ g b ss L,a1=some ⟨g,0,none⟩/\W0.heap.size<=g/\oO g b k.ds s0 ss j L wr:=by
   rcases iA.out with ⟨h,-⟩ | ⟨-,h⟩;·rw[h] at hlt;simp at hlt
   exact h
  clear iA;obtain ⟨y0,y1,y2,y3,y4,y5,y6,y7⟩:=Cm px.aF (px.Mt j (av _) hlt);obtain ⟨z1,z2,z3,z4,z5⟩:=HZ.out j hlt;have ls:=(rK.out _ (hbx.au.trans ((aA wr (ri (aJ k.ds j) (s0 j))).mono hbx.au.size))).sub j hlt;have HS:Hid (∀ lo m1 m2 hi q W,oO g b k.ds s0 ss j L W->iA lo m1 m2 hi q (aJ k.ds j).pg (aJ k.ds j).po (aJ k.ds j).fr W->b j<=lo->hi<=W.heap.size->oO g (fun i=>if i<=j then b i else hi) k.ds s0 (fun i=>if i=j then q else ss i) (j+1) (sN L (j*8) (aJ k.ds j) q) (Cn W g (j*8) (aJ k.ds j) q)):=fun lo m1 m2 hi q W h1 h2 h3 h4=>h1.step hlt h2 h3 h4
  have e1:(0:Int)<=(j:Int):=by omega
  have e2:(j:Int)<(k.ds.length:Int):=by omega
  have hlen:=px.len;have hbj:=px.hi;obtain ⟨d,ed⟩:∃ d,aJ k.ds j=d:=⟨_,rfl⟩;obtain ⟨s,es⟩:∃ s,s0 j=s:=⟨_,rfl⟩;rw[ed,es] at ls;rw[ed] at y0 y1 y2 y3 y4 y5 y6 y7 z1 z2 z3 z4 z5 HS;rw[es] at y4 y6 y7;have nb:=aA wr (ri d s);have hcp:=Q4 d s _ z1 z2 z3 (by omega) (by omega) ls;clear ed es rK HZ ls;go_wp2_with (go_at_call 44;refine hcp.mono ?_;rintro e w2 ⟨q,m1,m2,hi,rfl,hl,hh,b2⟩;have L2:=(px.below nb).below b2;have B2:=(hbx.below nb).below b2;have mg:=L2.aF;obtain ⟨x0,q0⟩:∃ x,ad w2 g (j*8) x:=⟨_,mg.cell (j*8) (by omega)⟩;have f0:=mg.free (j*8) (by omega);obtain ⟨x1,q1⟩:∃ x,ad w2 g (j*8+1) x:=⟨_,mg.cell (j*8+1) (by omega)⟩;have f1:=mg.free (j*8+1) (by omega);obtain ⟨x2,q2⟩:∃ x,ad w2 g (j*8+2) x:=⟨_,mg.cell (j*8+2) (by omega)⟩;have f2:=mg.free (j*8+2) (by omega);obtain ⟨x3,q3⟩:∃ x,ad w2 g (j*8+3) x:=⟨_,mg.cell (j*8+3) (by omega)⟩;have f3:=mg.free (j*8+3) (by omega);obtain ⟨x4,q4⟩:∃ x,ad w2 g (j*8+4) x:=⟨_,mg.cell (j*8+4) (by omega)⟩;have f4:=mg.free (j*8+4) (by omega);obtain ⟨x5,q5⟩:∃ x,ad w2 g (j*8+5) x:=⟨_,mg.cell (j*8+5) (by omega)⟩;have f5:=mg.free (j*8+5) (by omega);obtain ⟨x6,q6⟩:∃ x,ad w2 g (j*8+6) x:=⟨_,mg.cell (j*8+6) (by omega)⟩;have f6:=mg.free (j*8+6) (by omega);obtain ⟨x7,q7⟩:∃ x,ad w2 g (j*8+7) x:=⟨_,mg.cell (j*8+7) (by omega)⟩;have f7:=mg.free (j*8+7) (by omega));go_roundw;case rel=>exact ⟨j+1,by omega,by go_num,B2.keep ((Q6 w2 g (j*8) d q).below (b:=g) (av _) (pJ mg.lt)) (by omega),Or.inr ⟨fun h=>by rw[h] at hlt;simp at hlt,g,_,_,_,rfl,hg,HS.out _ m1 m2 hi q w2 L2 hl (br hbj nb.size) hh⟩⟩
  case measure=>simp[intOf];omega
 obtain rfl:j=k.ds.length:=by omega
 have HO:Hid (mV (w.heap.size+2) a1 k.ds wr):=by
  rcases iA.out with ⟨h,-⟩ | ⟨-,g,b,ss,L,e,hg,h⟩;·exact Or.inl h
  exact Or.inr ⟨g,b,ss,L,e,by omega,ac1 h⟩
 have HE:Hid (k.ds=[]->∀ W,ah wr.drew W->jd (w.heap.size+2) a1 c1 W):=fun hx W hb=>by
  rcases iA.out with ⟨_,h⟩ | ⟨e,-⟩;·exact (jd.below h ((aQ _ _).drew)).below hb
  exact absurd hx e
 clear iA rK HZ;have dx:=hbx.below ((aQ _ _).drew);have HD:Hid (∀ W,_):=fun W=>Qc k.mem k.aL W hm hd;have yE:Hid (∀ W,ah wr.drew W->mV (w.heap.size+2) a1 k.ds W):=fun W hb=>(HO.out.below ((aQ _ _).drew)).below hb;have HS:Hid (∀ W,tU w k a c W->ad W w.heap.size 0 (.string k.mem)/\ad W w.heap.size 1 (.string k.aL)/\ad W w.heap.size 3 (aa k.ck)):=fun W h=>⟨h.box.c0,h.box.c1,h.box.c3⟩;have s0':=HS.out _ dx;go_wp2;go_region_held3 (fun W=>ad W w.heap.size 0 (.string k.mem)/\ad W w.heap.size 1 (.string k.aL)/\ad W w.heap.size 3 (aa k.ck)) (assumption) ((go_at_call 45;refine (HD.out _).mono ?_;rintro e w2 ⟨rfl,b2⟩;have B2:=dx.below b2;have s2:=HS.out _ B2;have O2:=yE.out _ b2;have r0:=B2.res.c0;have r1:=B2.res.c1;have r2:=B2.res.c2;have r3:=B2.res.c3;have f0:=B2.res.f0;have f1:=B2.res.f1;have f2:=B2.res.f2;have f3:=B2.res.f3;have XS:((((w2.setCell ⟨w.heap.size+1,0,none⟩ (.string k.mem)).setCell ⟨w.heap.size+1,1,none⟩ (.string k.aL)).setCell ⟨w.heap.size+1,2,none⟩ (.slice a1 k.ds.length c1)).setCell ⟨w.heap.size+1,3,none⟩ (aa k.ck)).cell? ⟨w.heap.size,0,none⟩=some (.string k.mem)/\((((w2.setCell ⟨w.heap.size+1,0,none⟩ (.string k.mem)).setCell ⟨w.heap.size+1,1,none⟩ (.string k.aL)).setCell ⟨w.heap.size+1,2,none⟩ (.slice a1 k.ds.length c1)).setCell ⟨w.heap.size+1,3,none⟩ (aa k.ck)).cell? ⟨w.heap.size,1,none⟩=some (.string k.aL)/\((((w2.setCell ⟨w.heap.size+1,0,none⟩ (.string k.mem)).setCell ⟨w.heap.size+1,1,none⟩ (.string k.aL)).setCell ⟨w.heap.size+1,2,none⟩ (.slice a1 k.ds.length c1)).setCell ⟨w.heap.size+1,3,none⟩ (aa k.ck)).cell? ⟨w.heap.size,3,none⟩=some (aa k.ck):=(by have hb:=(((B2.box.aP (B':=w.heap.size+1) (by omega) 0 (.string k.mem)).aP (B':=w.heap.size+1) (by omega) 1 (.string k.aL)).aP (B':=w.heap.size+1) (by omega) 2 (.slice a1 k.ds.length c1)).aP (B':=w.heap.size+1) (by omega) 3 (aa k.ck);exact ⟨hb.c0,hb.c1,hb.c3⟩)))
 all_goals
  go_wp2;have q:=B2.res.dQ (.string k.mem) (.string k.aL) (.slice a1 k.ds.length c1) (aa k.ck);have v0:=q.c0;have v1:=q.c1;have v2:=q.c2;have v3:=q.c3;have O3:=(((O2.set (B:=w.heap.size+1) (by omega) 0 (.string k.mem)).set (B:=w.heap.size+1) (by omega) 1 (.string k.aL)).set (B:=w.heap.size+1) (by omega) 2 (.slice a1 k.ds.length c1)).set (B:=w.heap.size+1) (by omega) 3 (aa k.ck);refine bF (v:=bP k a1 c1) (by simp[results,results23,go_sem,v0,v1,v2,v3]) rfl ⟨a1,c1,rfl,?_,?_,hcap,hcm,fun hx=>((((HE.out hx _ b2).set (B:=w.heap.size+1) (by omega) 0 _).set (B:=w.heap.size+1) (by omega) 1 _).set (B:=w.heap.size+1) (by omega) 2 _).set (B:=w.heap.size+1) (by omega) 3 _ |>.mono (by omega)⟩;·exact O3.imp id fun ⟨g,b,ss,L,e,h1,h2⟩=>⟨g,b,ss,L,e,by omega,h2⟩
  ·exact (((B2.au.setCell (p:=⟨w.heap.size+1,0,none⟩) (bS _) _).setCell (p:=⟨w.heap.size+1,1,none⟩) (bS _) _).setCell (p:=⟨w.heap.size+1,2,none⟩) (bS _) _).setCell (p:=⟨w.heap.size+1,3,none⟩) (bS _) _
theorem Q9 (k:bz) (a:Option Addr) (c:Nat) (s0:Nat->aI) (w:World) (hm:k.mem.size<=281474976710656) (hd:k.aL.size<=281474976710656) (hn:k.ds.length<=1048576) (hz:FC k.ds) (hR:cN w a k.ds s0):Calls prog 23 #[bP k a c] w (ac2 k w):=(Q8 k a c s0 w hm hd hn hz hR).mono fun e w' ⟨a',c',h1,h2,h3,h4,h5,_⟩=>⟨a',c',h1,h2,h3,h4,h5⟩
end
section
open Go.Conc.Locks
abbrev ac5:MuLink:={ lock:=205,unlock:=206,ilock:=237,iunlock:=238,lockSlow:=253,unlockSlow:=256,disable:=249,enable:=251,acquire:=252,relMerge:=254,cas32:=250,add32:=255,tMutex:=198,tIMutex:=196,tPMutex:=278,tPIMutex:=291,tPI32:=293,tUP:=295,tNoCopy:=193,tU32:=194 }
theorem Ra:MuLib prog ac5:=by
 constructor;all_goals first
  | exact func205.trans (iw some (by kernel_rfl))
  | exact func206.trans (iw some (by kernel_rfl))
  | exact func237.trans (iw some (by kernel_rfl))
  | exact func238.trans (iw some (by kernel_rfl))
  | exact func249.trans (iw some (by kernel_rfl))
  | exact func251.trans (iw some (by kernel_rfl))
  | exact func252.trans (iw some (by kernel_rfl))
  | exact func254.trans (iw some (by kernel_rfl))
  | exact func250.trans (iw some (by kernel_rfl))
  | exact func255.trans (iw some (by kernel_rfl))
  | kernel_rfl
  | (intro w;kernel_rfl)
end
section
variable {w W W' : World} {base Bh g c : Nat} {l : List bJ}
theorem FD (w:World) (n c g:Nat):Calls prog 242 #[aH g n c] w (el (aa (n:Int)) w):=by go_enter func242,ntmps242;go_wp2;go_ret;exact ⟨rfl,rfl⟩
theorem ac6 (r:bJ) (w:World) (h:cL base Bh g c l w) (hh:jv l l.length) (hlen:l.length+1<=1048576):Calls prog 241 #[Fo Bh,.iface 183 (.agg #[aa r.1,aa r.2])] w fun e w'=>e=.returned (.tuple #[])/\∃ g' c' l',cL base Bh g' c' l' w'/\l'.Perm (l ++ [r])/\jv l' l'.length/\kg Bh g g' w w':=by
 have hm:=acb (some ⟨Bh,0,none⟩) w;have hps:=ab9 r w h hlen;have hll:(l ++ [r]).length=l.length+1:=by simp
 have HA:Hid (vm (l ++ [r]) l.length/\l.length+1<=1048576):=⟨abP hh r,hlen⟩;have en:((l.length+1:Nat):Int)-1=(l.length:Int):=by omega
 have en2:((l.length:Int)+1)-1=(l.length:Int):=by omega
 have en3:wrap64 (l.length:Int)=(l.length:Int):=by unfold wrap64;omega
 clear h hh;go_enter func241,ntmps241;go_wp2_with (go_at_call 306;refine hps.mono ?_;rintro e w1 ⟨rfl,g1,c1,hs1,ch1⟩;have x1:=hs1.cell;rw[hll] at x1;have hm1:=QM x1);go_wp2_with (go_at_call 242;refine (FD _ _ _ _).mono ?_;rintro e w2 ⟨rfl,rfl⟩);go_wp2_with (go_at_call 261;refine (aci l.length _ hs1 HA.out.1 (by simpa using HA.out.2)).mono ?_;rintro e w3 ⟨rfl,l3,hs3,hp3,hh3,hg3⟩);refine mu (v:=.tuple #[]) (by simp[results,results241,go_sem]) rfl ?_;exact ⟨rfl,g1,c1,l3,hs3,hp3,hh3,ch1.grown hg3⟩
end
section
variable {w W W' : World} {base Bh g c : Nat} {l : List bJ}
theorem ac7 {l2:List bJ} {m:Nat} (h:l2.length=m+1):l2=l2.take m ++ [bB l2 m]:=by rw[oK l2 m (by omega)];have:=List.take_append_drop m l2;rw[List.drop_eq_getElem_cons (by omega),ame (show l2.length<=m+1 by omega)] at this;exact this.symm
theorem ac8 {l2:List bJ} {m:Nat} (h:l2.length=m+1) (hh:jv l2 m):jv (l2.take m) (l2.take m).length:=by
 have e:(l2.take m).length=m:=by rw[jk];omega
 have k:∀ i,i<m->bN (l2.take m) i=bN l2 i:=by intro i hi;unfold bN;rw[oK _ i (by omega),oK l2 i (by omega),DQ]
 rw[e];intro i h0 hi;rw[k i hi,k _ (by omega)];exact hh i h0 hi
theorem ac9 (m:Nat) (w:World) (h:cL base Bh g c l w) (hh:jv l l.length) (hm:l.length=m+1) (hlen:l.length<=1048576):Calls prog 262 #[Fo Bh] w fun e w'=>∃ (r:bJ) (l':List bJ),e=.returned (.iface 183 (.agg #[aa r.1,aa r.2]))/\r=bB l 0/\(r :: l').Perm l/\cL base Bh g c l' w'/\jv l' l'.length/\kg Bh g g w w':=by
 have x0:=h.cell;have hm1:=QM x0;have hm2:=fun k=>tS (w:=w.drewN k) (show (w.drewN k).cell? ⟨Bh,0,none⟩=some _ from x0)
 have yc:=tS x0;have HA:Hid (jv l l.length/\l.length=m+1/\l.length<=1048576/\cL base Bh g c l w):=⟨hh,hm,hlen,h⟩;have hsw:=Ci 0 m w h (by omega) (by omega);rw[hm] at x0 hm1 hm2 yc hsw;have en2:((m:Int)+1)-1=(m:Int):=by omega
 have en3:wrap64 (m:Int)=(m:Int):=by unfold wrap64;omega
 clear h hh hm;go_enter func262,ntmps262;go_wp2_with (go_at_call 242;refine (FD _ _ _ _).mono ?_;rintro e w2 ⟨rfl,hw⟩;subst w2);go_wp2_with (go_at_call 307;refine hsw.mono ?_;rintro e w1 ⟨rfl,hs1,hg1⟩);obtain ⟨hh,hm,hlen,h⟩:=HA.out;have hdn:=ack m w1 hs1 (abO hh hm) (by rw[tR];exact hlen);clear hh hm h;go_wp2_with (go_at_call 272;refine hdn.mono ?_;rintro e w3 ⟨⟨b,rfl⟩,l2,hs2,hp2,Hw,Yj,hg2⟩);obtain ⟨hh,hm,hlen,h⟩:=HA.out;have hl2:l2.length=m+1:=by rw[hp2.length_eq,tR,hm]
 have ha:bB l2 m=bB l 0:=by rw[Yj m (av _),Ca l 0 m m (by omega) (by omega),aN rfl]
 have hsp:=ac7 hl2;rw[ha] at hsp;have ht:=ac8 hl2 Hw;have hpm:(bB l 0 :: l2.take m).Perm l:=by have q1:(l2.take m ++ [bB l 0]).Perm (bB l 0 :: l2.take m):=List.perm_append_comm;rw[<- hsp] at q1;exact q1.symm.trans (hp2.trans (Cb l 0 m (by omega) (by omega)))
 rw[hsp] at hs2;have kc:=aca (bB l 0) w3 hs2;have hm4:=acd (some ⟨Bh,0,none⟩) w3;have HB:Hid ((bB l 0 :: l2.take m).Perm l/\jv (l2.take m) (l2.take m).length/\w.grownBy w3 (some g)):=⟨hpm,ht,hg1.trans hg2⟩;obtain ⟨r,hr⟩:∃ r,bB l 0=r:=⟨_,rfl⟩;obtain ⟨lt,hlt⟩:∃ lt,l2.take m=lt:=⟨_,rfl⟩;rw[hr,hlt] at HB kc;have HR:Hid (r=bB l 0):=hr.symm;clear hh hm h hl2 ha hsp ht hpm hs2 hs1 hg1 hg2 hp2 Hw Yj hdn hr hlt;go_wp2_with (go_at_call 305;refine kc.mono ?_;rintro e w4 ⟨rfl,hs4,Dk⟩);go_ret;refine ⟨r,lt,rfl,HR.out,HB.out.1,hs4,HB.out.2.1,?_⟩;have gr:=HB.out.2.2;exact ⟨Dk.os.trans gr.os,Dk.tape.trans gr.tape,Dk.output.trans gr.output,br gr.size Dk.size,fun k hk hb hg=>(Dk.block k (cv hk gr.size) hb hg).trans (gr.block k hk (fun e=>hg (gw e))),Or.inl rfl⟩
theorem cL.grown {B:Nat} (h:cL base Bh g c l W) (hg:W.grownBy W' (some B)) (h1:B≠Bh) (h2:B≠g):cL base Bh g c l W':=⟨(mv (a:=⟨Bh,0,none⟩) (hg.block Bh h.lt (fun e=>h1 (gw e).symm))).trans h.cell,(yY (a:=⟨Bh,0,none⟩) (hg.block Bh h.lt (fun e=>h1 (gw e).symm))).trans h.free,h.buf.kept hg (Or.inr (fun e=>h2 (gw e).symm)),h.ne,h.lo,cv h.lt hg.size⟩
theorem Rc {B:Nat} {vs:List Value} (h:az B vs W) (e:W'.heap[B]? = W.heap[B]?) (hs:W.heap.size<=W'.heap.size):az B vs W':=⟨fun j hj=>(mv (a:=⟨B,j,none⟩) e).trans (h.cell j hj),fun j hj=>(yY (a:=⟨B,j,none⟩) e).trans (h.free j hj),cv h.lt hs⟩
theorem ada (m:Nat) (w:World) (h:cL base Bh g c l w) (hh:jv l l.length) (hm:l.length=m+1) (hlen:l.length<=1048576):Calls prog 243 #[ao Bh 0] w fun e w'=>∃ (r:bJ) (l':List bJ),e=.returned (.agg #[aa r.1,aa r.2])/\r=bB l 0/\(r :: l').Perm l/\cL base Bh g c l' w'/\jv l' l'.length/\kg Bh g g w w':=by
 have nl:=aA w (.cells #[aa 0,aa 0] 183);have nb:=aY [aa 0,aa 0] w 183;have kc:=ac9 m _ (h.below nl) hh hm hlen;have hta:=fun v W=>QL v W;have HB1:Hid (Bh<w.heap.size/\g<w.heap.size):=⟨h.lt,h.Nv.2⟩;have hsz:(w.alloc (.cells #[aa 0,aa 0] 183)).heap.size=w.heap.size+1:=by simp
 have HN:Hid (ah w (w.alloc (.cells #[aa 0,aa 0] 183))):=nl;obtain ⟨B,hB⟩:∃ B,B=w.heap.size:=⟨_,rfl⟩;clear h hh hm nl;go_enter func243,ntmps243;go_wp2_with (go_at_call 262;refine kc.mono ?_;rintro e w4 ⟨r,l',rfl,hr,hp,hs,hh,ch⟩;have k4:=Rc nb (ch.block w.heap.size (by omega) (by have:=HB1.out;omega) (by have:=HB1.out;omega)) ch.size;have z0:=k4.cell 0 (by simp);have z1:=k4.cell 1 (by simp);have f0:=k4.free 0 (by simp);have f1:=k4.free 1 (by simp);have g5:=sC (j:=1) (sC (j:=0) (BI w4 (some w.heap.size)) (aa r.1)) (aa r.2);have HH:Hid (r=bB l 0/\(r :: l').Perm l/\cL base Bh g c l' w4/\jv l' l'.length/\kg Bh g g (w.alloc (.cells #[aa 0,aa 0] 183)) w4):=⟨hr,hp,hs,hh,ch⟩;clear hr hp hs hh ch k4);have y1:((w4.setCell ⟨w.heap.size,0,none⟩ (aa r.1)).setCell ⟨w.heap.size,1,none⟩ (aa r.2)).cell? ⟨w.heap.size,1,none⟩=some (aa r.2):=ov _ _ _ ((gH _ _ _ _ (by simp)).trans z1);have y0:((w4.setCell ⟨w.heap.size,0,none⟩ (aa r.1)).setCell ⟨w.heap.size,1,none⟩ (aa r.2)).cell? ⟨w.heap.size,0,none⟩=some (aa r.1):=(gH _ _ _ _ (by simp)).trans (ov _ _ _ z0);refine bF (v:=.agg #[aa r.1,aa r.2]) (by simp[results,results243,go_sem,y0,y1]) rfl ?_;obtain ⟨hr,hp,hs,hh,ch⟩:=HH.out;obtain ⟨b1,b2⟩:=HB1.out;refine ⟨r,l',rfl,hr,hp,hs.grown g5 (by omega) (by omega),hh,?_⟩;have nl:=HN.out;exact ⟨g5.os.trans (ch.os.trans nl.os),g5.tape.trans (ch.tape.trans nl.tape),g5.output.trans (ch.output.trans nl.output),br nl.size (br ch.size g5.size),fun k hk hb hg=>(g5.block k (cv hk (br nl.size ch.size)) (fun e=>by have:=gw e;omega)).trans ((ch.block k (by omega) hb hg).trans (nl.block k hk)),Or.inl rfl⟩
end
end Go.Proofs.YtgpfmgaidbjcpaaGreatDoor
