/- Joined texts. -/
import Derived.Test.YtlejhfnjmkdobaaGreatDoorJtJ
import Derived.Test.YtlejhfnjmkdobaaGreatDoorJtT
import Derived.Test.YtlejhfnjmkdobaaGreatDoorJtK
import Derived.Conc.MuLone
set_option linter.unusedVariables false
set_option linter.unusedSimpArgs false
set_option maxRecDepth 10000
set_option maxHeartbeats 16000000
namespace Go.Proofs.YtlejhfnjmkdobaaGreatDoor
open Go.Proofs.Tryz
namespace AT
open Go.RowKit
section
variable {P : Program} {ops : Array Oper} {Q : Exit → Act → World → Prop} {md : Region.Mode} {S : World → Prop} {n : Nat}
def wpAnyT (P:Program) (md:Region.Mode) (ops:Array Oper) (Q:Exit->Act->World->Prop) (S:World->Prop) (n:Nat):Nat->Array Bool->Act->World->Prop
 | 0,listed,a,w=>Region.ready md ops listed=[]/\Q .normal a w
 | fuel+1,listed,a,w=>
  (Region.ready md ops listed=[]->Q .normal a w)/\
  ∀ i ∈ Region.ready md ops listed,wpOp P ops Q i (fun a' w'=>(i<n->S w')/\wpAnyT P md ops Q S n fuel (listed.setIfInBounds i true) a' w') a w
theorem wpAny_of_T:∀ (fuel:Nat) (listed:Array Bool) (a:Act) (w:World),wpAnyT P md ops Q S n fuel listed a w->wpAny P md ops Q fuel listed a w
 | 0,_,_,_,h=>h
 | fuel+1,_,_,_,h=>⟨h.1,fun i hi=>wpOp_mono (fun a' w' h'=>wpAny_of_T fuel _ a' w' h'.2) (h.2 i hi)⟩
theorem first {i:Nat} {oi:Oper} {v:Value} (hi:ops[i]? = some oi) (hin:i<n) (hlate:∀ (j:Nat) (o:Oper),ops[j]? = some o->n<=j->∃ e ∈ o.after,Region.binds md e=true/\e.on=i) (hsel:∀ (j:Nat) (o:Oper) cs b,ops[j]? = some o->o.op ≠ .select cs b)
  (hQ:∀ c a w,Q (.panic c) (a.put oi.dst v) w->Q (.panic c) a w) :
  ∀ (fuel:Nat) (listed:Array Bool) (a:Act) (w:World),
   (∀ j oj,ops[j]? = some oj->j≠i->listed.getD j true=false->(∀ e ∈ oj.after,Region.binds md e=true->e.on≠i)->oi.apart ops oj=true)->
   i ∈ Region.ready md ops listed->YieldsIf P ops S oi v a->S w->
   wpAnyT P md ops Q S n fuel (listed.setIfInBounds i true) (a.put oi.dst v) w->wpAnyT P md ops Q S n (fuel+1) listed a w:=by
 intro fuel
 induction fuel with
 | zero=>
  intro listed a w _ hr hy hS H;refine ⟨fun h=>(by rw[h] at hr;cases hr),fun j hj=>?_⟩
  by_cases hji:j=i
  ·subst hji;exact hy.wpOp hi hS ⟨fun _=>hS,H⟩
  ·have:=ready_mono hj hji
   rw[H.1] at this;cases this
 | succ fuel ih=>
  intro listed a w hfree hr hy hS H;refine ⟨fun h=>(by rw[h] at hr;cases hr),fun j hj=>?_⟩
  by_cases hji:j=i
  ·subst hji;exact hy.wpOp hi hS ⟨fun _=>hS,H⟩
  ·have h1:=H.2 j (ready_mono hj hji)
   obtain ⟨hjun,oj,hoj,hall⟩:=mem_ready.1 hj
   have hnot:∀ e ∈ oj.after,Region.binds md e=true->e.on≠i:=fun e he hb heq=>by
    have h1:=hall e he hb;have h0:=(mem_ready.1 hr).1;rw[heq] at h1
    rcases Nat.lt_or_ge i listed.size with h' | h'
    ·simp[h'] at h0 h1;rw[h0] at h1;cases h1
    ·simp[Array.getElem?_eq_none h'] at h1
   have hjn:j<n:=by
    rcases Nat.lt_or_ge j n with h' | h'
    ·exact h'
    ·obtain ⟨e,he,hb,ho⟩:=hlate j oj hoj h'
     exact absurd ho (hnot e he hb)
   have h2:=wpOp_putIf hoj (hfree j oj hoj hji hjun hnot) (fun cs b=>hsel i oi cs b hi) (fun cs b=>hsel j oj cs b hoj) hQ hy h1
   have hfree':∀ k ok,ops[k]? = some ok->k≠i->(listed.setIfInBounds j true).getD k true=false->
     (∀ e ∈ ok.after,Region.binds md e=true->e.on≠i)->oi.apart ops ok=true:=fun k ok hk hki hun hno=>by
    refine hfree k ok hk hki ?_ hno
    by_cases hjk:j=k
    ·subst hjk;exact hjun
    ·rw[getD_set_ne true hjk] at hun;exact hun
   refine wpOp_mono (fun a' w' h3=>⟨h3.2.1,ih (listed.setIfInBounds j true) a' w' hfree' (ready_mono hr (Ne.symm hji)) h3.1 (h3.2.1 hjn) ?_⟩) h2;rw[Array.setIfInBounds_comm _ _ hji];exact h3.2.2
def lateB (md:Region.Mode) (ops:Array Oper) (n i:Nat):Bool:=(List.range ops.size).all fun j=>decide (j<n) || match ops[j]? with
 | some o=>o.after.any fun e=>Region.binds md e && e.on == i
 | none=>true
theorem late_spec {i:Nat} (h:lateB md ops n i=true) (j:Nat) (o:Oper) (hj:ops[j]? = some o) (hn:n<=j):∃ e ∈ o.after,Region.binds md e=true/\e.on=i:=by
 simp only[lateB,List.all_eq_true,List.mem_range] at h;have h1:=h j (Array.getElem?_eq_some_iff.1 hj).1;simp only[hj,Bool.or_eq_true,decide_eq_true_eq] at h1
 rcases h1 with h1 | h1
 ·omega
 ·obtain ⟨e,he,hb⟩:=Array.any_eq_true'.1 h1
  simp only[Bool.and_eq_true,beq_iff_eq] at hb;exact ⟨e,he,hb.1,hb.2⟩
theorem take {i:Nat} {oi:Oper} {v:Value} {fuel:Nat} {listed:Array Bool} {a:Act} {w:World} (hi:ops[i]? = some oi) (hin:i<n) (hl:lateB md ops n i=true)
  (hs:Region.noSelect ops=true) (hf:Region.free md ops listed i=true) (hr:(Region.ready md ops listed).contains i=true)
  (hQ:∀ c a w,Q (.panic c) (a.put oi.dst v) w->Q (.panic c) a w) (hy:YieldsIf P ops S oi v a) (hS:S w)
  (h:wpAnyT P md ops Q S n fuel (listed.setIfInBounds i true) (a.put oi.dst v) w):wpAnyT P md ops Q S n (fuel+1) listed a w:=
 first hi hin (late_spec hl) (Region.noSelect_spec hs) hQ fuel listed a w (Region.free_spec hi hf) (by simpa using hr) hy hS h
theorem all {rs:List Nat} {fuel:Nat} {listed:Array Bool} {a:Act} {w:World} (hr:Region.ready md ops listed=rs) (hne:rs ≠ [])
  (h:∀ i ∈ rs,wpOp P ops Q i (fun a' w'=>(i<n->S w')/\wpAnyT P md ops Q S n fuel (listed.setIfInBounds i true) a' w') a w):wpAnyT P md ops Q S n (fuel+1) listed a w:=
 ⟨fun h0=>absurd (hr ▸ h0) hne,hr ▸ h⟩
theorem done {listed:Array Bool} {a:Act} {w:World} (hr:Region.ready md ops listed=[]) (h:Q .normal a w) :
  ∀ fuel,wpAnyT P md ops Q S n fuel listed a w
 | 0=>⟨hr,h⟩
 | _+1=>⟨fun _=>h,by rw[hr];simp⟩
theorem region {id:Nat} {a:Act} {w:World} (hm:P.follows .mixedOrders=true)
  (h:wpAnyT P .any ops Q S n ops.size (Array.replicate ops.size false) a w.drew):(Code.region id ops true).wp P Q a w:=
 wp_region_any hm (wpAny_of_T _ _ _ _ h)
theorem call1 {a:Act} {w:World} {i f:Nat} {o:Oper} {listed:Array Bool} {fuel:Nat} (hr:Region.ready md ops listed=[i]) (ho:ops[i]? = some o) (hw:Region.wanted o (yielded ops a.tmps)=true)
  (x:Operand) (ts:Array TypeId) (hop:o.op=.call { callee:=.value (.func f),args:=#[x],argTypes:=ts }) (v:Value) (hx:a.eval x=v) (eg:∀ args w,(callFunc f args).run P w=.ok (.enter f args) w)
  (hc:Calls P f #[v] w fun e w'=>∃ u,e=.returned u/\S w'/\wpAnyT P md ops Q S n fuel (listed.setIfInBounds i true) (a.put o.dst u) w'):wpAnyT P md ops Q S n (fuel+1) listed a w:=by
 refine all hr (by simp) ?_;intro j hj
 obtain rfl:j=i:=by simpa using hj
 unfold wpOp;rw[ho];refine Y0.of_if hw (.inl ?_)
 have he:(execOp a.eval o).run P w=.ok (.enter f #[v]) w:=by
  subst hx;simp[execOp,hop,resolve,go_sem,invoke,eg]
 unfold Oper.wp;rw[he];refine Calls.mono hc ?_;rintro e w' ⟨u,rfl,hS,h⟩;exact ⟨fun _=>hS,h⟩
theorem store {a:Act} {w w':World} {i:Nat} {o:Oper} {listed:Array Bool} {fuel:Nat} (hr:Region.ready md ops listed=[i]) (ho:ops[i]? = some o) (hn:n<=i) (hw:Region.wanted o (yielded ops a.tmps)=true)
  (he:(execOp a.eval o).run P w=.ok .skip w') (h:wpAnyT P md ops Q S n fuel (listed.setIfInBounds i true) (a.put o.dst undef) w'):wpAnyT P md ops Q S n (fuel+1) listed a w:=by
 refine all hr (by simp) ?_;intro j hj
 obtain rfl:j=i:=by simpa using hj
 unfold wpOp;rw[ho];refine Y0.of_if hw (.inl ?_);unfold Oper.wp;rw[he];exact ⟨fun h'=>absurd h' (by omega),h⟩
theorem plain {a:Act} {w w':World} {u:Value} {i:Nat} {o:Oper} {listed:Array Bool} {fuel:Nat} (hr:Region.ready md ops listed=[i]) (ho:ops[i]? = some o) (hn:n<=i) (hw:Region.wanted o (yielded ops a.tmps)=true)
  (he:(execOp a.eval o).run P w=.ok (.value u) w') (h:wpAnyT P md ops Q S n fuel (listed.setIfInBounds i true) (a.put o.dst u) w'):wpAnyT P md ops Q S n (fuel+1) listed a w:=by
 refine all hr (by simp) ?_;intro j hj
 obtain rfl:j=i:=by simpa using hj
 unfold wpOp;rw[ho];refine Y0.of_if hw (.inl ?_);unfold Oper.wp;rw[he];exact ⟨fun h'=>absurd h' (by omega),h⟩
end
end AT
namespace BU
open AT (wpAnyT lateB)
variable {P : Program} {ops : Array Oper} {Q : Exit → Act → World → Prop} {md : Region.Mode} {S : World → Prop} {oi : Oper} {n fuel : Nat} {listed l' : Array Bool} {a a' : Act} {w : World}
theorem r (i:Nat) (v:Value) (hS:S w) (h:wpAnyT P md ops Q S n fuel l' a' w) (hi:ops[i]? = some oi:=by exact rfl) (hin:i<n:=by decide) (hb:lateB md ops n i=true:=by kernel_rfl)
  (hl:listed.setIfInBounds i true=l':=by (try simp only[BZ.z]);exact rfl) (ha:a.put oi.dst v=a':=by (try simp only[BZ.z,Act.put,Nat.reduceAdd]);exact rfl)
  (hs:Region.noSelect ops=true:=by kernel_rfl) (hf:Region.free md ops listed i=true:=by kernel_rfl) (hr:(Region.ready md ops listed).contains i=true:=by kernel_rfl)
  (hQ:∀ c a w,Q (.panic c) (a.put oi.dst v) w->Q (.panic c) a w:=by exact fun _ _ _ h=>h)
  (hw:Region.wanted oi (yielded ops a.tmps)=true:=by rfl) (hy:∀ w,S w->(execOp a.eval oi).run P w=.ok (.value v) w:=by exact fun w' hS'=>by rfl):wpAnyT P md ops Q S n (fuel+1) listed a w:=by
 subst hl ha;exact AT.take hi hin hb hs hf hr hQ (Or.inl ⟨hw,hy⟩) hS h
theorem s (i:Nat) (v:Value) (hS:S w) (h:wpAnyT P md ops Q S n fuel l' a' w) (hi:ops[i]? = some oi:=by exact rfl) (hin:i<n:=by decide) (hb:lateB md ops n i=true:=by kernel_rfl)
  (hl:listed.setIfInBounds i true=l':=by (try simp only[BZ.z]);exact rfl) (ha:a.put oi.dst v=a':=by (try simp only[BZ.z,Act.put,Nat.reduceAdd]);exact rfl)
  (hs:Region.noSelect ops=true:=by kernel_rfl) (hf:Region.free md ops listed i=true:=by kernel_rfl) (hr:(Region.ready md ops listed).contains i=true:=by kernel_rfl)
  (hQ:∀ c a w,Q (.panic c) (a.put oi.dst v) w->Q (.panic c) a w:=by exact fun _ _ _ h=>h)
  (hw:Region.wanted oi (yielded ops a.tmps)=true:=by rfl) (hy:∀ w,S w->(execOp a.eval oi).run P w=.ok (.value v) w:=by intro w' hS';(try dsimp only at hS');go_split_ands;go_simp):wpAnyT P md ops Q S n (fuel+1) listed a w:=by
 subst hl ha;exact AT.take hi hin hb hs hf hr hQ (Or.inl ⟨hw,hy⟩) hS h
end BU
namespace N13
open ChangeShapes WideShapes ChangeAt RowKit
open N0 (Ln)
open N1 (Sl Lists Fit LB lb_new)
def uPg (d:Ln) (m:ByteArray):Nat->ByteArray
 | 0=>m
 | k+1=>B5.laid (uPg d m k) (d.pg.getD k 0*32) (B2.part d.sav ((k:Int)*32) 32)
def uFr (d:Ln) (m:ByteArray):Nat->ByteArray
 | 0=>m
 | k+1=>B5.laid (uFr d m k) (L1.recAt (d.fr.getD k 0)) (B4.zeros 16)
def undone (mem:ByteArray) (d:Ln):ByteArray:=uFr d (uPg d (B5.laid mem (L1.recAt d.ino) d.rc) d.pg.length) d.fr.length
def undo (mem:ByteArray) (d:Ln):ByteArray:=if N0.loanOk d=true/\mem.size=768 then undone mem d else mem
theorem laid_size (s:ByteArray) (i:Int) (t:ByteArray):(B5.laid s i t).size=s.size:=by
 unfold B5.laid
 split
 ·rename_i h
  obtain ⟨h1,h2,h3⟩:=B2.lies_true h;simp only[ByteArray.size_append,ByteArray.size_extract];omega
 ·rfl
theorem uPg_size (d:Ln) (m:ByteArray):∀ k,(uPg d m k).size=m.size
 | 0=>rfl
 | k+1=>by rw[uPg,laid_size,uPg_size d m k]
theorem uFr_size (d:Ln) (m:ByteArray):∀ k,(uFr d m k).size=m.size
 | 0=>rfl
 | k+1=>by rw[uFr,laid_size,uFr_size d m k]
theorem zeros_le:(B4.zeros 16).size<=281474976710656:=by
 unfold B4.zeros
 split
 ·rw[B4.nulls_size];decide
 ·exact Nat.zero_le _
structure Bx (w:World) (d:Ln) (s:Sl) (W:World):Prop where
 arg:LB w.heap.size d s W
 bel:Bq w W
variable {w W W' : World} {d : Ln} {s : Sl}
theorem Bx.below (h:Bx w d s W) (hb:Bq W W'):Bx w d s W':=⟨h.arg.below hb,h.bel.trans (hb.mono h.bel.size)⟩
theorem Bx.drewN (h:Bx w d s W) (m:Nat):Bx w d s (W.drewN m):=⟨⟨h.arg.b.drewN m⟩,K0.below_drewN h.bel m⟩
theorem bx_new (w:World) (d:Ln) (s:Sl):Bx w d s (N10.w0 w d s):=⟨lb_new d s w 46,K0.below_new _ _⟩
theorem l03Page0 (mem:ByteArray) (k:Nat) (w:World) (hs:mem.size<=281474976710656) (hk:k<=100) :
  Calls prog 71 #[.string mem,Iv (k:Int)] w (Rw (.string (B2.part mem ((k:Int)*32) 32)) w):=by
 have hm:mem.size<=maxLen:=by unfold maxLen;omega
 have hw:IntKind.i64.wrap ((k:Int)*32)=(k:Int)*32:=by rw[IntKind.wrap_i64];omega
 have hpt:=B2.spec_Part mem ((k:Int)*32) 32 w hm (N11.wf_of _ (by omega) (by omega)) (by decide);go_enter func71,ntmps71
 go_wp2_with (go_at_call 58;refine hpt.mono ?_;rintro e w' ⟨rfl,rfl⟩)
 go_ret;exact ⟨rfl,rfl⟩
theorem impl_Undo (mem:ByteArray) (d:Ln) (s:Sl) (w:World) (hms:mem.size<=281474976710656) (hF:Fit d s) (hpo:d.po.length<=1048576) (hfr:d.fr.length<=1048576) (hR:Lists w d s) :
  Calls prog 89 #[.string mem,N1.val d s] w (Rb (.string (undo mem d)) w):=by
 have x0:=bx_new w d s
 have HL:Hid (∀ W,Bq w W->Lists W d s):=fun W hb=>hR.below hb
 have HO:Hid (∀ W,Bq w W->_):=fun W hb=>N10.impl_LoanOk d s W hF hpo hfr (hR.below hb)
 have hrs:=hF.m4;have hss:=hF.m5;clear hR hF
 cases hok:N0.loanOk d with
 | false=>
  rw[hok] at HO
  have HU:Hid (undo mem d=mem):=by
   show undo mem d=mem
   rw[undo,if_neg];rintro ⟨h,_⟩;rw[hok] at h;cases h
  rw[HU.out];clear HU hok;go_enter func89,ntmps89
  go_wp2_with (first
   | (go_at_call 121;refine (HO.out _ x0.bel).mono ?_;rintro e w1 ⟨rfl,b1⟩;have x1:=x0.below b1)
   | (go_at_call 110;refine (B2.clone_any _ _ hms).mono ?_;rintro e w2 ⟨rfl,b2⟩;have x2:=x1.below b2))
  go_ret;exact ⟨rfl,x2.bel⟩
 | true=>
  rw[hok] at HO
  by_cases hm:mem.size=768
  ·have g8:((mem.size:Int) != 768)=false:=by simp;omega
   have HU:Hid (undo mem d=undone mem d):=by
    show undo mem d=_
    rw[undo,if_pos ⟨hok,hm⟩]
   obtain ⟨-,-,-,-,-,-,hp6,-,hf2,hpp,-,-,-⟩:=N0.loanOk_is hok
   have hpg:∀ j,j<d.pg.length->5<=d.pg.getD j 0/\d.pg.getD j 0<=23:=fun j hj=>(N0.pagesOk_iff.1 hpp).1 _ (List.mem_append.2 (Or.inl (N0.getD_mem hj)))
   rw[HU.out]
   have h1s:(B5.laid mem (L1.recAt d.ino) d.rc).size=768:=by rw[laid_size];exact hm
   have HE:Hid (undone mem d=uFr d (uPg d (B5.laid mem (L1.recAt d.ino) d.rc) d.pg.length) d.fr.length):=rfl
   have hW:Hid (∀ W,Calls prog 122 #[.string mem,Iv (L1.recAt d.ino),.string d.rc] W (Rb (.string (B5.laid mem (L1.recAt d.ino) d.rc)) W)):=fun W=>B5.impl_With _ _ _ _ hms hrs
   obtain ⟨m1,hm1⟩:∃ m1,B5.laid mem (L1.recAt d.ino) d.rc=m1:=⟨_,rfl⟩;rw[hm1] at h1s HE hW;rw[HE.out];clear HU HE hok hm1 hpp;go_enter func89,ntmps89
   go_wp2_with (go_at_call 121;refine (HO.out _ x0.bel).mono ?_;rintro e w1 ⟨rfl,b1⟩;have x1:=x0.below b1)
   have x2:=x1.below (W':=w1.drew) ((Below.refl _ _).drew);have c0:=x2.arg.c0;have c3:=x2.arg.c3;have s2:w1.drew.cell? ⟨w.heap.size,0,none⟩=some (Iv d.ino)/\w1.drew.cell? ⟨w.heap.size,3,none⟩=some (.string d.rc):=⟨c0,c3⟩
   go_region_held3 (fun W=>Ce W w.heap.size 0 (Iv d.ino)/\Ce W w.heap.size 3 (.string d.rc)) (assumption) ((first
    | (go_at_call 123;refine (L1.impl_RecAt _ _).mono ?_;rintro e w' ⟨rfl,rfl⟩)
    | (go_at_call 122;refine (hW.out _).mono ?_;rintro e w3 ⟨rfl,b3⟩;have x3:=x2.below b3;have s3:Ce w3 w.heap.size 0 (Iv d.ino)/\Ce w3 w.heap.size 3 (.string d.rc):=⟨x3.arg.c0,x3.arg.c3⟩)))
   have c4:=x3.arg.c4;clear s3 s2 c0 c3 x2 x1 b1 b3 x0;go_wp2
   go_loopw [0,29] (fun v i w'=>∃ k:Nat,k<=d.pg.length/\i=Iv k/\v=.string (uPg d m1 k)/\Bx w d s w') (fun _ i _=>d.pg.length-(intOf i).toNat)
   case atStart=>exact ⟨0,Nat.zero_le _,rfl,rfl,x3⟩
   case round=>
    obtain ⟨k,hk,rfl,rfl,xr⟩:=hrel;have hus:=uPg_size d m1 k
    by_cases hlt:k<d.pg.length
    ·obtain ⟨b,off,hab,_,hcell⟩:=(HL.out _ xr.bel).r1.get hlt
     have y1:=hcell k hlt;have hz:=hpg k hlt;have HS:Hid (B5.laid (uPg d m1 k) (d.pg.getD k 0*32) (B2.part d.sav ((k:Int)*32) 32)=uPg d m1 (k+1)):=rfl;obtain ⟨z,ez⟩:∃ z,d.pg.getD k 0=z:=⟨_,rfl⟩;rw[ez] at y1 hz HS;rw[hab];have c5:=xr.arg.c5
     have e1:(0:Int)<=(k:Int):=by omega
     have e2:(k:Int)<(d.pg.length:Int):=by omega
     have hpt:Hid (∀ W,Calls prog 124 #[.string d.sav,Iv ((k:Int)*32),Iv 32] W (Rb (.string (B2.part d.sav ((k:Int)*32) 32)) W)):=fun W=>B2.impl_Part _ _ _ _ hss
     have hwt:Hid (∀ W,Calls prog 122 #[.string (uPg d m1 k),Iv (z*32),.string (B2.part d.sav ((k:Int)*32) 32)] W (Rb (.string (B5.laid (uPg d m1 k) (z*32) (B2.part d.sav ((k:Int)*32) 32))) W)):=fun W=>B5.impl_With _ _ _ _ (by rw[hus];omega) (Nat.le_trans (B2.part_size _ _ _) hss)
     clear ez hcell hus
     go_wp2_with (first
      | (go_at_call 124;refine (hpt.out _).mono ?_;rintro e w4 ⟨rfl,b4⟩;have x4:=xr.below b4)
      | (go_at_call 122;refine (hwt.out _).mono ?_;rintro e w5 ⟨rfl,b5⟩;have x5:=x4.below b5))
     go_roundw
     case rel=>exact ⟨k+1,by omega,by go_num,by rw[HS.out],x5⟩
     case measure=>simp[intOf];omega
    ·obtain rfl:k=d.pg.length:=by omega
     have c7:=xr.arg.c7;obtain ⟨m2,hm2⟩:∃ m2,uPg d m1 d.pg.length=m2:=⟨_,rfl⟩;have HM2:Hid (uPg d m1 d.pg.length=m2):=hm2;rw[hm2] at hus ⊢;clear hm2 x3;go_wp2
     go_loopw [0,47] (fun v i w'=>∃ k:Nat,k<=d.fr.length/\i=Iv k/\v=.string (uFr d m2 k)/\Bx w d s w') (fun _ i _=>d.fr.length-(intOf i).toNat)
     case atStart=>exact ⟨0,Nat.zero_le _,rfl,rfl,xr⟩
     case round=>
      rename_i wr2
      obtain ⟨j,hj,rfl,rfl,xq⟩:=hrel;have hvs:=uFr_size d m2 j
      by_cases hlt2:j<d.fr.length
      ·obtain ⟨b,off,hab,_,hcell⟩:=(HL.out _ xq.bel).r3.get hlt2
       have y1:=hcell j hlt2;have HS:Hid (B5.laid (uFr d m2 j) (L1.recAt (d.fr.getD j 0)) (B4.zeros 16)=uFr d m2 (j+1)):=rfl;obtain ⟨z,ez⟩:∃ z,d.fr.getD j 0=z:=⟨_,rfl⟩;rw[ez] at y1 HS;rw[hab]
       have e1:(0:Int)<=(j:Int):=by omega
       have e2:(j:Int)<(d.fr.length:Int):=by omega
       have hwt:Hid (∀ W,Calls prog 122 #[.string (uFr d m2 j),Iv (L1.recAt z),.string (B4.zeros 16)] W (Rb (.string (B5.laid (uFr d m2 j) (L1.recAt z) (B4.zeros 16))) W)):=fun W=>B5.impl_With _ _ _ _ (by rw[hvs];omega) zeros_le
       clear ez hcell hvs
       go_wp2_with (first
        | (go_at_call 123;refine (L1.impl_RecAt _ _).mono ?_;rintro e w' ⟨rfl,rfl⟩)
        | (go_at_call 125;refine (B4.impl_Zeros _ _).mono ?_;rintro e w6 ⟨rfl,b6⟩;have x6:=xq.below b6)
        | (go_at_call 122;refine (hwt.out _).mono ?_;rintro e w7 ⟨rfl,b7⟩;have x7:=x6.below b7))
       go_roundw
       case rel=>exact ⟨j+1,by omega,by go_num,by rw[HS.out],x7⟩
       case measure=>simp[intOf];omega
      ·obtain rfl:j=d.fr.length:=by omega
       go_wp2;go_ret;exact ⟨by rw[HM2.out];rfl,xq.bel⟩
  ·have g8:((mem.size:Int) != 768)=true:=by simp;omega
   have HU:Hid (undo mem d=mem):=by
    show undo mem d=mem
    rw[undo,if_neg];rintro ⟨_,h⟩;exact hm h
   rw[HU.out];clear HU hok hm;go_enter func89,ntmps89
   go_wp2_with (first
    | (go_at_call 121;refine (HO.out _ x0.bel).mono ?_;rintro e w1 ⟨rfl,b1⟩;have x1:=x0.below b1)
    | (go_at_call 110;refine (B2.clone_any _ _ hms).mono ?_;rintro e w2 ⟨rfl,b2⟩;have x2:=x1.below b2))
   go_ret;exact ⟨rfl,x2.bel⟩
end N13
namespace N14
open ChangeShapes WideShapes ChangeAt RowKit
open N0 (Ln)
open N1 (Sl Lists Fit LB lb_new)
open N13 (uPg uFr undone undo uPg_size uFr_size laid_size zeros_le Bx bx_new)
theorem spec_Undo (mem:ByteArray) (d:Ln) (s:Sl) (w:World) (hms:mem.size<=281474976710656) (hF:Fit d s) (hpo:d.po.length<=1048576) (hfr:d.fr.length<=1048576) (hR:Lists w d s) :
  Calls prog 44 #[.string mem,N1.val d s] w (Rb (.string (undo mem d)) w):=by
 have x0:=bx_new w d s
 have HL:Hid (∀ W,Bq w W->Lists W d s):=fun W hb=>hR.below hb
 have HO:Hid (∀ W,Bq w W->_):=fun W hb=>N11.spec_LoanOk d s W hF hpo hfr (hR.below hb)
 have hrs:=hF.m4;have hss:=hF.m5;clear hR hF
 cases hok:N0.loanOk d with
 | false=>
  rw[hok] at HO
  have HU:Hid (undo mem d=mem):=by
   show undo mem d=mem
   rw[undo,if_neg];rintro ⟨h,_⟩;rw[hok] at h;cases h
  rw[HU.out];clear HU hok;go_enter func44,ntmps44
  go_wp2_with (go_at_call 68;refine (HO.out _ x0.bel).mono ?_;rintro e w1 ⟨rfl,b1⟩;have x1:=x0.below b1)
  go_ret;exact ⟨rfl,x1.bel⟩
 | true=>
  rw[hok] at HO
  by_cases hm:mem.size=768
  ·have g8:((mem.size:Int) != 768)=false:=by simp;omega
   have HU:Hid (undo mem d=undone mem d):=by
    show undo mem d=_
    rw[undo,if_pos ⟨hok,hm⟩]
   obtain ⟨-,-,-,-,-,-,hp6,-,hf2,hpp,-,-,-⟩:=N0.loanOk_is hok
   have hpg:∀ j,j<d.pg.length->5<=d.pg.getD j 0/\d.pg.getD j 0<=23:=fun j hj=>(N0.pagesOk_iff.1 hpp).1 _ (List.mem_append.2 (Or.inl (N0.getD_mem hj)))
   rw[HU.out]
   have h1s:(B5.laid mem (L1.recAt d.ino) d.rc).size=768:=by rw[laid_size];exact hm
   have HE:Hid (undone mem d=uFr d (uPg d (B5.laid mem (L1.recAt d.ino) d.rc) d.pg.length) d.fr.length):=rfl
   have hW:Hid (∀ W,Calls prog 66 #[.string mem,Iv (L1.recAt d.ino),.string d.rc] W fun e w'=>e=.returned (.string (B5.laid mem (L1.recAt d.ino) d.rc))/\∃ n,w'=W.drewN n):=fun W=>B5.spec_With _ _ _ _ hms hrs
   obtain ⟨m1,hm1⟩:∃ m1,B5.laid mem (L1.recAt d.ino) d.rc=m1:=⟨_,rfl⟩;rw[hm1] at h1s HE hW;rw[HE.out];clear HU HE hok hm1 hpp;go_enter func44,ntmps44
   go_wp2_with (go_at_call 68;refine (HO.out _ x0.bel).mono ?_;rintro e w1 ⟨rfl,b1⟩;have x1:=x0.below b1;have c0:=x1.arg.c0;have c3:=x1.arg.c3)
   go_quiet ((first
    | (go_at_call 46;exact Calls.quiet_of_same (L1.spec_RecAt _ _))
    | (go_at_call 66;exact Calls.quiet_of (hW.out _))))
   have x3:=x1.drewN nq;obtain ⟨w3,hw3⟩:∃ w3,w1.drewN nq=w3:=⟨_,rfl⟩;rw[hw3] at x3 ⊢;clear c0 c3 x1 b1 x0 hw3;go_wp2
   go_loopw [0,5] (fun v i w'=>∃ k:Nat,k<=d.pg.length/\i=Iv k/\v=.string (uPg d m1 k)/\Bx w d s w') (fun _ i _=>d.pg.length-(intOf i).toNat)
   case atStart=>exact ⟨0,Nat.zero_le _,rfl,rfl,x3⟩
   case round=>
    obtain ⟨k,hk,rfl,rfl,xr⟩:=hrel;have hus:=uPg_size d m1 k;have c4:=xr.arg.c4;have c5:=xr.arg.c5
    by_cases hlt:k<d.pg.length
    ·obtain ⟨b,off,hab,_,hcell⟩:=(HL.out _ xr.bel).r1.get hlt
     have y1:=hcell k hlt;have hz:=hpg k hlt;have HS:Hid (B5.laid (uPg d m1 k) (d.pg.getD k 0*32) (B2.part d.sav ((k:Int)*32) 32)=uPg d m1 (k+1)):=rfl;obtain ⟨z,ez⟩:∃ z,d.pg.getD k 0=z:=⟨_,rfl⟩;rw[ez] at y1 hz HS;rw[hab] at c4;clear hab
     have e1:(0:Int)<=(k:Int):=by omega
     have e2:(k:Int)<(d.pg.length:Int):=by omega
     have hpt:Hid (∀ W,Calls prog 71 #[.string d.sav,Iv (k:Int)] W (Rw (.string (B2.part d.sav ((k:Int)*32) 32)) W)):=fun W=>N13.l03Page0 _ _ _ hss (by omega)
     have hwt:Hid (∀ W,Calls prog 66 #[.string (uPg d m1 k),Iv (z*32),.string (B2.part d.sav ((k:Int)*32) 32)] W fun e w'=>e=.returned (.string (B5.laid (uPg d m1 k) (z*32) (B2.part d.sav ((k:Int)*32) 32)))/\∃ n,w'=W.drewN n):=fun W=>B5.spec_With _ _ _ _ (by rw[hus];omega) (Nat.le_trans (B2.part_size _ _ _) hss)
     clear ez hcell hus;go_wp2
     go_quiet ((first
      | (go_at_call 71;exact Calls.quiet_of_same (hpt.out _))
      | (go_at_call 66;exact Calls.quiet_of (hwt.out _))))
     have x5:=xr.drewN nq;go_wp2
     go_roundw
     case rel=>exact ⟨k+1,by omega,by go_num,by rw[HS.out],x5⟩
     case measure=>simp[intOf];omega
    ·obtain rfl:k=d.pg.length:=by omega
     have e9:decide ((d.pg.length:Int)<(d.pg.length:Int))=false:=by simp
     obtain ⟨m2,hm2⟩:∃ m2,uPg d m1 d.pg.length=m2:=⟨_,rfl⟩;have HM2:Hid (uPg d m1 d.pg.length=m2):=hm2;rw[hm2] at hus ⊢;clear hm2 x3 c5;go_wp2
     go_loopw [0,6] (fun v i w'=>∃ k:Nat,k<=d.fr.length/\i=Iv k/\v=.string (uFr d m2 k)/\Bx w d s w') (fun _ i _=>d.fr.length-(intOf i).toNat)
     case atStart=>exact ⟨0,Nat.zero_le _,rfl,rfl,xr⟩
     case round=>
      rename_i wr2
      obtain ⟨j,hj,rfl,rfl,xq⟩:=hrel;have hvs:=uFr_size d m2 j;have c7:=xq.arg.c7
      by_cases hlt2:j<d.fr.length
      ·obtain ⟨b,off,hab,_,hcell⟩:=(HL.out _ xq.bel).r3.get hlt2
       have y1:=hcell j hlt2;have HS:Hid (B5.laid (uFr d m2 j) (L1.recAt (d.fr.getD j 0)) (B4.zeros 16)=uFr d m2 (j+1)):=rfl;obtain ⟨z,ez⟩:∃ z,d.fr.getD j 0=z:=⟨_,rfl⟩;rw[ez] at y1 HS;rw[hab] at c7;clear hab
       have e1:(0:Int)<=(j:Int):=by omega
       have e2:(j:Int)<(d.fr.length:Int):=by omega
       have hwt:Hid (∀ W,Calls prog 66 #[.string (uFr d m2 j),Iv (L1.recAt z),.string (B4.zeros 16)] W fun e w'=>e=.returned (.string (B5.laid (uFr d m2 j) (L1.recAt z) (B4.zeros 16)))/\∃ n,w'=W.drewN n):=fun W=>B5.spec_With _ _ _ _ (by rw[hvs];omega) zeros_le
       clear ez hcell hvs
       go_wp2_with (first
        | (go_at_call 46;refine (L1.spec_RecAt _ _).mono ?_;rintro e w' ⟨rfl,rfl⟩)
        | (go_at_call 47;refine (B4.spec_Zeros _ _).mono ?_;rintro e w' ⟨rfl,rfl⟩)
        | (go_at_call 66;refine (hwt.out _).mono ?_;rintro e w7 ⟨rfl,m7,rfl⟩;have x7:=xq.drewN m7))
       go_roundw
       case rel=>exact ⟨j+1,by omega,by go_num,by rw[HS.out],x7⟩
       case measure=>simp[intOf];omega
      ·obtain rfl:j=d.fr.length:=by omega
       have e8:decide ((d.fr.length:Int)<(d.fr.length:Int))=false:=by simp
       go_wp2;go_ret;exact ⟨by rw[HM2.out];rfl,xq.bel⟩
  ·have g8:((mem.size:Int) != 768)=true:=by simp;omega
   have HU:Hid (undo mem d=mem):=by
    show undo mem d=mem
    rw[undo,if_neg];rintro ⟨_,h⟩;exact hm h
   rw[HU.out];clear HU hok hm;go_enter func44,ntmps44
   go_wp2_with (go_at_call 68;refine (HO.out _ x0.bel).mono ?_;rintro e w1 ⟨rfl,b1⟩;have x1:=x0.below b1)
   go_ret;exact ⟨rfl,x1.bel⟩
end N14
namespace LM
open Go.Conc.Locks
abbrev link:MuLink:={ lock:=79,unlock:=80,ilock:=108,iunlock:=109,lockSlow:=148,unlockSlow:=151,disable:=144,enable:=146,acquire:=147,relMerge:=149,cas32:=145,add32:=150,tMutex:=61,tIMutex:=59,tPMutex:=143,tPIMutex:=168,tPI32:=170,tUP:=172,tNoCopy:=56,tU32:=57 }
theorem lib:MuLib prog link:=by
 constructor
 all_goals first
  | exact func79.trans (congrArg some (by kernel_rfl))
  | exact func80.trans (congrArg some (by kernel_rfl))
  | exact func108.trans (congrArg some (by kernel_rfl))
  | exact func109.trans (congrArg some (by kernel_rfl))
  | exact func144.trans (congrArg some (by kernel_rfl))
  | exact func146.trans (congrArg some (by kernel_rfl))
  | exact func147.trans (congrArg some (by kernel_rfl))
  | exact func149.trans (congrArg some (by kernel_rfl))
  | exact func145.trans (congrArg some (by kernel_rfl))
  | exact func150.trans (congrArg some (by kernel_rfl))
  | kernel_rfl
  | (intro w;kernel_rfl)
end LM
end Go.Proofs.YtlejhfnjmkdobaaGreatDoor
