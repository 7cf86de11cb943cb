/- Joined texts. -/
import Derived.Test.YtlejhfnjmkdobaaGreatDoorJtR
import Derived.Test.YtlejhfnjmkdobaaGreatDoorJtP
import Derived.Test.YtlejhfnjmkdobaaGreatDoorJtZA
set_option linter.unusedVariables false
set_option linter.unusedSimpArgs false
set_option maxRecDepth 10000
set_option maxHeartbeats 16000000
namespace Go.Proofs.YtlejhfnjmkdobaaGreatDoor
open ChangeShapes WideShapes ChangeAt RowKit
open Go.Proofs.Tryz
namespace D7
open N0 (Ln)
open N1 (Sl LB lb_new)
open J0 (IBuf Own)
open I2 (ints)
open D0 (inos)
open D1 (nodeE data)
theorem l05Before (d:Ln) (s:Sl) (w:World) (hrs:d.rc.size<=281474976710656) (hss:d.sav.size<=281474976710656) (hI:G0.isI d.rc=true) :
  Calls prog 74 #[N1.val d s] w fun e w'=>∃ a' c',e=.returned (.slice a' (inos (N5.oldE d)).length c')/\J0.Own w.heap.size w' a' (inos (N5.oldE d))/\Bq w w':=by
 have k0:=lb_new d s w 46;have l0:=K0.below_new w (.cells (N1.Lc d s) 46);obtain ⟨⟨gs0,gs1⟩,-,-,-,-⟩:=O0.got hI
 have hsm:d.sav.size<=maxLen:=by unfold maxLen;omega
 have hG:Hid (∀ W,Calls prog 92 #[.string d.rc] W fun e w'=>∃ a c,e=.returned (.tuple #[I0.val (G0.gK d.rc) (G0.gO d.rc) (G0.gS d.rc) a (G0.gZ d.rc).length c,.bool (G0.isI d.rc)])/\J0.Own W.heap.size w' a (G0.gZ d.rc)/\(G0.gZ d.rc).length<=c/\Bq W w'):=fun W=>G4.spec_GetInode _ W hrs
 have hpt:Hid (∀ W,Calls prog 58 #[.string d.sav,Iv 0,Iv (G0.gS d.rc)] W (Rw (.string (B2.part d.sav 0 (G0.gS d.rc))) W)):=fun W=>B2.spec_Part _ _ _ _ hsm (by decide) (N11.wf_of _ (by omega) (by omega))
 have hgd:Hid (∀ W,Calls prog 93 #[.string (B2.part d.sav 0 (G0.gS d.rc))] W fun e w'=>∃ a c,e=.returned (.tuple #[.slice a (V0.dE (B2.part d.sav 0 (G0.gS d.rc))).length c,.bool (V0.isD (B2.part d.sav 0 (G0.gS d.rc)))])/\T0.Row w' a (V0.dE (B2.part d.sav 0 (G0.gS d.rc)))/\Bq W w'):=fun W=>(V3.spec_GetDir _ W (Nat.le_trans (B2.part_size _ _ _) hss)).mono fun e w' ⟨a,c,he,ho,_,hb⟩=>⟨a,c,he,ho.row,hb⟩
 rw[hI] at hG;have hEl:=D6.oldE_len d
 by_cases h2:G0.gK d.rc=2
 ·have hE:N5.oldE d=V0.dE (B2.part d.sav 0 (G0.gS d.rc)):=by rw[N5.oldE,if_pos h2]
  rw[hE] at hEl ⊢;obtain ⟨P,hP⟩:∃ P,B2.part d.sav 0 (G0.gS d.rc)=P:=⟨_,rfl⟩;rw[hP] at hpt hgd hEl ⊢;obtain ⟨E,hE2⟩:∃ E,V0.dE P=E:=⟨_,rfl⟩;rw[hE2] at hgd hEl ⊢;obtain ⟨b,hb0⟩:∃ b,V0.isD P=b:=⟨_,rfl⟩;rw[hb0] at hgd;obtain ⟨Z,hZ⟩:∃ Z,G0.gZ d.rc=Z:=⟨_,rfl⟩;obtain ⟨K,hK⟩:∃ K,G0.gK d.rc=K:=⟨_,rfl⟩;obtain ⟨O,hO⟩:∃ O,G0.gO d.rc=O:=⟨_,rfl⟩;obtain ⟨S,hS⟩:∃ S,G0.gS d.rc=S:=⟨_,rfl⟩;rw[hZ,hK,hO,hS] at hG;rw[hS] at hpt;rw[hK] at h2
  have g2:(K != 2)=false:=by simpa using h2
  clear hP hE2 hb0 hZ hK hO hS hE h2 hI gs0 gs1;go_enter func74,ntmps74
  go_wp2_with (first
   | (go_at_call 92;refine (hG.out _).mono ?_;rintro e w1 ⟨a,c,rfl,ho,hc,b1⟩;have n1:=K0.below_new w1 (.cells (Iq K O S a Z.length c) 96);have k1:=(k0.below b1).below n1;have l1:=(l0.trans (b1.mono l0.size)).trans (n1.mono (Nat.le_trans l0.size b1.size));have c5:=k1.c5)
   | (go_at_call 58;refine (hpt.out _).mono ?_;rintro e wq ⟨rfl,eq⟩;subst wq)
   | (go_at_call 93;refine (hgd.out _).mono ?_;rintro e w2 ⟨a2,c2,rfl,r2,b2⟩;have l2:=l1.trans (b2.mono l1.size))
   | (go_at_call 96;refine (D0.l05Inos a2 c2 E _ (by omega) r2).mono ?_;rintro e w3 ⟨a3,c3,rfl,o3,hc3,b3⟩))
  go_ret;exact ⟨a3,c3,rfl,o3.mono l2.size,l2.trans (b3.mono l2.size)⟩
 ·have hE:N5.oldE d=[]:=by rw[N5.oldE,if_neg h2]
  rw[hE];obtain ⟨Z,hZ⟩:∃ Z,G0.gZ d.rc=Z:=⟨_,rfl⟩;obtain ⟨K,hK⟩:∃ K,G0.gK d.rc=K:=⟨_,rfl⟩;obtain ⟨O,hO⟩:∃ O,G0.gO d.rc=O:=⟨_,rfl⟩;obtain ⟨S,hS⟩:∃ S,G0.gS d.rc=S:=⟨_,rfl⟩;rw[hZ,hK,hO,hS] at hG;rw[hK] at h2
  have g2:(K != 2)=true:=by simpa using h2
  clear hZ hK hO hS hE h2 hI gs0 gs1 hpt hgd hEl;go_enter func74,ntmps74
  go_wp2_with (go_at_call 92;refine (hG.out _).mono ?_;rintro e w1 ⟨a,c,rfl,ho,hc,b1⟩;have n1:=K0.below_new w1 (.cells (Iq K O S a Z.length c) 96);have l1:=(l0.trans (b1.mono l0.size)).trans (n1.mono (Nat.le_trans l0.size b1.size)))
  go_ret;exact ⟨_,_,rfl,Or.inl rfl,l1.alloc l1.size _⟩
def nowOk (mem:ByteArray) (i:Int):Bool:=!decide (G0.gK (O0.recd mem i)=2) || V0.isD (data mem i)
theorem isL_of {mem:ByteArray} {i:Int} (hm:mem.size=768) (hI:G0.isI (O0.recd mem i)=true) (hk:G0.gK (O0.recd mem i)≠0):O0.isL mem i=true:=by
 obtain ⟨e1,-,-,-⟩:=G0.g_yes hI;rw[O0.isL,decide_eq_true hm,hI,Bool.true_and,Bool.true_and,decide_eq_false (by rw[<- e1];exact hk)];rfl
theorem l05Now (mem:ByteArray) (d:Ln) (s:Sl) (w:World) (hm:mem.size=768) (hI:G0.isI (O0.recd mem d.ino)=true) (hk:G0.gK (O0.recd mem d.ino)≠0) :
  Calls prog 73 #[.string mem,N1.val d s] w fun e w'=>∃ a' c',e=.returned (.tuple #[.slice a' (inos (nodeE mem d.ino)).length c',.bool (nowOk mem d.ino)])/\J0.Own w.heap.size w' a' (inos (nodeE mem d.ino))/\Bq w w':=by
 have k0:=lb_new d s w 46;have l0:=K0.below_new w (.cells (N1.Lc d s) 46);obtain ⟨e1,e2,e3,e4,e5⟩:=O0.l_yes (isL_of hm hI hk);have e5':O0.lD mem d.ino=data mem d.ino:=e5
 have hG:Hid (∀ W,Calls prog 61 #[.string mem,Iv d.ino] W fun e w'=>∃ a c,e=.returned (.tuple #[I0.val (G0.gK (O0.recd mem d.ino)) (O0.lO mem d.ino) (O0.lS mem d.ino) a (O0.lZ mem d.ino).length c,.string (data mem d.ino),.bool (O0.isL mem d.ino)])/\Bq W w'):=fun W=>(O3.spec_Load mem d.ino W (by omega)).mono fun e w' ⟨a,c,he,ho,hc,hb⟩=>⟨a,c,by rw[he,e1,e5'],hb⟩
 have hgd:Hid (∀ W,Calls prog 93 #[.string (data mem d.ino)] W fun e w'=>∃ a c,e=.returned (.tuple #[.slice a (V0.dE (data mem d.ino)).length c,.bool (V0.isD (data mem d.ino))])/\T0.Row w' a (V0.dE (data mem d.ino))/\Bq W w'):=fun W=>(V3.spec_GetDir _ W (D1.data_le mem d.ino hm)).mono fun e w' ⟨a,c,he,ho,_,hb⟩=>⟨a,c,he,ho.row,hb⟩
 have hEl:=D6.nodeE_len mem d.ino;obtain ⟨Z,hZ⟩:∃ Z,O0.lZ mem d.ino=Z:=⟨_,rfl⟩;obtain ⟨O,hO⟩:∃ O,O0.lO mem d.ino=O:=⟨_,rfl⟩;obtain ⟨S,hS⟩:∃ S,O0.lS mem d.ino=S:=⟨_,rfl⟩;obtain ⟨bl,hbl⟩:∃ b,O0.isL mem d.ino=b:=⟨_,rfl⟩;rw[hZ,hO,hS,hbl] at hG;clear e1 e2 e3 e4 e5 e5' hZ hO hS hbl
 by_cases h2:G0.gK (O0.recd mem d.ino)=2
 ·have hE:nodeE mem d.ino=V0.dE (data mem d.ino):=by rw[nodeE,if_pos h2]
  have hN:nowOk mem d.ino=V0.isD (data mem d.ino):=by rw[nowOk,decide_eq_true h2];rfl
  rw[hE] at hEl;rw[hE,hN];obtain ⟨P,hP⟩:∃ P,data mem d.ino=P:=⟨_,rfl⟩;rw[hP] at hG hgd hEl ⊢;obtain ⟨E,hE2⟩:∃ E,V0.dE P=E:=⟨_,rfl⟩;rw[hE2] at hgd hEl ⊢;obtain ⟨b,hb0⟩:∃ b,V0.isD P=b:=⟨_,rfl⟩;rw[hb0] at hgd ⊢;obtain ⟨K,hK⟩:∃ K,G0.gK (O0.recd mem d.ino)=K:=⟨_,rfl⟩;rw[hK] at hG h2
  have g2:(K != 2)=false:=by simpa using h2
  clear hP hE2 hb0 hK hE hN h2 hI hk;go_enter func73,ntmps73
  go_wp2_with (first
   | (go_at_call 61;refine (hG.out _).mono ?_;rintro e w1 ⟨a,c,rfl,b1⟩;have n1:=K0.below_new w1 (.cells (Iq K O S a Z.length c) 96);have l1:=(l0.trans (b1.mono l0.size)).trans (n1.mono (Nat.le_trans l0.size b1.size)))
   | (go_at_call 93;refine (hgd.out _).mono ?_;rintro e w2 ⟨a2,c2,rfl,r2,b2⟩;have l2:=l1.trans (b2.mono l1.size))
   | (go_at_call 96;refine (D0.l05Inos a2 c2 E _ (by omega) r2).mono ?_;rintro e w3 ⟨a3,c3,rfl,o3,hc3,b3⟩))
  go_ret2
  exact ⟨a3,c3,rfl,o3.mono l2.size,l2.trans (b3.mono l2.size)⟩
 ·have hE:nodeE mem d.ino=[]:=by rw[nodeE,if_neg h2]
  have hN:nowOk mem d.ino=true:=by rw[nowOk,decide_eq_false h2];rfl
  rw[hE,hN];obtain ⟨P,hP⟩:∃ P,data mem d.ino=P:=⟨_,rfl⟩;rw[hP] at hG;obtain ⟨K,hK⟩:∃ K,G0.gK (O0.recd mem d.ino)=K:=⟨_,rfl⟩;rw[hK] at hG h2
  have g2:(K != 2)=true:=by simpa using h2
  clear hP hK hE hN h2 hI hk hgd hEl;go_enter func73,ntmps73
  go_wp2_with (go_at_call 61;refine (hG.out _).mono ?_;rintro e w1 ⟨a,c,rfl,b1⟩;have n1:=K0.below_new w1 (.cells (Iq K O S a Z.length c) 96);have l1:=(l0.trans (b1.mono l0.size)).trans (n1.mono (Nat.le_trans l0.size b1.size)))
  go_ret2
  exact ⟨_,_,rfl,Or.inl rfl,l1.alloc l1.size _⟩
section
variable {base n cap : Nat} {a : Option Addr} {w W : World} {zs : List Int}
theorem run_rows (ty:TypeId) (hbuf:IBuf base w a n cap zs) (ax:Option Addr) (cx:Nat) (xs:List Int) (hR:P0.Row w ax xs) (hlen:n+xs.length<=4194304) (hb:base<=w.heap.size) :
  ∃ a' cap' w',(Builtin.append_ #[32,32] ty #[.slice a n cap,.slice ax xs.length cx]).run prog w=.ok (.slice a' (n+xs.length) cap') w'/\IBuf base w' a' (n+xs.length) cap' (zs++xs)/\w.grownBy w' (Value.slice a n cap).ownBlock/\(∀ g,(Value.slice a' (n+xs.length) cap').ownBlock=some g->(Value.slice a n cap).ownBlock=some g\/g=w.heap.size):=by
 obtain ⟨i0,hi,hz0,hz1,hz2⟩:=info_parts I2.info3
 by_cases h0:xs=[]
 ·subst h0
  refine ⟨a,cap,w,Q1.run_append_none w 32 _ 3 i0 underlying32 hi a n cap hbuf.fits ax cx,by rw[List.append_nil];exact hbuf,⟨rfl,rfl,rfl,Nat.le_refl _,fun _ _ _=>rfl⟩,fun g hg=>Or.inl ?_⟩
  cases a with
  | none=>cases hg
  | some p=>exact hg
 ·rcases hR with hR | ⟨b,off,rfl,hb2,hc⟩
  ·exact absurd hR h0
  ·have hm:0<xs.length:=List.length_pos_iff.2 h0
   obtain ⟨g,cp,w',hrun,r1,r2,r3,r4⟩:=run_append_lies (P:=prog) w 32 ty base 3 i0 (Iv 0) 1 8 underlying32 hi hz0 hz1 hz2 rfl (by omega) _ n _ hbuf.2 ⟨b,off,none⟩ xs.length cx (ints xs) (by simp) (by
    intro j u hj
    have hj':j<xs.length:=by
     have:=(List.getElem?_eq_some_iff.1 hj).1
     simpa using this
    rw[B0.add_off,hc j hj',P0.getD_get _ _ hj',<- hj]
    simp[hj']) (Q1.ints_one xs) hm (by unfold maxLen;omega) (by omega) hb _ rfl
   refine ⟨some ⟨g,0,none⟩,cp,w',hrun,⟨by rw[hbuf.1];simp,?_⟩,r2,fun g2 h2=>?_⟩
   ·rw[show ints (zs++xs)=ints zs++ints xs by simp]
    exact r1
   ·cases h2
    exact r3
theorem run_below (hbuf:IBuf base w a n cap zs) (hb:base<=w.heap.size) (hg:w.grownBy W (Value.slice a n cap).ownBlock):Below base w W:=F0.below_grown (Below.refl _ _) hg (J0.own_block hbuf) hb
theorem own_grown {b:Nat} {r:Option Nat} (h:J0.Own b w a zs) (hg:w.grownBy W r) (hne:∀ g,a=some ⟨g,0,none⟩->r≠some g):J0.Own b W a zs:=by
 rcases h with h | ⟨g,e,hbg,hk⟩
 ·exact Or.inl h
 ·refine Or.inr ⟨g,e,hbg,?_⟩
  have hb:W.heap[g]? = w.heap[g]?:=hg.block g hk.lt (fun q=>hne g e q.symm);exact ⟨fun j hj=>(World.cell?_of_block (a:=⟨g,j,none⟩) hb).trans (hk.cell j hj),fun j hj=>(World.frozen?_of_block (a:=⟨g,j,none⟩) hb).trans (hk.free j hj),Nat.lt_of_lt_of_le hk.lt hg.size⟩
theorem blk_grown {B:Nat} {vs:List Value} {r:Option Nat} (hk:K0.Blk B vs w) (hg:w.grownBy W r) (hne:r≠some B):K0.Blk B vs W:=by
 have hb:W.heap[B]? = w.heap[B]?:=hg.block B hk.lt (fun q=>hne q.symm);exact ⟨fun j hj=>(World.cell?_of_block (a:=⟨B,j,none⟩) hb).trans (hk.cell j hj),fun j hj=>(World.frozen?_of_block (a:=⟨B,j,none⟩) hb).trans (hk.free j hj),Nat.lt_of_lt_of_le hk.lt hg.size⟩
theorem append_rows2 {ops:Array Oper} {rest:List Oper} {o:Oper} {A:Act} {Q:Exit->Act->World->Prop} (hgd:o.guard=none) (sl x:Operand)
  (ho:o.op=.call { callee:=.builtin .append,args:=#[sl,x],argTypes:=#[32,32] })
  (hbuf:IBuf base w a n cap zs) (ax:Option Addr) (cx:Nat) (xs:List Int) (hs:A.eval sl=.slice a n cap) (hx:A.eval x=.slice ax xs.length cx) (hR:P0.Row w ax xs) (hlen:n+xs.length<=4194304) (hb:base<=w.heap.size)
  (h:∀ a' cap' w',IBuf base w' a' (n+xs.length) cap' (zs++xs)->w.grownBy w' (Value.slice a n cap).ownBlock->(∀ g,(Value.slice a' (n+xs.length) cap').ownBlock=some g->(Value.slice a n cap).ownBlock=some g\/g=w.heap.size)->wpList prog ops Q rest (A.put o.dst (.slice a' (n+xs.length) cap')) w'):wpList prog ops Q (o :: rest) A w:=by
 obtain ⟨a',cap',w',hrun,r1,r2,r3⟩:=run_rows o.type hbuf ax cx xs hR hlen hb;exact Lib.wpList_append_run _ hgd sl x 32 32 ho _ _ hs hx _ _ hrun (h a' cap' w' r1 r2 r3)
theorem one_rows {ops:Array Oper} {Q:Exit->Act->World->Prop} {S:World->Prop} {A:Act} {i:Nat} {o:Oper} {listed:Array Bool} {fuel:Nat} {md:Region.Mode} (hr:Region.ready md ops listed=[i]) (hoi:ops[i]? = some o) (hw:Region.wanted o (yielded ops A.tmps)=true) (sl x:Operand)
  (ho:o.op=.call { callee:=.builtin .append,args:=#[sl,x],argTypes:=#[32,32] })
  (hbuf:IBuf base w a n cap zs) (ax:Option Addr) (cx:Nat) (xs:List Int) (hs:A.eval sl=.slice a n cap) (hx:A.eval x=.slice ax xs.length cx) (hR:P0.Row w ax xs) (hlen:n+xs.length<=4194304) (hb:base<=w.heap.size)
  (h:∀ a' cap' w',IBuf base w' a' (n+xs.length) cap' (zs++xs)->Below base w w'->S w'/\wpAnyH prog md ops Q S fuel (listed.setIfInBounds i true) (A.put o.dst (.slice a' (n+xs.length) cap')) w'):wpAnyH prog md ops Q S (fuel+1) listed A w:=by
 obtain ⟨a',cap',w',hrun,r1,r2,r3⟩:=run_rows o.type hbuf ax cx xs hR hlen hb;obtain ⟨h1,h2⟩:=h a' cap' w' r1 (run_below hbuf hb r2);exact Y0.one_plain hr hoi hw (by simp[execOp,ho,resolve,invoke,builtin,hs,hx,hrun,Result.andThen]) h1 h2
end
end D7
namespace Y1
open N0 (Ln)
open N1 (Sl Lists Fit)
open N7 (tv tvs tObj)
open D1 (nodeE)
open J0 (IBuf Own)
open I2 (ints)
def only (zs al:List Int):List Int:=zs.filter (P0.has al)
def come (mem:ByteArray) (d:Ln):List Int:=if D6.verdict mem d=true then only d.fr (D0.inos (nodeE mem d.ino)) else []
theorem only_yes {zs al:List Int} {k:Nat} (hk:k<zs.length) (h:P0.has al (zs.getD k 0)=true):only (zs.take (k+1)) al=only (zs.take k) al ++ [zs.getD k 0]:=by
 unfold only;rw[List.take_succ_eq_append_getElem hk,List.filter_append,P0.getD_get _ _ hk];rw[P0.getD_get _ _ hk] at h;simp[h]
theorem only_no {zs al:List Int} {k:Nat} (hk:k<zs.length) (h:P0.has al (zs.getD k 0)=false):only (zs.take (k+1)) al=only (zs.take k) al:=by
 unfold only;rw[List.take_succ_eq_append_getElem hk,List.filter_append];rw[P0.getD_get _ _ hk] at h;simp[h]
theorem only_len (zs al:List Int) (k:Nat):(only (zs.take k) al).length<=zs.length:=Nat.le_trans (List.length_filter_le _ _) (by rw[List.length_take];omega)
def Apart (W:World) (be:Option Addr) (es:List T0.Ent) (a:Option Addr):Prop:=T0.Row W be es/\(es=[]\/∀ p q,a=some p->be=some q->p.block≠q.block)
variable {w W W' : World} {a a' be : Option Addr} {es : List T0.Ent}
theorem Apart.below (h:Apart W be es a) (hb:Bq W W'):Apart W' be es a:=⟨h.1.below hb,h.2⟩
theorem Apart.grown {n c n' c':Nat} (h:Apart W be es a) (hg:W.grownBy W' (Value.slice a n c).ownBlock) (hn:∀ g,(Value.slice a' n' c').ownBlock=some g->(Value.slice a n c).ownBlock=some g\/g=W.heap.size):Apart W' be es a':=by
 rcases h.1 with h0 | ⟨b,off,rfl,hlt,hc⟩
 ·exact ⟨Or.inl h0,Or.inl h0⟩
 ·rcases h.2 with h0 | hne
  ·exact ⟨Or.inl h0,Or.inl h0⟩
  ·have hb:W'.heap[b]? = W.heap[b]?:=hg.block b hlt (fun q=>by
    cases a with
    | none=>cases q
    | some p=>exact hne p _ rfl rfl (by simpa [Value.ownBlock] using q.symm))
   refine ⟨Or.inr ⟨b,off,rfl,Nat.lt_of_lt_of_le hlt hg.size,fun j hj=>⟨(World.cell?_of_block (a:=⟨b,off+j*2,none⟩) hb).trans (hc j hj).1,(World.cell?_of_block (a:=⟨b,off+j*2+1,none⟩) hb).trans (hc j hj).2⟩⟩,Or.inr fun p q hp hq=>?_⟩;cases hq;subst hp
   rcases hn p.block rfl with h1 | h1
   ·cases a with
    | none=>cases h1
    | some p0=>
     have:p0.block=p.block:=by simpa [Value.ownBlock] using h1
     rw[<- this];exact hne p0 _ rfl rfl
   ·show p.block≠b
    omega
theorem apart_new {B:Nat} (hR:T0.Row W be es) (hB:W.heap[B]? = some (.cells #[] 3)):Apart W be es (some ⟨B,0,none⟩):=by
 rcases hR with h0 | ⟨b,off,rfl,hlt,hc⟩
 ·exact ⟨Or.inl h0,Or.inl h0⟩
 ·by_cases h0:es=[]
  ·exact ⟨Or.inl h0,Or.inl h0⟩
  ·refine ⟨Or.inr ⟨b,off,rfl,hlt,hc⟩,Or.inr fun p q hp hq=>?_⟩
   cases hp;cases hq
   show B≠b
   rintro rfl;have:=(hc 0 (List.length_pos_iff.2 h0)).1;simp[World.cell?,hB] at this
theorem row_one (w:World) (z:Int):P0.Row (w.alloc (.cells #[Iv z] 3)) (some ⟨w.heap.size,0,none⟩) [z]:=I2.row_of_blk (K0.blk_new (ints [z]) w 3)
theorem impl_Come (mem:ByteArray) (d:Ln) (s:Sl) (w:World) (hms:mem.size<=281474976710656) (hF:Fit d s) (hpo:d.po.length<=1048576) (hfr:d.fr.length<=1048576) (hR:Lists w d s) :
  Calls prog 128 #[.string mem,N1.val d s] w fun e w'=>∃ a c,e=.returned (.slice a (come mem d).length c)/\(come mem d).length<=c/\J0.Own w.heap.size w' a (come mem d)/\Bq w w':=by
 have l0:=K0.below_new w (.cells (N1.Lc d s) 46);have l1:=l0.alloc l0.size (.cells #[] 3);have b0:=J0.ibuf_made (base:=w.heap.size) (w.alloc (.cells (N1.Lc d s) 46)) l0.size;have k0:=heap_alloc_new (w.alloc (.cells (N1.Lc d s) 46)) (.cells #[] 3)
 have HK:Hid (∀ W,Bq w W->Calls prog 153 #[.string mem,N1.val d s] W fun e w'=>∃ (k o t:Int) (a:Option Addr) (n c:Nat) (ae:Option Addr) (ne ce:Nat) (d':Ln) (s':Sl) (be:Option Addr) (n2 c2:Nat),e=.returned (.tuple #[tv k o t a n c ae ne ce d' s',.slice be n2 c2,.bool (D6.verdict mem d)])/\Bq W w'/\(D6.verdict mem d=true->d'=d/\s'=s/\n2=(nodeE mem d.ino).length/\T0.Row w' be (nodeE mem d.ino))):=fun W hb=>(D6.lookBack mem d s W hms hF hpo hfr (hR.below hb)).mono fun e w' ⟨k,o,t,a,n,c,ae,ne,ce,d',s',be,n2,c2,he,hb,hy⟩=>⟨k,o,t,a,n,c,ae,ne,ce,d',s',be,n2,c2,he,hb,fun h=>⟨(hy h).1,(hy h).2.1,(hy h).2.2.2.2.1,(hy h).2.2.2.2.2⟩⟩
 have hr3:Hid (∀ W,Bq w W->P0.Row W s.a3 d.fr):=fun W hb=>(hR.below hb).r3
 clear hF;have hel:=D6.nodeE_len mem d.ino
 cases hv:D6.verdict mem d with
 | false=>
  have hco:come mem d=[]:=by rw[come,hv];rfl
  rw[hco];rw[hv] at HK;clear hv hco hel hR;go_enter func128,ntmps128
  go_wp2_with (go_at_call 153;refine (HK.out _ l1).mono ?_;rintro e w1 ⟨k,o,t,a,n,c,ae,ne,ce,d',s',be,n2,c2,rfl,b1,-⟩)
  go_ret;exact ⟨_,_,rfl,Nat.le_refl _,Or.inl rfl,(l1.trans (b1.mono l1.size)).alloc (Nat.le_trans l1.size b1.size) _⟩
 | true=>
  have hco:come mem d=only d.fr (D0.inos (nodeE mem d.ino)):=by rw[come,if_pos hv]
  rw[hco];rw[hv] at HK;obtain ⟨es,hes⟩:∃ es,nodeE mem d.ino=es:=⟨_,rfl⟩;rw[hes] at HK hel ⊢;clear hv hco hR hes;go_enter func128,ntmps128
  go_wp2_with (go_at_call 153;refine (HK.out _ l1).mono ?_;rintro e w1 ⟨k,o,t,a,n,c,ae,ne,ce,d',s',be,n2,c2,rfl,b1,hy⟩;obtain ⟨ed,es',rfl,rE⟩:=hy rfl;subst d';subst s';clear hy;have n2':=K0.below_new w1 (tObj k o t a n c ae ne ce d s))
  have ap:Apart (w1.alloc (tObj k o t a n c ae ne ce d s)) be es (some ⟨w.heap.size+1,0,none⟩):=Apart.below (apart_new (B:=w.heap.size+1) rE ((b1.block _ (by simp)).trans (by simpa using k0))) n2'
  have bf:IBuf w.heap.size (w1.alloc (tObj k o t a n c ae ne ce d s)) (some ⟨w.heap.size+1,0,none⟩) 0 0 []:=by
   have:=(b0.below b1).below n2'
   simpa using this
  have l2:=(l1.trans (b1.mono l1.size)).alloc (Nat.le_trans l1.size b1.size) (tObj k o t a n c ae ne ce d s);clear b0 k0 l0 l1 HK
  go_loopw [5,26] (fun v i w'=>∃ (k n c:Nat) (a:Option Addr),k<=d.fr.length/\i=Iv k/\v=.slice a n c/\IBuf w.heap.size w' a n c (only (d.fr.take k) (D0.inos es))/\Apart w' be es a/\Bq w w') (fun _ i _=>d.fr.length-(intOf i).toNat)
  case atStart=>exact ⟨0,0,0,_,Nat.zero_le _,rfl,rfl,bf,ap,l2⟩
  case round=>
   obtain ⟨k5,n5,c5,a5,hk,rfl,rfl,hbuf,hap,hbel⟩:=hrel;clear bf ap l2 rE
   by_cases hlt:k5<d.fr.length
   ·obtain ⟨b,off,hab,_,hc⟩:=(hr3.out _ hbel).get hlt
    have x1:=hc k5 hlt
    have hyes:=fun h=>only_yes (zs:=d.fr) (al:=D0.inos es) hlt h
    have hno:=fun h=>only_no (zs:=d.fr) (al:=D0.inos es) hlt h
    have hnl:n5<=d.fr.length:=by rw[hbuf.1];exact only_len _ _ _
    obtain ⟨z,ez⟩:∃ z,d.fr.getD k5 0=z:=⟨_,rfl⟩;rw[ez] at x1 hyes hno;rw[hab]
    have e1:(0:Int)<=(k5:Int):=by omega
    have e2:(k5:Int)<(d.fr.length:Int):=by omega
    have hI:Hid (∀ W,T0.Row W be es->_):=fun W h=>D0.hasIno be c2 es z W (by omega) h
    cases h:P0.has (D0.inos es) z with
    | true=>
     have HS:Hid (only (d.fr.take k5) (D0.inos es) ++ [z]=only (d.fr.take (k5+1)) (D0.inos es)):=(hyes h).symm;rw[h] at hI;clear ez hc hyes hno h
     go_wp2_with (first
      | (go_at_call 154;refine (hI.out _ hap.1).mono ?_;rintro e w6 ⟨rfl,b6⟩;have p6:=(hap.below b6).below (K0.below_new w6 (.cells #[Iv z] 3));have f6:=(hbuf.below b6).alloc (.cells #[Iv z] 3);have l6:=(hbel.trans (b6.mono hbel.size)).alloc (Nat.le_trans hbel.size b6.size) (.cells #[Iv z] 3))
      | (at_builtin;refine D7.append_rows2 rfl (.tmp 33) (.tmp 35) rfl f6 _ _ [z] (by rfl) (by rfl) (row_one w6 z) (by simp only[List.length_cons,List.length_nil];omega) l6.size ?_;intro a7 c7 w7 f7 g7 o7))
     have p7:=p6.grown g7 o7;have l7:=l6.trans (D7.run_below f6 l6.size g7)
     go_roundw
     case rel=>exact ⟨k5+1,n5+1,c7,a7,by omega,by go_num,rfl,by rw[<- HS.out];exact f7,p7,l7⟩
     case measure=>simp[intOf];omega
    | false=>
     have HS:Hid (only (d.fr.take (k5+1)) (D0.inos es)=only (d.fr.take k5) (D0.inos es)):=hno h;rw[h] at hI;clear ez hc hyes hno h
     go_wp2_with (go_at_call 154;refine (hI.out _ hap.1).mono ?_;rintro e w6 ⟨rfl,b6⟩)
     go_roundw
     case rel=>exact ⟨k5+1,n5,c5,a5,by omega,by go_num,rfl,by rw[HS.out];exact hbuf.below b6,hap.below b6,hbel.trans (b6.mono hbel.size)⟩
     case measure=>simp[intOf];omega
   ·obtain rfl:k5=d.fr.length:=by omega
    have HF:Hid (IBuf w.heap.size wr a5 n5 c5 (only d.fr (D0.inos es))):=by
     show IBuf _ _ _ _ _ _
     rw[List.take_length] at hbuf;exact hbuf
    have e9:decide ((d.fr.length:Int)<(d.fr.length:Int))=false:=by simp
    clear hbuf hap;go_wp2;go_ret;exact ⟨a5,c5,by rw[<- HF.out.1];rfl,by rw[<- HF.out.1];exact HF.out.fits,HF.out.own,hbel⟩
end Y1
namespace Y2
open J0 (IBuf Own)
open I2 (ints)
theorem step_rows {base n cp:Nat} {p:Option Addr} {W:World} {zs:List Int} {ops:Array Oper} {o:Oper} {A:Act} {K:Act->World->Prop} {Q:Exit->Act->World->Prop} {E:Prop} (hgd:o.guard=none) (sl x:Operand)
  (ho:o.op=.call { callee:=.builtin .append,args:=#[sl,x],argTypes:=#[32,32] })
  (hbuf:IBuf base W p n cp zs) (ax:Option Addr) (cx:Nat) (xs:List Int) (hs:A.eval sl=.slice p n cp) (hx:A.eval x=.slice ax xs.length cx) (hR:P0.Row W ax xs) (hlen:n+xs.length<=4194304) (hb:base<=W.heap.size)
  (h:∀ a' cap' w',IBuf base w' a' (n+xs.length) cap' (zs++xs)->W.grownBy w' (Value.slice p n cp).ownBlock->K (A.put o.dst (.slice a' (n+xs.length) cap')) w') :
  if Region.wanted o (yielded ops A.tmps)=true then Oper.wp prog o A W K Q else E:=by
 have hw:Region.wanted o (yielded ops A.tmps)=true:=by simp[Region.wanted,hgd]
 rw[if_pos hw];obtain ⟨a',cap',w',hrun,r1,r2,r3⟩:=D7.run_rows o.type hbuf ax cx xs hR hlen hb;exact Lib.wp_append_run _ sl x 32 32 ho _ _ hs hx _ _ hrun (h a' cap' w' r1 r2)
theorem row_grown {W W':World} {ax:Option Addr} {xs:List Int} {r:Option Nat} (h:P0.Row W ax xs) (hg:W.grownBy W' r) (hne:∀ p,ax=some p->r≠some p.block):P0.Row W' ax xs:=by
 rcases h with h | ⟨b,off,rfl,hlt,hc⟩
 ·exact Or.inl h
 ·have hb:W'.heap[b]? = W.heap[b]?:=hg.block b hlt (fun q=>hne _ rfl q.symm)
  exact Or.inr ⟨b,off,rfl,Nat.lt_of_lt_of_le hlt hg.size,fun j hj=>(World.cell?_of_block (a:=⟨b,off+j,none⟩) hb).trans (hc j hj)⟩
theorem l04Add (g off c:Nat) (zs:List Int) (x:Int) (w:World) (hn:zs.length<=1048576) (hc:zs.length<=c) (hR:P0.Row w (some ⟨g,off,none⟩) zs) (hx:∀ j,j<zs.length->zs.getD j 0<x) :
  Calls prog 67 #[.slice (some ⟨g,off,none⟩) zs.length c,Iv x] w fun e w'=>∃ a' c',e=.returned (.slice a' (zs ++ [x]).length c')/\IBuf w.heap.size w' a' (zs ++ [x]).length c' (zs ++ [x])/\Bq w w':=by
 go_enter func67,ntmps67;go_wp2
 go_loop [5] (fun i=>∃ k:Nat,k<=zs.length/\i=Iv k) (fun i=>zs.length-(intOf i).toNat)
 case atStart=>exact ⟨0,Nat.zero_le _,rfl⟩
 case round=>
  obtain ⟨k,hk,rfl⟩:=hrel
  by_cases hlt:k<zs.length
  ·obtain ⟨b,of2,hab,_,hcl⟩:=hR.get hlt
   cases hab;have x1:=hcl k hlt;have x2:=hx k hlt;obtain ⟨z,ez⟩:∃ z,zs.getD k 0=z:=⟨_,rfl⟩;rw[ez] at x1 x2
   have e1:(0:Int)<=(k:Int):=by omega
   have e2:(k:Int)<(zs.length:Int):=by omega
   clear ez hcl hx hR;go_wp2
   go_round
   case rel=>exact ⟨k+1,by omega,by go_num⟩
   case measure=>simp[intOf];omega
  ·obtain rfl:k=zs.length:=by omega
   have e9:decide ((zs.length:Int)<(zs.length:Int))=false:=by simp
   have e1:(0:Int)<=(zs.length:Int):=by omega
   have e2:(zs.length:Int)<=(c:Int):=by omega
   obtain ⟨E,hE⟩:∃ E,Obj.cells #[] 3=E:=⟨_,rfl⟩;obtain ⟨X,hX⟩:∃ X,Obj.cells #[Iv x] 3=X:=⟨_,rfl⟩;have L0:Bq w w.drew:=(Below.refl _ _).drew;have L1:=L0.alloc L0.size (.cells #[] 3);have L2:=L1.alloc L1.size (.cells #[Iv x] 3);have M1:=L0.alloc L0.size (.cells #[Iv x] 3);have L3:=M1.alloc M1.size (.cells #[] 3);have B1:=J0.ibuf_made w.drew L0.size;have B2:=B1.alloc (.cells #[Iv x] 3);have B3:=J0.ibuf_made (w.drew.alloc (.cells #[Iv x] 3)) M1.size;have X2:=Y1.row_one (w.drew.alloc (.cells #[] 3)) x;have X3:=(Y1.row_one w.drew x).alloc (.cells #[] 3)
   have hq:zs.length+1<=4194304:=by omega
   clear hE hX E X
   by_cases hcn:c=zs.length
   ·subst c
    clear hx hlt hk hc;go_wp2
    go_region_law (first
     | (refine step_rows rfl (.tmp 27) (.tmp 30) rfl f8 (some ⟨g,off,none⟩) (0) [] (by simp[Act.eval,Act.put]) (by simp[Act.eval,Act.put]) (Or.inl rfl) (by simp only[List.length_cons,List.length_nil];omega) l8.size ?_;intro a9 c9 w9 f9 g9;have l9:=l8.trans (D7.run_below f8 l8.size g9))
     | (refine step_rows rfl (.tmp 24) (.tmp 26) rfl f7 _ _ [x] (by simp[Act.eval,Act.put]) (by simp[Act.eval,Act.put];rfl) x7 (by simp only[List.length_cons,List.length_nil];omega) l7.size ?_;intro a8 c8 w8 f8 g8;have l8:=l7.trans (D7.run_below f7 l7.size g8))
     | (refine step_rows rfl (.tmp 24) (.tmp 26) rfl (f7.alloc (.cells #[Iv x] 3)) (some ⟨w7.heap.size,0,none⟩) 1 [x] (by simp[Act.eval,Act.put]) (by simp[Act.eval,Act.put]) (Y1.row_one w7 x) (by simp only[List.length_cons,List.length_nil];omega) (l7.alloc l7.size _).size ?_;intro a8 c8 w8 f8 g8;have l8:=(l7.alloc l7.size (.cells #[Iv x] 3)).trans (D7.run_below (f7.alloc (.cells #[Iv x] 3)) (l7.alloc l7.size (.cells #[Iv x] 3)).size g8))
     | (refine step_rows rfl (.tmp 20) (.tmp 23) rfl B1 (some ⟨g,off,none⟩) zs.length zs (by simp[Act.eval,Act.put]) (by simp[Act.eval,Act.put]) (hR.below L1) (by omega) L1.size ?_;intro a7 c7 w7 f7 g7;have l7:=L1.trans (D7.run_below B1 L1.size g7))
     | (refine step_rows rfl (.tmp 20) (.tmp 23) rfl B2 (some ⟨g,off,none⟩) zs.length zs (by simp[Act.eval,Act.put]) (by simp[Act.eval,Act.put]) (hR.below L2) (by omega) L2.size ?_;intro a7 c7 w7 f7 g7;have l7:=L2.trans (D7.run_below B2 L2.size g7);have x7:=row_grown X2 g7 (by rintro p ⟨⟩ h;simp[Value.ownBlock] at h))
     | (refine step_rows rfl (.tmp 20) (.tmp 23) rfl B3 (some ⟨g,off,none⟩) zs.length zs (by simp[Act.eval,Act.put]) (by simp[Act.eval,Act.put]) (hR.below L3) (by omega) L3.size ?_;intro a7 c7 w7 f7 g7;have l7:=L3.trans (D7.run_below B3 L3.size g7);have x7:=row_grown X3 g7 (by rintro p ⟨⟩ h;simp[Value.ownBlock] at h)))
    all_goals
     go_wp2;go_ret;exact ⟨a9,c9,by rw[List.length_append];rfl,by simpa using f9,l9⟩
   ·clear hx hlt hk
    go_wp2
    go_region_law (first
     | (refine step_rows rfl (.tmp 27) (.tmp 30) rfl f8 (some ⟨g,off+zs.length,none⟩) (c-zs.length) [] (by simp[Act.eval,Act.put]) (by simp[Act.eval,Act.put]) (Or.inl rfl) (by simp only[List.length_cons,List.length_nil];omega) l8.size ?_;intro a9 c9 w9 f9 g9;have l9:=l8.trans (D7.run_below f8 l8.size g9))
     | (refine step_rows rfl (.tmp 24) (.tmp 26) rfl f7 _ _ [x] (by simp[Act.eval,Act.put]) (by simp[Act.eval,Act.put];rfl) x7 (by simp only[List.length_cons,List.length_nil];omega) l7.size ?_;intro a8 c8 w8 f8 g8;have l8:=l7.trans (D7.run_below f7 l7.size g8))
     | (refine step_rows rfl (.tmp 24) (.tmp 26) rfl (f7.alloc (.cells #[Iv x] 3)) (some ⟨w7.heap.size,0,none⟩) 1 [x] (by simp[Act.eval,Act.put]) (by simp[Act.eval,Act.put]) (Y1.row_one w7 x) (by simp only[List.length_cons,List.length_nil];omega) (l7.alloc l7.size _).size ?_;intro a8 c8 w8 f8 g8;have l8:=(l7.alloc l7.size (.cells #[Iv x] 3)).trans (D7.run_below (f7.alloc (.cells #[Iv x] 3)) (l7.alloc l7.size (.cells #[Iv x] 3)).size g8))
     | (refine step_rows rfl (.tmp 20) (.tmp 23) rfl B1 (some ⟨g,off,none⟩) c zs (by simp[Act.eval,Act.put]) (by simp[Act.eval,Act.put]) (hR.below L1) (by omega) L1.size ?_;intro a7 c7 w7 f7 g7;have l7:=L1.trans (D7.run_below B1 L1.size g7))
     | (refine step_rows rfl (.tmp 20) (.tmp 23) rfl B2 (some ⟨g,off,none⟩) c zs (by simp[Act.eval,Act.put]) (by simp[Act.eval,Act.put]) (hR.below L2) (by omega) L2.size ?_;intro a7 c7 w7 f7 g7;have l7:=L2.trans (D7.run_below B2 L2.size g7);have x7:=row_grown X2 g7 (by rintro p ⟨⟩ h;simp[Value.ownBlock] at h))
     | (refine step_rows rfl (.tmp 20) (.tmp 23) rfl B3 (some ⟨g,off,none⟩) c zs (by simp[Act.eval,Act.put]) (by simp[Act.eval,Act.put]) (hR.below L3) (by omega) L3.size ?_;intro a7 c7 w7 f7 g7;have l7:=L3.trans (D7.run_below B3 L3.size g7);have x7:=row_grown X3 g7 (by rintro p ⟨⟩ h;simp[Value.ownBlock] at h)))
    all_goals
     go_wp2;go_ret;exact ⟨a9,c9,by rw[List.length_append];rfl,by simpa using f9,l9⟩
theorem ibuf_mono {base base' n c:Nat} {a:Option Addr} {w:World} {zs:List Int} (h:IBuf base w a n c zs) (hb:base'<=base):IBuf base' w a n c zs:=by
 refine ⟨h.1,h.2.1,?_⟩
 rcases h.2.2 with h0 | ⟨g,cap,cur,hv,hg,r⟩
 ·exact Or.inl h0
 ·exact Or.inr ⟨g,cap,cur,hv,Nat.le_trans hb hg,r⟩
theorem only_lt {zs al:List Int} (h:N0.asc zs=true) {k:Nat} (hk:k<zs.length):∀ j,j<(Y1.only (zs.take k) al).length->(Y1.only (zs.take k) al).getD j 0<zs.getD k 0:=by
 intro j hj;have hm:=(List.mem_filter.1 (N0.getD_mem hj)).1;obtain ⟨i,hi,e⟩:=List.mem_take_iff_getElem.1 hm
 show (List.filter (P0.has al) (List.take k zs)).getD j 0<_
 rw[<- e,P0.getD_get _ _ hk];exact List.pairwise_iff_getElem.1 (N0.asc_iff.1 h) i k (by omega) hk (by omega)
theorem l05Only (a1 a2:Option Addr) (c1 c2:Nat) (zs al:List Int) (w:World) (h1:zs.length<=1048576) (h2:al.length<=281474976710656) (hasc:N0.asc zs=true) (R1:P0.Row w a1 zs) (R2:P0.Row w a2 al) :
  Calls prog 42 #[.slice a1 zs.length c1,.slice a2 al.length c2,.bool true] w fun e w'=>∃ a c,e=.returned (.slice a (Y1.only zs al).length c)/\(Y1.only zs al).length<=c/\J0.Own w.heap.size w' a (Y1.only zs al)/\Bq w w':=by
 have b0:=J0.ibuf_made w (Nat.le_refl _);have l0:=K0.below_new w (.cells #[] 3);go_enter func42,ntmps42;go_wp2
 go_loopw [7,8] (fun v i w'=>∃ (k n c g:Nat),k<=zs.length/\i=Iv k/\v=Sv g n c/\IBuf w.heap.size w' (some ⟨g,0,none⟩) n c (Y1.only (zs.take k) al)/\Bq w w') (fun _ i _=>zs.length-(intOf i).toNat)
 case atStart=>exact ⟨0,0,0,_,Nat.zero_le _,rfl,rfl,b0,l0⟩
 case round=>
  obtain ⟨k,n,c',g,hk,rfl,rfl,hbuf,hbel⟩:=hrel;clear b0 l0
  by_cases hlt:k<zs.length
  ·obtain ⟨b,off,hab,_,hc⟩:=(R1.below hbel).get hlt
   have x1:=hc k hlt
   have hyes:=fun h=>Y1.only_yes (zs:=zs) (al:=al) hlt h
   have hno:=fun h=>Y1.only_no (zs:=zs) (al:=al) hlt h
   have hln:=Y1.only_len zs al k;have hlt2:=only_lt (al:=al) hasc hlt;obtain ⟨z,ez⟩:∃ z,zs.getD k 0=z:=⟨_,rfl⟩;rw[ez] at x1 hyes hno hlt2;have hH:Hid (Calls prog 64 #[.slice a2 al.length c2,Iv z] wr (Rw (.bool (P0.has al z)) wr)):=N2.hasRow a2 c2 al z wr h2 (R2.below hbel);obtain ⟨O,hO⟩:∃ O,Y1.only (zs.take k) al=O:=⟨_,rfl⟩;rw[hO] at hbuf hyes hno hln hlt2;obtain rfl:n=O.length:=hbuf.1;have hA:Hid (Calls prog 67 #[Sv g O.length c',Iv z] wr fun e w'=>∃ a' c',e=.returned (.slice a' (O ++ [z]).length c')/\IBuf wr.heap.size w' a' (O ++ [z]).length c' (O ++ [z])/\Bq wr w'):=l04Add g 0 c' O z wr (by omega) hbuf.fits hbuf.own.row hlt2;rw[hab]
   have e1:(0:Int)<=(k:Int):=by omega
   have e2:(k:Int)<(zs.length:Int):=by omega
   cases h:P0.has al z with
   | true=>
    have HS:Hid (O ++ [z]=Y1.only (zs.take (k+1)) al):=(hyes h).symm;have HB:Hid _:=hbel;rw[h] at hH;clear ez hc hyes hno h hlt2 R1 R2 hO hbuf hasc
    go_wp2_with (first
     | (go_at_call 64;refine (hH.out).mono ?_;rintro e w' ⟨rfl,rfl⟩)
     | (go_at_call 67;refine (hA.out).mono ?_;rintro e w3 ⟨a3,c3,rfl,f3,b3⟩))
    obtain ⟨g3,rfl⟩:∃ g3,a3=some ⟨g3,0,none⟩:=by
     rcases f3.own with h0 | ⟨g3,e3,_⟩
     ·cases O <;> cases h0
     ·exact ⟨g3,e3⟩
    go_roundw
    case rel=>exact ⟨k+1,_,c3,g3,by omega,by go_num,rfl,by rw[<- HS.out];rw[List.length_append] at f3;exact ibuf_mono f3 hbel.size,hbel.trans (b3.mono hbel.size)⟩
    case measure=>simp[intOf];omega
   | false=>
    have HS:Hid (Y1.only (zs.take (k+1)) al=O):=hno h;rw[h] at hH;clear ez hc hyes hno h hlt2 R1 R2 hO hasc
    go_wp2_with (go_at_call 64;refine (hH.out).mono ?_;rintro e w' ⟨rfl,rfl⟩)
    go_roundw
    case rel=>exact ⟨k+1,_,c',g,by omega,by go_num,rfl,by rw[HS.out];exact hbuf,hbel⟩
    case measure=>simp[intOf];omega
  ·obtain rfl:k=zs.length:=by omega
   have HF:Hid (IBuf w.heap.size wr (some ⟨g,0,none⟩) n c' (Y1.only zs al)):=by
    show IBuf _ _ _ _ _ _
    rw[List.take_length] at hbuf;exact hbuf
   have e9:decide ((zs.length:Int)<(zs.length:Int))=false:=by simp
   clear hbuf R1 R2;go_wp2;go_ret;exact ⟨_,c',by rw[<- HF.out.1];rfl,by rw[<- HF.out.1];exact HF.out.fits,HF.out.own,hbel⟩
end Y2
namespace KO
open N0 (Ln)
open N1 (Sl Lists)
open Z0 (dat Kp Lns kval)
open Z4 (Bk bk_new)
open J0 (IBuf Own)
def gath (f:Ln->List Int) (ds:List Ln):Nat->List Int
 | 0=>[]
 | k+1=>gath f ds k++f (dat ds k)
theorem gath_len (f:Ln->List Int) (ds:List Ln) (m:Nat) (h:∀ d,(f d).length<=1+N3.total d):∀ k,(gath f ds k).length<=k+Z1.tot ds k
 | 0=>Nat.le_refl _
 | k+1=>by
  have h1:=gath_len f ds m h k;have h2:=h (dat ds k);have h3:Z1.tot ds (k+1)=Z1.tot ds k+N3.total (dat ds k):=rfl;rw[gath,List.length_append];omega
theorem append_intH {base n cap:Nat} {a:Option Addr} {w:World} {zs:List Int} {ops:Array Oper} {rest:List Oper} {o:Oper} {A:Act} {Q:Exit->Act->World->Prop} (hgd:o.guard=none) (sl x:Operand)
  (ho:o.op=.call { callee:=.builtin .append,args:=#[sl,x],argTypes:=#[32,32] })
  (hbuf:IBuf base w a n cap zs) (z:Int) (hs:A.eval sl=.slice a n cap) {H:Nat} (hH:w.heap.size=H) (hx:A.eval x=Sv H 1 1) (hlen:n+1<=1048576) (hb:base<=w.heap.size)
  (h:∀ g' cap' w',IBuf base w' (some ⟨g',0,none⟩) (n+1) cap' (zs ++ [z])->Below base w w'->wpList prog ops Q rest (A.put o.dst (Sv g' (n+1) cap')) w'):wpList prog ops Q (o :: rest) A (w.alloc (.cells #[Iv z] 3)):=by
 subst hH;exact J0.append_int hgd sl x ho hbuf z hs hx hlen hb h
def Out (Z:List Int) (w:World) (e:Ending) (w':World):Prop:=∃ a c,e=.returned (.slice a Z.length c)/\J0.Own w.heap.size w' a Z/\Z.length<=c/\Bq w w'
theorem lentInos (a:Option Addr) (c:Nat) (ds:List Ln) (ss:Nat->Sl) (w:World) (hn:ds.length<=1048576) (ht:ds.length+Z1.tot ds ds.length<=1048576) (hR:Lns w a ds ss) :
  Calls prog 98 #[.slice a ds.length c] w (Out (gath (fun d:Ln=>[d.ino]) ds ds.length) w):=by
 have n1:=K0.below_new w (.cells #[] 3);have B1:=J0.ibuf_made (base:=w.heap.size) w (Nat.le_refl _)
 have HL:Hid (∀ W,Bq w W->Lns W a ds ss):=fun W hb=>hR.below hb
 clear hR;go_enter func98,ntmps98;go_wp2
 go_loopw [3,9] (fun p i w'=>∃ (j:Nat) (a':Option Addr) (cap':Nat),j<=ds.length/\i=Iv j/\p=.slice a' (gath (fun d:Ln=>[d.ino]) ds j).length cap'/\IBuf w.heap.size w' a' (gath (fun d:Ln=>[d.ino]) ds j).length cap' (gath (fun d:Ln=>[d.ino]) ds j)/\Bq w w') (fun _ i _=>ds.length-(intOf i).toNat)
 case atStart=>exact ⟨0,_,_,Nat.zero_le _,rfl,rfl,B1,n1⟩
 case round=>
  obtain ⟨j,a3,c3,hj,rfl,rfl,hbf,hbel⟩:=hrel;clear B1 n1
  by_cases hlt:j<ds.length
  ·have ls:=(HL.out _ hbel).sub j hlt
   obtain ⟨b,off,hab,hlt0,hc⟩:=(HL.out _ hbel).row.get hlt;subst hab;obtain ⟨y0,y1,y2,y3,y4,y5,y6,y7⟩:=hc j hlt;have hgl:=gath_len (fun d:Ln=>[d.ino]) ds 0 (fun d=>by unfold N3.total;first | (simp only[List.length_cons,List.length_nil];omega) | omega) (j+1);have htl:=Z1.tot_le (ds:=ds) (k:=j+1) (n:=ds.length) (by omega);have hgs:gath (fun d:Ln=>[d.ino]) ds (j+1)=gath (fun d:Ln=>[d.ino]) ds j++(fun d:Ln=>[d.ino]) (dat ds j):=rfl;obtain ⟨d,ed⟩:∃ d,dat ds j=d:=⟨_,rfl⟩;obtain ⟨s,es⟩:∃ s,ss j=s:=⟨_,rfl⟩;rw[ed,es] at ls;rw[ed] at y0 y1 y2 y3 y4 y5 y6 y7 hgs;rw[es] at y4 y6 y7;have hgl2:=congrArg List.length hgs;rw[List.length_append] at hgl2;simp only[List.length_cons,List.length_nil] at hgl2;obtain ⟨acc,ea⟩:∃ acc,gath (fun d:Ln=>[d.ino]) ds j=acc:=⟨_,rfl⟩;rw[ea] at hbf hgs hgl2 ⊢;have HS:Hid (gath (fun d:Ln=>[d.ino]) ds (j+1)=acc ++ [d.ino]):=hgs
   have hle:acc.length+1<=1048576:=by omega
   have e1:(0:Int)<=(j:Int):=by omega
   have e2:(j:Int)<(ds.length:Int):=by omega
   have hB:=hbel.size;have hal:=K0.below_new wr (.cells (N1.Lc d s) 46);have bx:=N1.lb_new d s wr 46;have z0:=bx.c0;have z6:=bx.c6;have z7:=bx.c7;have hb1:=hbf.below hal;have lsA:=ls.below hal;have M1:=hbel.trans (hal.mono hB);have hB1:=Nat.le_trans hB hal.size;clear ed es hc ls ea hgs hgl hgl2 HL
   go_wp2_with (at_builtin;refine append_intH rfl (.tmp 13) (.tmp 16) rfl hb1 d.ino (by rfl) (H:=wr.heap.size+1) (by simp) (by rfl) (by omega) hB1 ?_;intro g5 c5 w5 f5 l5)
   go_roundw
   case rel=>exact ⟨j+1,some ⟨g5,0,none⟩,c5,by omega,by go_num,by rw[HS.out,List.length_append];rfl,by rw[HS.out,List.length_append];exact f5,M1.trans l5⟩
   case measure=>simp[intOf];omega
  ·obtain rfl:j=ds.length:=by omega
   clear HL;go_wp2;go_ret;exact ⟨a3,c3,rfl,hbf.own,hbf.fits,hbel⟩
theorem lentFresh (a:Option Addr) (c:Nat) (ds:List Ln) (ss:Nat->Sl) (w:World) (hn:ds.length<=1048576) (ht:ds.length+Z1.tot ds ds.length<=1048576) (hR:Lns w a ds ss) :
  Calls prog 105 #[.slice a ds.length c] w (Out (gath (fun d:Ln=>d.fr) ds ds.length) w):=by
 have n1:=K0.below_new w (.cells #[] 3);have B1:=J0.ibuf_made (base:=w.heap.size) w (Nat.le_refl _)
 have HL:Hid (∀ W,Bq w W->Lns W a ds ss):=fun W hb=>hR.below hb
 clear hR;go_enter func105,ntmps105;go_wp2
 go_loopw [3,9] (fun p i w'=>∃ (j:Nat) (a':Option Addr) (cap':Nat),j<=ds.length/\i=Iv j/\p=.slice a' (gath (fun d:Ln=>d.fr) ds j).length cap'/\IBuf w.heap.size w' a' (gath (fun d:Ln=>d.fr) ds j).length cap' (gath (fun d:Ln=>d.fr) ds j)/\Bq w w') (fun _ i _=>ds.length-(intOf i).toNat)
 case atStart=>exact ⟨0,_,_,Nat.zero_le _,rfl,rfl,B1,n1⟩
 case round=>
  obtain ⟨j,a3,c3,hj,rfl,rfl,hbf,hbel⟩:=hrel;clear B1 n1
  by_cases hlt:j<ds.length
  ·have ls:=(HL.out _ hbel).sub j hlt
   obtain ⟨b,off,hab,hlt0,hc⟩:=(HL.out _ hbel).row.get hlt;subst hab;obtain ⟨y0,y1,y2,y3,y4,y5,y6,y7⟩:=hc j hlt;have hgl:=gath_len (fun d:Ln=>d.fr) ds 0 (fun d=>by unfold N3.total;first | (simp only[List.length_cons,List.length_nil];omega) | omega) (j+1);have htl:=Z1.tot_le (ds:=ds) (k:=j+1) (n:=ds.length) (by omega);have hgs:gath (fun d:Ln=>d.fr) ds (j+1)=gath (fun d:Ln=>d.fr) ds j++(fun d:Ln=>d.fr) (dat ds j):=rfl;obtain ⟨d,ed⟩:∃ d,dat ds j=d:=⟨_,rfl⟩;obtain ⟨s,es⟩:∃ s,ss j=s:=⟨_,rfl⟩;rw[ed,es] at ls;rw[ed] at y0 y1 y2 y3 y4 y5 y6 y7 hgs;rw[es] at y4 y6 y7;have hgl2:=congrArg List.length hgs;rw[List.length_append] at hgl2;simp only[List.length_cons,List.length_nil] at hgl2;obtain ⟨acc,ea⟩:∃ acc,gath (fun d:Ln=>d.fr) ds j=acc:=⟨_,rfl⟩;rw[ea] at hbf hgs hgl2 ⊢;have HS:Hid (gath (fun d:Ln=>d.fr) ds (j+1)=acc++d.fr):=hgs
   have hle:acc.length+(d.fr).length<=1048576:=by omega
   have e1:(0:Int)<=(j:Int):=by omega
   have e2:(j:Int)<(ds.length:Int):=by omega
   have hB:=hbel.size;have hal:=K0.below_new wr (.cells (N1.Lc d s) 46);have bx:=N1.lb_new d s wr 46;have z0:=bx.c0;have z6:=bx.c6;have z7:=bx.c7;have hb1:=hbf.below hal;have lsA:=ls.below hal;have M1:=hbel.trans (hal.mono hB);have hB1:=Nat.le_trans hB hal.size;clear ed es hc ls ea hgs hgl hgl2 HL
   go_wp2_with (at_builtin;refine Q1.append_rows rfl (.tmp 13) (.tmp 15) rfl hb1 s.a3 s.c3 d.fr (by rfl) (by rfl) lsA.r3 (by omega) hB1 ?_;intro a5 c5 w5 f5 l5)
   go_roundw
   case rel=>exact ⟨j+1,a5,c5,by omega,by go_num,by rw[HS.out,List.length_append],by rw[HS.out,List.length_append];exact f5,M1.trans l5⟩
   case measure=>simp[intOf];omega
  ·obtain rfl:j=ds.length:=by omega
   clear HL;go_wp2;go_ret;exact ⟨a3,c3,rfl,hbf.own,hbf.fits,hbel⟩
theorem lentPool (a:Option Addr) (c:Nat) (ds:List Ln) (ss:Nat->Sl) (w:World) (hn:ds.length<=1048576) (ht:ds.length+Z1.tot ds ds.length<=1048576) (hR:Lns w a ds ss) :
  Calls prog 106 #[.slice a ds.length c] w (Out (gath (fun d:Ln=>d.po) ds ds.length) w):=by
 have n1:=K0.below_new w (.cells #[] 3);have B1:=J0.ibuf_made (base:=w.heap.size) w (Nat.le_refl _)
 have HL:Hid (∀ W,Bq w W->Lns W a ds ss):=fun W hb=>hR.below hb
 clear hR;go_enter func106,ntmps106;go_wp2
 go_loopw [3,9] (fun p i w'=>∃ (j:Nat) (a':Option Addr) (cap':Nat),j<=ds.length/\i=Iv j/\p=.slice a' (gath (fun d:Ln=>d.po) ds j).length cap'/\IBuf w.heap.size w' a' (gath (fun d:Ln=>d.po) ds j).length cap' (gath (fun d:Ln=>d.po) ds j)/\Bq w w') (fun _ i _=>ds.length-(intOf i).toNat)
 case atStart=>exact ⟨0,_,_,Nat.zero_le _,rfl,rfl,B1,n1⟩
 case round=>
  obtain ⟨j,a3,c3,hj,rfl,rfl,hbf,hbel⟩:=hrel;clear B1 n1
  by_cases hlt:j<ds.length
  ·have ls:=(HL.out _ hbel).sub j hlt
   obtain ⟨b,off,hab,hlt0,hc⟩:=(HL.out _ hbel).row.get hlt;subst hab;obtain ⟨y0,y1,y2,y3,y4,y5,y6,y7⟩:=hc j hlt;have hgl:=gath_len (fun d:Ln=>d.po) ds 0 (fun d=>by unfold N3.total;first | (simp only[List.length_cons,List.length_nil];omega) | omega) (j+1);have htl:=Z1.tot_le (ds:=ds) (k:=j+1) (n:=ds.length) (by omega);have hgs:gath (fun d:Ln=>d.po) ds (j+1)=gath (fun d:Ln=>d.po) ds j++(fun d:Ln=>d.po) (dat ds j):=rfl;obtain ⟨d,ed⟩:∃ d,dat ds j=d:=⟨_,rfl⟩;obtain ⟨s,es⟩:∃ s,ss j=s:=⟨_,rfl⟩;rw[ed,es] at ls;rw[ed] at y0 y1 y2 y3 y4 y5 y6 y7 hgs;rw[es] at y4 y6 y7;have hgl2:=congrArg List.length hgs;rw[List.length_append] at hgl2;simp only[List.length_cons,List.length_nil] at hgl2;obtain ⟨acc,ea⟩:∃ acc,gath (fun d:Ln=>d.po) ds j=acc:=⟨_,rfl⟩;rw[ea] at hbf hgs hgl2 ⊢;have HS:Hid (gath (fun d:Ln=>d.po) ds (j+1)=acc++d.po):=hgs
   have hle:acc.length+(d.po).length<=1048576:=by omega
   have e1:(0:Int)<=(j:Int):=by omega
   have e2:(j:Int)<(ds.length:Int):=by omega
   have hB:=hbel.size;have hal:=K0.below_new wr (.cells (N1.Lc d s) 46);have bx:=N1.lb_new d s wr 46;have z0:=bx.c0;have z6:=bx.c6;have z7:=bx.c7;have hb1:=hbf.below hal;have lsA:=ls.below hal;have M1:=hbel.trans (hal.mono hB);have hB1:=Nat.le_trans hB hal.size;clear ed es hc ls ea hgs hgl hgl2 HL
   go_wp2_with (at_builtin;refine Q1.append_rows rfl (.tmp 13) (.tmp 15) rfl hb1 s.a2 s.c2 d.po (by rfl) (by rfl) lsA.r2 (by omega) hB1 ?_;intro a5 c5 w5 f5 l5)
   go_roundw
   case rel=>exact ⟨j+1,a5,c5,by omega,by go_num,by rw[HS.out,List.length_append],by rw[HS.out,List.length_append];exact f5,M1.trans l5⟩
   case measure=>simp[intOf];omega
  ·obtain rfl:j=ds.length:=by omega
   clear HL;go_wp2;go_ret;exact ⟨a3,c3,rfl,hbf.own,hbf.fits,hbel⟩
theorem l06Pools (k:Kp) (a:Option Addr) (c:Nat) (ss:Nat->Sl) (w:World) (hn:k.ds.length<=1048576) (ht:k.ds.length+Z1.tot k.ds k.ds.length<=1048576) (hR:Lns w a k.ds ss) :
  Calls prog 35 #[kval k a c] w (Out (gath (fun d:Ln=>d.po) k.ds k.ds.length) w):=by
 have x0:=bk_new w k a c;have n1:=K0.below_new (w.alloc (.cells #[.string k.mem,.string k.dur,.slice a k.ds.length c,Iv k.ck] 31)) (.cells #[] 3)
 have e0:(w.alloc (.cells #[.string k.mem,.string k.dur,.slice a k.ds.length c,Iv k.ck] 31)).heap.size=w.heap.size+1:=by simp
 have B1:=J0.ibuf_made (base:=w.heap.size+1) (w.alloc (.cells #[.string k.mem,.string k.dur,.slice a k.ds.length c,Iv k.ck] 31)) (by rw[e0];exact Nat.le_refl _);unfold Bq at n1;rw[e0] at n1 B1
 have HB:Hid (∀ W,Below (w.heap.size+1) (w.alloc (.cells #[.string k.mem,.string k.dur,.slice a k.ds.length c,Iv k.ck] 31)) W->Bq w W/\K0.Blk w.heap.size (Z0.kvals k a c) W):=fun W hW=>⟨x0.bel.trans (hW.mono (Nat.le_succ _)),J0.blk_keep x0.arg hW (Nat.lt_succ_self _)⟩
 have HL:Hid (∀ W,Bq w W->Lns W a k.ds ss):=fun W hb=>hR.below hb
 clear hR x0 e0;go_enter func35,ntmps35;go_wp2
 go_loopw [3,4] (fun p i w'=>∃ (j:Nat) (a':Option Addr) (cap':Nat),j<=k.ds.length/\i=Iv j/\p=.slice a' (gath (fun d:Ln=>d.po) k.ds j).length cap'/\IBuf (w.heap.size+1) w' a' (gath (fun d:Ln=>d.po) k.ds j).length cap' (gath (fun d:Ln=>d.po) k.ds j)/\Below (w.heap.size+1) (w.alloc (.cells #[.string k.mem,.string k.dur,.slice a k.ds.length c,Iv k.ck] 31)) w') (fun _ i _=>k.ds.length-(intOf i).toNat)
 case atStart=>exact ⟨0,_,_,Nat.zero_le _,rfl,rfl,B1,n1⟩
 case round=>
  obtain ⟨j,a3,c3,hj,rfl,rfl,hbf,hbel⟩:=hrel;clear B1 n1;obtain ⟨M1,kb⟩:=HB.out _ hbel;have c2:=kb.c2
  by_cases hlt:j<k.ds.length
  ·have ls:=(HL.out _ M1).sub j hlt
   obtain ⟨b,off,hab,hlt0,hc⟩:=(HL.out _ M1).row.get hlt;obtain ⟨y0,y1,y2,y3,y4,y5,y6,y7⟩:=hc j hlt;have hgl:=gath_len (fun d:Ln=>d.po) k.ds 0 (fun d=>by unfold N3.total;first | (simp only[List.length_cons,List.length_nil];omega) | omega) (j+1);have htl:=Z1.tot_le (ds:=k.ds) (k:=j+1) (n:=k.ds.length) (by omega);have hgs:gath (fun d:Ln=>d.po) k.ds (j+1)=gath (fun d:Ln=>d.po) k.ds j++(dat k.ds j).po:=rfl;obtain ⟨d,ed⟩:∃ d,dat k.ds j=d:=⟨_,rfl⟩;obtain ⟨s,es⟩:∃ s,ss j=s:=⟨_,rfl⟩;rw[ed,es] at ls;rw[ed] at y0 y1 y2 y3 y4 y5 y6 y7 hgs;rw[es] at y4 y6 y7;rw[hab] at c2;have hgl2:=congrArg List.length hgs;rw[List.length_append] at hgl2;obtain ⟨acc,ea⟩:∃ acc,gath (fun d:Ln=>d.po) k.ds j=acc:=⟨_,rfl⟩;rw[ea] at hbf hgs hgl2 ⊢;have HS:Hid (gath (fun d:Ln=>d.po) k.ds (j+1)=acc++d.po):=hgs
   have hle:acc.length+d.po.length<=1048576:=by omega
   have e1:(0:Int)<=(j:Int):=by omega
   have e2:(j:Int)<(k.ds.length:Int):=by omega
   have hB:w.heap.size+1<=wr.heap.size:=kb.lt;have lr:=ls.r2;clear ed es hc ls ea hgs hgl hgl2 HL hab
   go_wp2_with (at_builtin;refine Q1.append_rows rfl (.tmp 13) (.tmp 19) rfl hbf s.a2 s.c2 d.po (by rfl) (by rfl) lr (by omega) hB ?_;intro a5 c5 w5 f5 l5)
   go_roundw
   case rel=>exact ⟨j+1,a5,c5,by omega,by go_num,by rw[HS.out,List.length_append],by rw[HS.out,List.length_append];exact f5,hbel.trans l5⟩
   case measure=>simp[intOf];omega
  ·obtain rfl:j=k.ds.length:=by omega
   have e9:decide ((k.ds.length:Int)<(k.ds.length:Int))=false:=by simp
   clear HL HB;go_wp2;go_ret;exact ⟨a3,c3,rfl,hbf.own.mono (Nat.le_succ _),hbf.fits,M1⟩
end KO
end Go.Proofs.YtlejhfnjmkdobaaGreatDoor
