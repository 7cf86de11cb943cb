/- Joined texts. -/
import Derived.Test.YtlejhfnjmkdobaaGreatDoorJtT
import Derived.Test.YtlejhfnjmkdobaaGreatDoorJtZ
import Derived.Test.YtlejhfnjmkdobaaGreatDoorJtP
set_option linter.unusedVariables false
set_option linter.unusedSimpArgs false
set_option maxRecDepth 10000
set_option maxHeartbeats 16000000
namespace Go.Proofs.YtlejhfnjmkdobaaGreatDoor
open ChangeShapes WideShapes ChangeAt RowKit
open Go.Proofs.Tryz
namespace TW
open Go.Sort (Holds putRow grow)
variable {B : Nat} {N : Nat → Nd} {F : Nat → Nat} {P : Nat → ByteArray} {w W W' : World} {Z : Nat → List Int}
open J0 (IBuf Own)
open I2 (ints)
theorem cloneBlk (g c:Nat) (zs:List Int) (w:World) (hl:zs.length<=1048576) (h:K0.Blk g (ints zs) w) :
  Calls prog 111 #[Sv g zs.length c] w fun e w'=>∃ g' c',e=.returned (Sv g' zs.length c')/\zs.length<=c'/\w.heap.size<=g'/\K0.Blk g' (ints zs) w'/\Bq w w':=by
 have key:∀ v' w',w'.ownsRow w.heap.size 3 1 v' zs.length (ints zs)->v' ≠ .slice none 0 0->∃ g' c',v'=Sv g' zs.length c'/\zs.length<=c'/\w.heap.size<=g'/\K0.Blk g' (ints zs) w':=by
  intro v' w' ho hne
  rcases ho.2 with ⟨h1,_⟩ | ⟨g',cap',cur,rfl,hb,hg,hnc,hcm,hcs,ht⟩
  ·exact absurd h1 hne
  ·refine ⟨g',cap',rfl,hnc,hb,?_⟩
   have hi:IBuf w.heap.size w' (some ⟨g',0,none⟩) zs.length cap' zs:=⟨rfl,ho⟩
   rcases hi.own with h0 | ⟨g2,e,_,hk⟩
   ·rw[h0]
    exact ⟨fun j hj=>by simp at hj,fun j hj=>by simp at hj,(Array.getElem?_eq_some_iff.1 hg).1⟩
   ·cases e
    exact hk
 refine (Tryz.slices_Clone_int g 0 zs.length c zs w (Nat.le_refl _) (by omega) (fun j hj=>?_)).mono fun e w' ⟨v',he,ho,hne,hb⟩=>?_
 ·have:=h.cell j (by simpa using hj)
  rw[Nat.zero_add,this];simp[hj]
 ·rw[List.take_length] at ho
  obtain ⟨g',c',rfl,h1,h2,h3⟩:=key v' w' (by simpa using ho) hne;exact ⟨g',c',he,h1,h2,h3,hb⟩
theorem pagesApart (w:World) (hT:Tb B N F P w) (hZ:Ps N Z w) :
  Calls prog 170 #[Pv B 0] w (Rb (.bool (decide (cat Z 8).Nodup)) w):=by
 have hlen:=cat_len hZ.few 8;have hp:=pages w hT hZ;obtain ⟨zs,hzs⟩:∃ zs,cat Z 8=zs:=⟨_,rfl⟩;rw[hzs] at hp hlen ⊢;have hsl:=srt_length zs
 have hcl:Hid (∀ g c W,K0.Blk g (ints (srt zs)) W->Calls prog 111 #[Sv g zs.length c] W fun e w'=>∃ g' c',e=.returned (Sv g' zs.length c')/\zs.length<=c'/\W.heap.size<=g'/\K0.Blk g' (ints (srt zs)) w'/\Bq W w'):=fun g c W h=>by
  have:=cloneBlk g c (srt zs) W (by omega) h;rw[hsl] at this;exact this
 have hcm:Hid (∀ g c W,zs.length<=c->K0.Blk g (ints (srt zs)) W->Calls prog 199 #[Sv g zs.length c] W fun e w'=>e=.returned (Sv g (Lib.compact (srt zs)).length c)/\∀ b,b<=g->b<=W.heap.size->Below b W w'):=fun g c W hc h=>by
  have:=Tryz.slices_Compact_int g 0 c (srt zs) W (holds_of h) (by omega) (by omega);rw[hsl] at this
  refine this.mono fun e w' ⟨he,q,hw⟩=>⟨he,fun b hb hs=>?_⟩
  subst hw;refine ⟨rfl,rfl,rfl,?_,fun k hk=>?_⟩
  ·rw[Go.Sort.size_putRow]
   exact Nat.le_refl _
  ·show (W.heap.modify g _)[k]? = W.heap[k]?
   rw[Array.getElem?_modify,if_neg (by omega)]
 have hfin:(((Lib.compact (srt zs)).length:Int) == (zs.length:Int))=decide zs.Nodup:=by
  have:=apart_iff zs
  by_cases h:zs.Nodup
  ·rw[decide_eq_true h]
   have:=this.2 h;simp;omega
  ·rw[decide_eq_false h]
   have:¬ (Lib.compact (srt zs)).length=zs.length:=fun e=>h (this.1 e)
   simp;omega
 obtain ⟨L,hL⟩:∃ L,(Lib.compact (srt zs)).length=L:=⟨_,rfl⟩;rw[hL] at hcm hfin;obtain ⟨r,hr⟩:∃ r,decide zs.Nodup=r:=⟨_,rfl⟩;rw[hr] at hfin ⊢;clear hT hZ hL hr hzs;go_enter func170,ntmps170
 go_wp2_with (first
  | (go_at_call 138;refine hp.mono ?_;rintro e w1 ⟨g1,c1,rfl,hc1,hg1,k1,b1⟩)
  | (go_at_call 111;refine (hcl.out _ _ _ k1).mono ?_;rintro e w2 ⟨g2,c2,rfl,hc2,hg2,k2,b2⟩)
  | (go_at_call 199;refine (hcm.out _ _ _ hc2 k2).mono ?_;rintro e w3 ⟨rfl,b3⟩))
 go_ret;exact ⟨rfl,(b1.trans (b2.mono b1.size)).trans (b3 _ (Nat.le_trans b1.size hg2) (Nat.le_trans b1.size b2.size))⟩
end TW
namespace TW
variable {B : Nat} {N : Nat → Nd} {F : Nat → Nat} {P : Nat → ByteArray} {w W W' : World} {Z : Nat → List Int} {mem : ByteArray}
def zeroN:Nd:=⟨0,0,0,none,0,0,⟨#[]⟩,none,0,0⟩
def zcells:List Value:=nds (fun _=>zeroN) 8++List.replicate 8 (.int .i64 0)++List.replicate 8 (.string ⟨#[]⟩)
theorem rep_get {α:Type} (v:α) (n i:Nat) (h:i<n):(List.replicate n v)[i]? = some v:=by rw[List.getElem?_replicate,if_pos h]
theorem zeroTree:(prog.info? 220).map (fun i=>(i.zero,i.size))=some (some (.agg zcells.toArray),64):=by kernel_rfl
theorem zlen:zcells.length=64:=by simp[zcells,nds_length]
theorem tb_new (w:World):Tb w.heap.size (fun _=>zeroN) (fun _=>0) (fun _=>⟨#[]⟩) (w.alloc (.cells zcells.toArray 220)):=by
 have hb:=K0.blk_new zcells w 220;have hl:=zlen;refine ⟨fun i hi j hj=>?_,fun i hi=>?_,fun i hi=>?_,fun j hj=>hb.free j (by omega),hb.lt⟩
 ·have hj':j<6:=hj
  rw[hb.cell (i*6+j) (by omega)];have h1:(nds (fun _=>zeroN) 8).length=48:=nds_length _ 8;have:=nds_at (fun _=>zeroN) i j hi hj'
  have e:zcells[i*6+j]? = zeroN.vals[j]?:=by
   unfold zcells;rw[List.append_assoc,List.getElem?_append_left (by omega)];exact this
  rw[List.getElem?_eq_getElem (by omega),List.getElem?_eq_getElem hj] at e;exact e
 ·rw[hb.cell (48+i) (by omega)]
  have h1:(nds (fun _=>zeroN) 8).length=48:=nds_length _ 8
  have e:zcells[48+i]? = some (Iv 0):=by
   unfold zcells;rw[List.append_assoc,List.getElem?_append_right (by omega),h1,List.getElem?_append_left (by rw[List.length_replicate];omega),show 48+i-48=i by omega];exact rep_get _ 8 i hi
  rw[List.getElem?_eq_getElem (by omega)] at e;exact e
 ·rw[hb.cell (56+i) (by omega)]
  have h1:(nds (fun _=>zeroN) 8).length=48:=nds_length _ 8
  have e:zcells[56+i]? = some (.string ⟨#[]⟩):=by
   unfold zcells;rw[List.getElem?_append_right (by rw[List.length_append,h1,List.length_replicate];omega),List.length_append,h1,List.length_replicate,show 56+i-(48+8)=i by omega];exact rep_get _ 8 i hi
  rw[List.getElem?_eq_getElem (by omega)] at e;exact e
abbrev putN (W:World) (B i:Nat) (d:Nd):World:=((((((W.setCell ⟨B,i*6,none⟩ (.int .i64 d.k)).setCell ⟨B,i*6+1,none⟩ (.int .i64 d.o)).setCell ⟨B,i*6+2,none⟩ (.int .i64 d.s)).setCell ⟨B,i*6+3,none⟩ (.slice d.a d.n d.c)).setCell ⟨B,i*6+4,none⟩ (.string d.x)).setCell ⟨B,i*6+5,none⟩ (.slice d.ae d.ne d.ce))
def upN (N:Nat->Nd) (i:Nat) (d:Nd):Nat->Nd:=fun y=>if y=i then d else N y
theorem putN_cell (h:∀ j,j<64->∃ v,Ce W B j v) {i:Nat} (hi:i<8) (d:Nd) (j:Nat) (hj:j<64) :
  (putN W B i d).cell? ⟨B,j,none⟩=if i*6<=j/\j<i*6+6 then d.vals[j-i*6]? else W.cell? ⟨B,j,none⟩:=by
 have hs:∀ (W:World) (k:Nat) (v:Value) (m:Nat),(∃ u,Ce W B m u)->(W.setCell ⟨B,k,none⟩ v).cell? ⟨B,m,none⟩=if k=m then some v else W.cell? ⟨B,m,none⟩:=by
  intro W k v m ⟨u,hu⟩
  by_cases e:k=m
  ·subst e
   rw[if_pos rfl,World.cell?_setCell_same _ _ _ hu]
  ·rw[if_neg e,cell_far e]
 have hx:∀ (W:World) (k:Nat) (v:Value) (m:Nat),(∃ u,Ce W B m u)->∃ u,(W.setCell ⟨B,k,none⟩ v).cell? ⟨B,m,none⟩=some u:=by
  intro W k v m hu;rw[hs W k v m hu]
  split
  ·exact ⟨_,rfl⟩
  ·exact hu
 have h0:=h j hj;have h1:=hx W (i*6) (Iv d.k) j h0;have h2:=hx _ (i*6+1) (Iv d.o) j h1;have h3:=hx _ (i*6+2) (Iv d.s) j h2;have h4:=hx _ (i*6+3) (.slice d.a d.n d.c) j h3;have h5:=hx _ (i*6+4) (.string d.x) j h4;unfold putN;rw[hs _ _ _ _ h5,hs _ _ _ _ h4,hs _ _ _ _ h3,hs _ _ _ _ h2,hs _ _ _ _ h1,hs _ _ _ _ h0]
 by_cases hc:i*6<=j/\j<i*6+6
 ·rw[if_pos hc]
  obtain ⟨m,rfl⟩:∃ m,j=i*6+m:=⟨j-i*6,by omega⟩
  have hm:m<6:=by omega
  rw[show i*6+m-i*6=m by omega]
  rcases m with _ | _ | _ | _ | _ | _ | m
  ·simp[Nd.vals]
  ·simp[Nd.vals]
  ·simp[Nd.vals]
  ·simp[Nd.vals]
  ·simp[Nd.vals]
  ·simp[Nd.vals]
  ·omega
 ·rw[if_neg hc,if_neg (by omega),if_neg (by omega),if_neg (by omega),if_neg (by omega),if_neg (by omega),if_neg (by omega)]
theorem Tb.any (h:Tb B N F P W) (j:Nat) (hj:j<64):∃ v,Ce W B j v:=by
 by_cases h1:j<48
 ·have e:j=j / 6*6+j % 6:=by omega
  rw[e];exact ⟨_,h.node (j / 6) (by omega) (j % 6) (by rw[Nd.vals_length];omega)⟩
 ·by_cases h2:j<56
  ·have:=h.fnd (j-48) (by omega)
   rw[show 48+(j-48)=j by omega] at this;exact ⟨_,this⟩
  ·have:=h.pth (j-56) (by omega)
   rw[show 56+(j-56)=j by omega] at this;exact ⟨_,this⟩
theorem Tb.putN (h:Tb B N F P W) {i:Nat} (hi:i<8) (d:Nd):Tb B (upN N i d) F P (TW.putN W B i d):=by
 have hc:=putN_cell h.any hi d;refine ⟨fun k hk j hj=>?_,fun k hk=>?_,fun k hk=>?_,fun j hj=>?_,?_⟩
 ·have hj':j<6:=hj
  rw[hc (k*6+j) (by omega)]
  by_cases e:k=i
  ·subst e
   rw[if_pos (by omega),show k*6+j-k*6=j by omega];simp only[upN,if_pos rfl] at hj ⊢;exact List.getElem?_eq_getElem hj
  ·rw[if_neg (by omega)]
   simp only[upN,if_neg e] at hj ⊢;exact h.node k hk j hj
 ·rw[hc (48+k) (by omega),if_neg (by omega)]
  exact h.fnd k hk
 ·rw[hc (56+k) (by omega),if_neg (by omega)]
  exact h.pth k hk
 ·rw[World.frozen?_setCell,World.frozen?_setCell,World.frozen?_setCell,World.frozen?_setCell,World.frozen?_setCell,World.frozen?_setCell]
  exact h.free j hj
 ·have:=h.lt
  simpa [World.setCell] using this
end TW
namespace TW
variable {B : Nat} {N : Nat → Nd} {F : Nat → Nat} {P : Nat → ByteArray} {w W W' : World} {mem : ByteArray}
def tK (mem:ByteArray) (i:Nat):Int:=G0.gK (O0.recd mem (i:Int))
def tZ (mem:ByteArray) (i:Nat):List Int:=G0.gZ (O0.recd mem (i:Int))
def tE (mem:ByteArray) (i:Nat):List T0.Ent:=D1.nodeE mem (i:Int)
def hd:ByteArray:=⟨#[84,78,82,49]⟩++B4.zeros 28
theorem hd_laid:B5.laid (B4.zeros 32) 0 ⟨#[84,78,82,49]⟩=hd:=by decide +kernel
def headOk (mem:ByteArray):Bool:=(B2.part mem 0 32).toList == hd.toList
def nodesOk (mem:ByteArray):Bool:=N0.to (fun i=>D1.nodeOk mem (i:Int)) 8
def sound (mem:ByteArray):Bool:=decide (mem.size=768) && (headOk mem && (nodesOk mem && ((tK mem 0 == 2) && (decide (cat (tZ mem) 8).Nodup && TR.treeOk (tE mem) (tK mem)))))
theorem recd_far (mem:ByteArray) (i:Nat) (h:8<=i):O0.recd mem (i:Int)=⟨#[]⟩:=by
 unfold O0.recd L1.recAt B2.part
 have h1:B1.inB (i:Int) 0 7=false:=by simp[B1.inB];omega
 have h2:B2.lies mem.size (-1) 16=false:=by simp[B2.lies]
 have h3:(if B1.inB (i:Int) 0 7=true then 32+(i:Int)*16 else -1) = -1:=by rw[h1];rfl
 rw[h3,h2];rfl
theorem isI_empty:G0.isI ⟨#[]⟩=false:=by decide +kernel
theorem tK_far (mem:ByteArray) (i:Nat) (h:8<=i):tK mem i=0:=by
 unfold tK;rw[recd_far mem i h];exact (G0.g_no isI_empty).1
theorem nodeE_dir (mem:ByteArray) (i:Int) (h:D1.nodeE mem i ≠ []):G0.gK (O0.recd mem i)=2/\V0.isD (D1.data mem i)=true/\D1.nodeE mem i=V0.ents (D1.data mem i) ((D1.data mem i).size / 16):=by
 unfold D1.nodeE at h ⊢
 by_cases h2:G0.gK (O0.recd mem i)=2
 ·rw[if_pos h2] at h ⊢
  unfold V0.dE at h ⊢
  cases hD:V0.isD (D1.data mem i) with
  | false=>rw[hD] at h;exact absurd rfl h
  | true=>
   refine ⟨h2,rfl,?_⟩;rw[if_pos rfl,(V0.of_isD hD).2.2.1]
 ·rw[if_neg h2] at h
  exact absurd rfl h
theorem ent_ok (mem:ByteArray) (i:Int) (e:T0.Ent) (h:e ∈ D1.nodeE mem i):(0<e.1/\e.1<8)/\e.2.size<=14:=by
 obtain ⟨_,hD,hE⟩:=nodeE_dir mem i (List.ne_nil_of_mem h);have hd:=(V0.of_isD hD).2.2.2.2;rw[hE] at h;simp only[T0.dirOk,Bool.and_eq_true,decide_eq_true_eq] at hd;obtain ⟨k,hk,he⟩:=List.mem_iff_getElem.1 h;have h1:=(T0.okAt_entry (T0.okUpto_at hd.2 hk)).1;rw[T0.ent_get _ _ hk,he] at h1;obtain ⟨h2,h3⟩:=E0.entryOk_true h1;refine ⟨by omega,?_⟩;simp only[E0.nameOk,Bool.and_eq_true] at h2;have:=B1.inB_true h2.2.1;omega
theorem few_ok (mem:ByteArray) (i:Int):(D1.nodeE mem i).length<=12:=by
 by_cases h:D1.nodeE mem i=[]
 ·rw[h]
  decide
 ·obtain ⟨_,hD,hE⟩:=nodeE_dir mem i h
  have:=(V0.of_isD hD).1;rw[hE,V0.ents_length];omega
theorem sane_ok (mem:ByteArray):TR.Sane (tE mem) (tK mem):=⟨fun d h=>(nodeE_dir mem d h).1,fun d e h=>(ent_ok mem d e h).1⟩
theorem pg_few (mem:ByteArray) (i:Nat):(tZ mem i).length<=12:=by
 unfold tZ
 cases h:G0.isI (O0.recd mem (i:Int)) with
 | true=>exact Nat.le_trans (O0.got h).2.1 (by decide)
 | false=>rw[(G0.g_no h).2.2.2];decide
structure NdOk (mem:ByteArray) (B:Nat) (i:Nat) (d:Nd) (W:World):Prop where
 k:d.k=tK mem i
 o:d.o=G0.gO (O0.recd mem (i:Int))
 n:d.n=(tZ mem i).length
 c:d.n<=d.c
 row:J0.Own (B+1) W d.a (tZ mem i)
 ne:d.ne=(tE mem i).length
 ce:d.ne<=d.ce
 ents:V1.OwnE (B+1) W d.ae (tE mem i)
 x:d.x=D1.nodeD mem (i:Int)
theorem NdOk.below {i:Nat} {d:Nd} (h:NdOk mem B i d W) (hb:Bq W W'):NdOk mem B i d W':=⟨h.k,h.o,h.n,h.c,h.row.below hb,h.ne,h.ce,h.ents.below hb,h.x⟩
theorem NdOk.set {i:Nat} {d:Nd} (h:NdOk mem B i d W) (j:Nat) (v:Value):NdOk mem B i d (W.setCell ⟨B,j,none⟩ v):=⟨h.k,h.o,h.n,h.c,h.row.set (Nat.lt_succ_self B) j v,h.ne,h.ce,N5.ownE_set h.ents (Nat.lt_succ_self B) j v,h.x⟩
theorem NdOk.putN {i:Nat} {d:Nd} (h:NdOk mem B i d W) (j:Nat) (u:Nd):NdOk mem B i d (TW.putN W B j u):=(((((h.set _ _).set _ _).set _ _).set _ _).set _ _).set _ _
theorem own_gr {a:Option Addr} {zs:List Int} (h:J0.Own (B+1) w a zs) (hg:w.grownBy W (some B)):J0.Own (B+1) W a zs:=
 h.imp id fun ⟨g,e,hb,hk⟩=>⟨g,e,hb,blk_gr hk hg (by omega)⟩
theorem ownE_gr {a:Option Addr} {es:List T0.Ent} (h:V1.OwnE (B+1) w a es) (hg:w.grownBy W (some B)):V1.OwnE (B+1) W a es:=by
 refine h.imp id fun ⟨g,e,hb,hk⟩=>⟨g,e,hb,?_⟩
 have hc:∀ x,W.cell? ⟨g,x,none⟩=w.cell? ⟨g,x,none⟩:=fun x=>World.cell?_of_block (a:=⟨g,x,none⟩) (hg.block g hk.lt (by simp;omega))
 have hf:∀ x,W.frozen? ⟨g,x,none⟩=w.frozen? ⟨g,x,none⟩:=fun x=>World.frozen?_of_block (a:=⟨g,x,none⟩) (hg.block g hk.lt (by simp;omega))
 exact ⟨fun j hj=>by rw[hc,hc];exact hk.done j hj,fun j hj=>by rw[hc];exact hk.there j hj,fun j hj=>by rw[hf];exact hk.free j hj,Nat.lt_of_lt_of_le hk.lt hg.size⟩
theorem NdOk.gr {i:Nat} {d:Nd} (h:NdOk mem B i d w) (hg:w.grownBy W (some B)):NdOk mem B i d W:=⟨h.k,h.o,h.n,h.c,own_gr h.row hg,h.ne,h.ce,ownE_gr h.ents hg,h.x⟩
structure Rd (mem:ByteArray) (w:World) (k:Nat) (N:Nat->Nd) (W:World):Prop where
 tb:Tb w.heap.size N (fun _=>0) (fun _=>⟨#[]⟩) W
 nd:∀ i,i<k->NdOk mem w.heap.size i (N i) W
 far:∀ i,k<=i->N i=zeroN
 bel:Bq w W
theorem Rd.below {k:Nat} (h:Rd mem w k N W) (hb:Bq W W'):Rd mem w k N W':=⟨h.tb.below hb h.tb.lt,fun i hi=>(h.nd i hi).below hb,h.far,h.bel.trans (hb.mono h.bel.size)⟩
theorem Rd.drew {k:Nat} (h:Rd mem w k N W):Rd mem w k N W.drew:=⟨h.tb.drew,fun i hi=>(h.nd i hi).below ((Below.refl _ _).drew),h.far,h.bel.drew⟩
theorem rd_new (mem:ByteArray) (w:World):Rd mem w 0 (fun _=>zeroN) (w.alloc (.cells zcells.toArray 220)):=⟨tb_new w,fun i hi=>by omega,fun i _=>rfl,K0.below_new w _⟩
theorem Rd.step {k:Nat} {d:Nd} (h:Rd mem w k N W) (hk:k<8) (hd:NdOk mem w.heap.size k d W):Rd mem w (k+1) (upN N k d) (TW.putN W w.heap.size k d):=by
 refine ⟨h.tb.putN hk d,fun i hi=>?_,fun i hi=>?_,?_⟩
 ·by_cases e:i=k
  ·subst e
   simp only[upN,if_pos rfl];exact hd.putN i d
  ·simp only[upN,if_neg e]
   exact (h.nd i (by omega)).putN k d
 ·simp only[upN,if_neg (show ¬ i=k by omega)]
  exact h.far i (by omega)
 ·exact (((((h.bel.setCell (p:=⟨w.heap.size,k*6,none⟩) (Nat.le_refl _) _).setCell (p:=⟨w.heap.size,k*6+1,none⟩) (Nat.le_refl _) _).setCell (p:=⟨w.heap.size,k*6+2,none⟩) (Nat.le_refl _) _).setCell (p:=⟨w.heap.size,k*6+3,none⟩) (Nat.le_refl _) _).setCell (p:=⟨w.heap.size,k*6+4,none⟩) (Nat.le_refl _) _).setCell (p:=⟨w.heap.size,k*6+5,none⟩) (Nat.le_refl _) _
theorem Rd.kinds (h:Rd mem w 8 N W):(fun i=>(N i).k)=tK mem:=by
 funext i
 by_cases hi:i<8
 ·exact (h.nd i hi).k
 ·rw[h.far i (by omega),tK_far mem i (by omega)]
  rfl
theorem Rd.ns (h:Rd mem w 8 N W):Ns w.heap.size N (tE mem) W:=
 ⟨fun i hi=>(h.nd i hi).ne,fun i hi=>(h.nd i hi).ents,by rw[h.kinds];exact sane_ok mem,fun i=>few_ok mem i,fun i e he=>(ent_ok mem i e he).2⟩
theorem Rd.ps (h:Rd mem w 8 N W):Ps N (tZ mem) W:=⟨fun i hi=>(h.nd i hi).n,fun i hi=>(h.nd i hi).row.row,pg_few mem⟩
structure Good (mem:ByteArray) (B:Nat) (N:Nat->Nd) (F:Nat->Nat) (P:Nat->ByteArray) (W:World):Prop where
 tb:Tb B N F P W
 nd:∀ i,i<8->NdOk mem B i (N i) W
 inv:TR.Inv (tE mem) (tK mem) [] F P
theorem Good.below (h:Good mem B N F P W) (hb:Bq W W'):Good mem B N F P W':=⟨h.tb.below hb h.tb.lt,fun i hi=>(h.nd i hi).below hb,h.inv⟩
theorem Good.ps (h:Good mem B N F P W):Ps N (tZ mem) W:=⟨fun i hi=>(h.nd i hi).n,fun i hi=>(h.nd i hi).row.row,pg_few mem⟩
def Ans (mem:ByteArray) (w:World) (e:Ending) (w':World):Prop:=
 ∃ p,e=.returned (.tuple #[.pointer p,.bool (sound mem)])/\Bq w w'/\(sound mem=true->∃ B N F P,p=some ⟨B,0,none⟩/\w.heap.size<=B/\Good mem B N F P w')
theorem ans_no {mem:ByteArray} {w w':World} {p:Option Addr} (h:sound mem=false) (hb:Bq w w'):Ans mem w (.returned (.tuple #[.pointer p,.bool false])) w':=
 ⟨p,by rw[h],hb,fun h'=>by rw[h] at h';cases h'⟩
theorem ans_yes {mem:ByteArray} {w w':World} (h:sound mem=true) (hb:Bq w w') (hB:w.heap.size<=B) (hg:Good mem B N F P w'):Ans mem w (.returned (.tuple #[Pv B 0,.bool true])) w':=
 ⟨_,by rw[h],hb,fun _=>⟨B,N,F,P,rfl,hB,hg⟩⟩
end TW
namespace TS
variable {w W W' : World} {mem : ByteArray}
open J0 (IBuf Own)
open I2 (ints)
open TW (tK tZ tE cat)
theorem append_one {ops:Array Oper} {rest:List Oper} {o:Oper} {A:Act} {Q:Exit->Act->World->Prop} {base g n cap:Nat} {xs:List Value} (T e:TypeId) (z:Value) (bytes:Nat) (hu:prog.underlying T=some (.slice e)) (hinfo:(prog.info? e).map (fun i=>(i.zero,i.size,i.bytes))=some (some z,1,bytes)) (hzc:z.cells.size=1) (hby:bytes<=16)
  (hgd:o.guard=none) (sl y:Operand) (ho:o.op=.call { callee:=.builtin .append,args:=#[sl,y],argTypes:=#[T,T] })
  (hbuf:w.ownsRow base e 1 (Sv g n cap) n xs) (v:Value) (hv:v.oneCell'=true) (hs:A.eval sl=Sv g n cap) {H:Nat} (hH:w.heap.size=H) (hx:A.eval y=Sv H 1 1) (hlen:n+1<=1048576) (hb:base<=w.heap.size)
  (h:∀ g' cap' w',w'.ownsRow base e 1 (Sv g' (n+1) cap') (n+1) (xs ++ [v])->w.grownBy w' (some g)->(g'=g\/w.heap.size<=g')->wpList prog ops Q rest (A.put o.dst (Sv g' (n+1) cap')) w'):wpList prog ops Q (o :: rest) A (w.alloc (.cells #[v] e)):=by
 subst hH;obtain ⟨i0,hi,hz0,hz1,hz2⟩:=info_parts hinfo;have hb2:=hbuf.alloc (.cells #[v] e)
 have hone:∀ u ∈ [v],u.oneCell'=true:=by
  intro u hu;simp at hu;subst hu;exact hv
 have hbb:(n+1)*bytes<=140737488355328:=Nat.le_trans (Nat.mul_le_mul hlen hby) (by decide);refine wpList_append_lies _ hgd sl y T ho base e i0 z 1 bytes hu hi hz0 hz1 hz2 hzc (by omega) _ n _ hs hb2 ⟨w.heap.size,0,none⟩ 1 1 [v] hx rfl (World.news_of_block (heap_alloc_new w _)) hone (by omega) (by unfold maxLen;omega) hbb (by simp;omega) _ rfl ?_;intro g' cap' w' ho' hg' hl' _;refine h g' cap' w' ho' ((World.grownBy_alloc w _ _).trans hg') ?_
 rcases hl' with q | q
 ·left
  have e':g=g':=by simpa [Value.ownBlock] using q
  exact e'.symm
 ·right
  rw[q];simp
theorem infoS:(prog.info? 9).map (fun i=>(i.zero,i.size,i.bytes))=some (some (.string ⟨#[]⟩),1,16):=by kernel_rfl
theorem owns_blk {base g n cap:Nat} {e:TypeId} {xs:List Value} (h:w.ownsRow base e 1 (Sv g n cap) n xs):K0.Blk g xs w:=by
 have hl:xs.length=n:=by have:=h.1;omega
 refine ⟨fun j hj=>?_,fun j hj=>h.frozenAt j,(h.lt g rfl).2⟩;rw[h.cellAt j (by omega),List.getElem?_eq_getElem hj]
def pv (l:List (Nat × T0.Ent)):List Value:=(List.range 8).map fun (x:Nat)=>.int .i64 (TR.par l (x:Int))
def nv (l:List (Nat × T0.Ent)):List Value:=(List.range 8).map fun (x:Nat)=>.string (TR.nam l (x:Int))
theorem pv_length (l:List (Nat × T0.Ent)):(pv l).length=8:=by simp[pv]
theorem nv_length (l:List (Nat × T0.Ent)):(nv l).length=8:=by simp[nv]
theorem map_set {f:Nat->Value} {x:Nat} (v:Value) (hx:x<8):((List.range 8).map f).set x v=(List.range 8).map fun y=>if y=x then v else f y:=by
 apply List.ext_getElem
 ·simp
 ·intro k h1 h2
  have hk:k<8:=by simpa using h1
  rw[List.getElem_set]
  by_cases e:x=k
  ·subst e
   simp
  ·have e':¬ k=x:=fun q=>e q.symm
   simp[e,e']
theorem pv_first {l:List (Nat × T0.Ent)} {i x:Nat} {nm:ByteArray} (hx:x<8) (h:TR.par l (x:Int) = -1):(pv l).set x (Iv (i:Int))=pv (l ++ [(i,((x:Int),nm))]):=by
 unfold pv;rw[map_set _ hx]
 apply List.map_congr_left
 intro y _;rw[TR.par_step]
 by_cases e:y=x
 ·subst e
  rw[if_pos rfl,if_pos rfl,if_pos h]
 ·have:¬ ((x:Int)=(y:Int)):=by omega
  rw[if_neg e,if_neg this]
theorem pv_more {l:List (Nat × T0.Ent)} {i x:Nat} {nm:ByteArray} (hx:x<8) (h:¬ TR.par l (x:Int) = -1):(pv l).set x (Iv (-2))=pv (l ++ [(i,((x:Int),nm))]):=by
 unfold pv;rw[map_set _ hx]
 apply List.map_congr_left
 intro y _;rw[TR.par_step]
 by_cases e:y=x
 ·subst e
  rw[if_pos rfl,if_pos rfl,if_neg h]
 ·have:¬ ((x:Int)=(y:Int)):=by omega
  rw[if_neg e,if_neg this]
theorem nv_first {l:List (Nat × T0.Ent)} {i x:Nat} {nm:ByteArray} (hx:x<8) (h:TR.par l (x:Int) = -1):(nv l).set x (.string nm)=nv (l ++ [(i,((x:Int),nm))]):=by
 unfold nv;rw[map_set _ hx]
 apply List.map_congr_left
 intro y _;rw[TR.nam_step]
 by_cases e:y=x
 ·subst e
  rw[if_pos rfl,if_pos ⟨rfl,h⟩]
 ·have:¬ ((x:Int)=(y:Int)/\TR.par l (y:Int) = -1):=fun q=>by have:=q.1;omega
  rw[if_neg e,if_neg this]
theorem nv_more {l:List (Nat × T0.Ent)} {i x:Nat} {nm:ByteArray} (h:¬ TR.par l (x:Int) = -1):nv l=nv (l ++ [(i,((x:Int),nm))]):=by
 unfold nv
 apply List.map_congr_left
 intro y _;rw[TR.nam_step]
 have:¬ ((x:Int)=(y:Int)/\TR.par l (y:Int) = -1):=fun q=>by
  have e:x=y:=by have:=q.1;omega
  subst e;exact h q.2
 rw[if_neg this]
theorem pv_nil:pv []=List.replicate 8 (Iv (-1)):=rfl
theorem nv_nil:nv []=List.replicate 8 (.string ⟨#[]⟩):=rfl
theorem ret_bool {a b:Bool} (h:a=b):Ending.returned (.bool a)=.returned (.bool b):=by rw[h]
theorem l04Root (p:Int->Int) (g c:Nat) (i:Int) (w:World) (hp:∀ x,p x<8) (hB:∀ x:Nat,x<8->Ce w g x (Iv (p (x:Int)))) (hi:i<8) :
  Calls prog 63 #[Sv g 8 c,Iv i] w (Rw (.bool (TR.root p 8 i)) w):=by
 go_enter func63,ntmps63;go_wp2
 go_loop [1,5] (fun v n=>∃ (k:Nat) (j:Int),k<=8/\n=Iv k/\v=Iv j/\j<8/\TR.root p (8-k) j=TR.root p 8 i) (fun _ n=>8-(intOf n).toNat)
 case atStart=>exact ⟨0,i,Nat.zero_le _,rfl,rfl,hi,rfl⟩
 case round=>
  obtain ⟨k,j,hk,rfl,rfl,hj,hr⟩:=hrel;have HR:Hid (TR.root p (8-k) j=TR.root p 8 i):=hr;clear hr
  by_cases hlt:k<8
  ·have e1:(k:Int)<8:=by omega
   by_cases h0:j=0
   ·subst h0
    go_wp2;go_ret;exact ⟨ret_bool (by rw[<- HR.out,TR.root_zero]),rfl⟩
   ·have h0':(j == 0)=false:=by simpa using h0
    by_cases hn:j<0
    ·go_wp2
     go_ret;exact ⟨ret_bool (by rw[<- HR.out,TR.root_neg _ _ _ hn]),rfl⟩
    ·obtain ⟨x,rfl⟩:∃ x:Nat,j=(x:Int):=⟨j.toNat,by omega⟩
     have hc:=hB x (by omega)
     have hn':decide ((x:Int)<0)=false:=by simp
     have b1:(0:Int)<=(x:Int):=by omega
     have b2:(x:Int)<8:=by omega
     have hq:=hp (x:Int)
     have HS:Hid (TR.root p (8-(k+1)) (p (x:Int))=TR.root p 8 i):=by
      show _=_
      rw[<- HR.out,show 8-k=(8-(k+1))+1 by omega,TR.root_pos _ _ _ (by omega)]
     obtain ⟨q,eq⟩:∃ q,p (x:Int)=q:=⟨_,rfl⟩;rw[eq] at hc hq HS;clear eq hB hp;go_wp2
     go_round
     case rel=>exact ⟨k+1,q,by omega,by go_num,rfl,hq,HS.out⟩
     case measure=>simp[intOf];omega
  ·obtain rfl:k=8:=by omega
   have hfin:(j == 0)=TR.root p 8 i:=by rw[<- HR.out];rfl
   clear HR;obtain ⟨r,er⟩:∃ r,TR.root p 8 i=r:=⟨_,rfl⟩;rw[er] at hfin;have HE:Hid (TR.root p 8 i=r):=er;clear er;go_wp2;go_ret;exact ⟨ret_bool HE.out.symm,rfl⟩
theorem l04Owned (mem:ByteArray) (w:World) (hms:mem.size<=281474976710656) :
  Calls prog 60 #[.string mem] w fun e w'=>∃ a c,e=.returned (.slice a (cat (tZ mem) 8).length c)/\(cat (tZ mem) 8).length<=c/\J0.Own w.heap.size w' a (cat (tZ mem) 8)/\Bq w w':=by
 have hG:Hid (∀ (k:Nat) W,Calls prog 92 #[.string (O0.recd mem (k:Int))] W (G3.Ans (O0.recd mem (k:Int)) W)):=fun k W=>G4.spec_GetInode _ W (O0.recd_size mem _ hms)
 have hA:Hid (∀ (k:Nat) W e w',G3.Ans (O0.recd mem (k:Int)) W e w'->∃ (q o s:Int) (a:Option Addr) (c:Nat) (b:Bool),e=.returned (.tuple #[.agg (Iq q o s a (tZ mem k).length c),.bool b])/\J0.Own W.heap.size w' a (tZ mem k)/\Bq W w'):=fun k W e w' ⟨a,c,he,ho,hc,hb⟩=>⟨_,_,_,a,c,_,he,ho,hb⟩
 have hL:Hid (∀ (k:Nat) W,_):=fun k W=>O1.l03Rec mem k W hms
 have hlen:=TW.cat_len (TW.pg_few mem);have b0:=J0.ibuf_made (base:=w.heap.size) w (Nat.le_refl _);have l0:=K0.below_new w (.cells #[] 3);go_enter func60,ntmps60;go_wp2
 go_loopw [3,4] (fun v i w'=>∃ (k n c:Nat) (a:Option Addr),k<=8/\i=Iv k/\v=.slice a n c/\IBuf w.heap.size w' a n c (cat (tZ mem) k)/\Bq w w') (fun _ i _=>8-(intOf i).toNat)
 case atStart=>exact ⟨0,0,0,_,Nat.zero_le _,rfl,rfl,b0,l0⟩
 case round=>
  obtain ⟨k,n,c,a,hk,rfl,rfl,hbuf,hbel⟩:=hrel;clear b0 l0
  by_cases hlt:k<8
  ·have e1:(k:Int)<8:=by omega
   have HS:Hid (cat (tZ mem) k++tZ mem k=cat (tZ mem) (k+1)):=rfl
   have hnl:n<=96:=by
    have:=hlen k;rw[hbuf.1];omega
   have hfew:=TW.pg_few mem k;have hLk:=hL.out k;have hGk:=hG.out k;have hAk:Hid (∀ W e w',G3.Ans (O0.recd mem (k:Int)) W e w'->∃ (q o s:Int) (a:Option Addr) (c:Nat) (b:Bool),e=.returned (.tuple #[.agg (Iq q o s a (tZ mem k).length c),.bool b])/\J0.Own W.heap.size w' a (tZ mem k)/\Bq W w'):=hA.out k;obtain ⟨zk,hzk⟩:∃ zk,tZ mem k=zk:=⟨_,rfl⟩;obtain ⟨rk,hrk⟩:∃ rk,O0.recd mem (k:Int)=rk:=⟨_,rfl⟩;rw[hzk] at HS hfew hAk;rw[hrk] at hLk hGk hAk;clear hzk hrk hL hG hA
   go_wp2_with (first
    | (go_at_call 69;refine (hLk _).mono ?_;rintro e wq ⟨rfl,rfl⟩)
    | (go_at_call 92;refine (hGk _).mono ?_;intro e w2 hans;obtain ⟨q,o,s,a2,c2,bb,rfl,o2,b2⟩:=hAk.out _ _ _ hans;clear hans;have n2:=K0.below_new w2 (.cells (Iq q o s a2 zk.length c2) 96);have y3:=(K0.blk_new [Iv q,Iv o,Iv s,.slice a2 zk.length c2] w2 96).c3;have bf2:=(hbuf.below b2).below n2;have r2:=(o2.row.below n2);have l2:=(hbel.trans (b2.mono hbel.size)).trans (n2.mono (Nat.le_trans hbel.size b2.size)))
    | (at_builtin;refine Q1.append_rows rfl (.tmp 19) (.tmp 21) rfl bf2 _ _ zk (by rfl) (by rfl) r2 (by omega) l2.size ?_;intro a3 c3 w3 bf3 b3))
   go_roundw
   case rel=>exact ⟨k+1,n+zk.length,c3,a3,by omega,by go_num,rfl,by rw[<- HS.out];exact bf3,l2.trans b3⟩
   case measure=>simp[intOf];omega
  ·obtain rfl:k=8:=by omega
   have hn:n=(cat (tZ mem) 8).length:=hbuf.1;subst hn;go_wp2;go_ret;exact ⟨a,c,rfl,hbuf.fits,hbuf.own,hbel⟩
end TS
namespace TS
variable {w W W' : World} {mem : ByteArray}
open J0 (IBuf Own)
open I2 (ints)
open TW (tK tZ tE cat nodesOk)
structure Two (w:World) (k g1 c1 g2 c2:Nat) (W:World):Prop where
 o1:W.ownsRow w.heap.size 3 1 (.slice (some ⟨g1,0,none⟩) k c1) k (List.replicate k (.int .i64 (-1)))
 o2:W.ownsRow w.heap.size 9 1 (.slice (some ⟨g2,0,none⟩) k c2) k (List.replicate k (.string ⟨#[]⟩))
 ne:g1≠g2
 bel:Bq w W
theorem two_new (w:World):Two w 0 w.heap.size 0 (w.heap.size+1) 0 ((w.alloc (.cells #[] 3)).alloc (.cells #[] 9)):=by
 have h2:=World.ownsRow_made (base:=w.heap.size) (e:=9) (size:=1) (w.alloc (.cells #[] 3)) #[] 0 (by simp) (Nat.zero_le _) rfl;rw[World.size_alloc] at h2;exact ⟨(World.ownsRow_made w #[] 0 (Nat.le_refl _) (Nat.zero_le _) rfl).alloc _,h2,by omega,((Below.refl _ _).alloc (Nat.le_refl _) _).alloc (by simp) _⟩
structure Pr (w:World) (g1 g2:Nat) (l:List (Nat × T0.Ent)) (W:World):Prop where
 b1:K0.Blk g1 (pv l) W
 b2:K0.Blk g2 (nv l) W
 ne:g1≠g2
 lo:w.heap.size<=g1/\w.heap.size<=g2
 bel:Bq w W
variable {g1 g2 : Nat} {l : List (Nat × T0.Ent)}
theorem Pr.below (h:Pr w g1 g2 l W) (hb:Bq W W'):Pr w g1 g2 l W':=⟨h.b1.below hb,h.b2.below hb,h.ne,h.lo,h.bel.trans (hb.mono h.bel.size)⟩
theorem Pr.drew (h:Pr w g1 g2 l W):Pr w g1 g2 l W.drew:=⟨h.b1.drew,h.b2.drew,h.ne,h.lo,h.bel.drew⟩
theorem Pr.drewN (h:Pr w g1 g2 l W) (n:Nat):Pr w g1 g2 l (W.drewN n):=⟨h.b1.drewN n,h.b2.drewN n,h.ne,h.lo,K0.below_drewN h.bel n⟩
theorem Two.pr {c1 c2:Nat} (h:Two w 8 g1 c1 g2 c2 W):Pr w g1 g2 [] W:=by
 refine ⟨?_,?_,h.ne,⟨(h.o1.lt g1 rfl).1,(h.o2.lt g2 rfl).1⟩,h.bel⟩
 ·rw[pv_nil]
  exact owns_blk h.o1
 ·rw[nv_nil]
  exact owns_blk h.o2
theorem Pr.par (h:Pr w g1 g2 l W) {x:Nat} (hx:x<8):W.cell? ⟨g1,x,none⟩=some (.int .i64 (TR.par l (x:Int))):=by
 rw[h.b1.cell x (by rw[pv_length];exact hx)];simp[pv]
theorem Pr.nam (h:Pr w g1 g2 l W) {x:Nat} (hx:x<8):W.cell? ⟨g2,x,none⟩=some (.string (TR.nam l (x:Int))):=by
 rw[h.b2.cell x (by rw[nv_length];exact hx)];simp[nv]
theorem Pr.first (h:Pr w g1 g2 l W) {i x:Nat} {nm:ByteArray} (hx:x<8) (hp:TR.par l (x:Int) = -1):Pr w g1 g2 (l ++ [(i,((x:Int),nm))]) ((W.setCell ⟨g1,x,none⟩ (Iv (i:Int))).setCell ⟨g2,x,none⟩ (.string nm)):=by
 refine ⟨?_,?_,h.ne,h.lo,(h.bel.setCell (p:=⟨g1,x,none⟩) h.lo.1 _).setCell (p:=⟨g2,x,none⟩) h.lo.2 _⟩
 ·rw[<- pv_first hx hp]
  exact (h.b1.set x _).setOther h.ne.symm x _
 ·rw[<- nv_first hx hp]
  exact (h.b2.setOther h.ne x _).set x _
theorem Pr.more (h:Pr w g1 g2 l W) {i x:Nat} {nm:ByteArray} (hx:x<8) (hp:¬ TR.par l (x:Int) = -1):Pr w g1 g2 (l ++ [(i,((x:Int),nm))]) (W.setCell ⟨g1,x,none⟩ (Iv (-2))):=by
 refine ⟨?_,?_,h.ne,h.lo,h.bel.setCell (p:=⟨g1,x,none⟩) h.lo.1 _⟩
 ·rw[<- pv_more hx hp]
  exact h.b1.set x _
 ·rw[<- nv_more hp]
  exact h.b2.setOther h.ne x _
theorem lK_eq (hm:mem.size=768) (i:Int):O0.lK mem i=G0.gK (O0.recd mem i):=by
 unfold O0.lK
 cases h:O0.isL mem i with
 | true=>rfl
 | false=>
  unfold O0.isL at h;rw[decide_eq_true hm,Bool.true_and] at h
  cases hI:G0.isI (O0.recd mem i) with
  | false=>rw[(G0.g_no hI).1];rfl
  | true=>
   rw[hI,Bool.true_and] at h
   have h0:B1.byteAt (O0.recd mem i) 0=0:=by simpa using h
   rw[(G0.g_yes hI).1,h0];rfl
theorem lD_dir (hm:mem.size=768) (i:Int) (h2:G0.gK (O0.recd mem i)=2):O0.lD mem i=D1.data mem i:=by
 have h:=lK_eq hm i;rw[h2] at h
 cases hL:O0.isL mem i with
 | false=>rw[(O0.l_no hL).1] at h;exact absurd h (by decide)
 | true=>exact (O0.l_yes hL).2.2.2.2
def Par (mem:ByteArray) (w:World) (e:Ending) (w':World):Prop:=
 ∃ a1 c1 a2 c2,e=.returned (.tuple #[.slice a1 8 c1,.slice a2 8 c2,.bool (nodesOk mem)])/\Bq w w'/\(nodesOk mem=true->∃ g1 g2,a1=some ⟨g1,0,none⟩/\a2=some ⟨g2,0,none⟩/\Pr w g1 g2 (TR.flat (tE mem) 8) w')
theorem l04Parents (mem:ByteArray) (w:World) (hm:mem.size=768):Calls prog 62 #[.string mem] w (Par mem w):=by
 have hms:mem.size<=281474976710656:=by omega
 have HN:Hid (∀ g1 c1 g2 c2 w',nodesOk mem=false->Bq w w'->Par mem w (.returned (.tuple #[Sv g1 8 c1,Sv g2 8 c2,.bool false])) w'):=fun g1 c1 g2 c2 w' h hb=>⟨_,_,_,_,by rw[h],hb,fun h'=>by rw[h] at h';cases h'⟩
 have HY:Hid (∀ g1 c1 g2 c2 w',nodesOk mem=true->Pr w g1 g2 (TR.flat (tE mem) 8) w'->Par mem w (.returned (.tuple #[Sv g1 8 c1,Sv g2 8 c2,.bool true])) w'):=fun g1 c1 g2 c2 w' h hp=>⟨_,_,_,_,by rw[h],hp.bel,fun _=>⟨g1,g2,rfl,rfl,hp⟩⟩
 have t0:=two_new w;obtain ⟨R,hR⟩:∃ R,Par mem w=R:=⟨_,rfl⟩;rw[hR] at HN HY ⊢;clear hR;go_enter func62,ntmps62;go_wp2
 go_loopw [5,6,7] (fun v u i w'=>∃ (k g1 c1 g2 c2:Nat),k<=8/\i=Iv k/\v=Sv g1 k c1/\u=Sv g2 k c2/\Two w k g1 c1 g2 c2 w') (fun _ _ i _=>8-(intOf i).toNat)
 case atStart=>exact ⟨0,_,_,_,_,Nat.zero_le _,rfl,rfl,rfl,t0⟩
 case round=>
  obtain ⟨k,g1,c1,g2,c2,hk,rfl,rfl,rfl,tw⟩:=hrel;clear t0
  by_cases hlt:k<8
  ·have e1:(k:Int)<8:=by omega
   have hg1:=tw.o1.lt g1 rfl;have hg2:=tw.o2.lt g2 rfl;have HG:Hid ((w.heap.size<=g1/\g1<wr.heap.size)/\(w.heap.size<=g2/\g2<wr.heap.size)):=⟨hg1,hg2⟩;clear hg1 hg2
   go_wp2_with (first
    | (at_builtin;refine append_one 99 9 (.string ⟨#[]⟩) 16 underlying99 infoS rfl (by decide) rfl (.tmp 26) (.tmp 27) rfl o2' (.string ⟨#[]⟩) rfl (by rfl) rfl (by rfl) (by omega) l2.size ?_;intro g4 c4 w4 o4 gr4 q4)
    | (at_builtin;refine append_one 32 3 (Iv 0) 8 underlying32 I2.info3 rfl (by decide) rfl (.tmp 23) (.tmp 24) rfl tw.o1 (Iv (-1)) rfl (by rfl) rfl (by rfl) (by omega) tw.bel.size ?_;intro g3 c3 w3 o3 gr3 q3;have o2':=tw.o2.kept gr3 (Or.inr (by simpa [Value.ownBlock] using tw.ne.symm));have l2:=tw.bel.trans (TW.below_gr gr3 (HG.out.1.1) tw.bel.size)))
   have hG:=HG.out
   have o3':=o3.kept gr4 (Or.inr (by
    simp only[Value.ownBlock,ne_eq,Option.some.injEq]
    rcases q3 with e | e
    ·rw[e]
     exact tw.ne
    ·omega))
   go_roundw
   case rel=>
    refine ⟨k+1,g3,c3,g4,c4,by omega,by go_num,rfl,rfl,⟨by rw[List.replicate_succ'];exact o3',by rw[List.replicate_succ'];exact o4,?_,l2.trans (TW.below_gr gr4 hG.2.1 l2.size)⟩⟩;have h3:=(o3.lt g3 rfl).2
    rcases q3 with e | e <;> rcases q4 with e' | e'
    ·rw[e,e']
     exact tw.ne
    ·omega
    ·omega
    ·omega
   case measure=>simp[intOf];omega
  ·obtain rfl:k=8:=by omega
   have p0:=tw.pr;clear tw;go_wp2
   go_loopg [8] 8 (fun gk i W=>∃ k:Nat,k+gk=8/\i=Iv k/\N0.to (fun i=>D1.nodeOk mem (i:Int)) k=true/\Pr w g1 g2 (TR.flat (tE mem) k) W)
   case atStart=>exact ⟨0,rfl,rfl,rfl,p0⟩
   case round=>
    obtain ⟨k,hk',rfl,hok,pr⟩:=hrel;obtain ⟨go,rfl⟩:∃ go,go=gk:=⟨_,rfl⟩;clear p0
    by_cases hlt2:k<8
    ·have e1:(k:Int)<8:=by omega
     have hLk:Hid (∀ W,_):=fun W=>O1.l03Rec mem k W hms
     have hGk:Hid (∀ W,Calls prog 92 #[.string (O0.recd mem (k:Int))] W fun e w'=>∃ (q o s:Int) (a:Option Addr) (n c:Nat),e=.returned (.tuple #[.agg (Iq q o s a n c),.bool (G0.isI (O0.recd mem (k:Int)))])/\Bq W w'):=fun W=>(G4.spec_GetInode _ W (O0.recd_size mem _ hms)).mono fun e w' ⟨a,c,he,ho,hc,hb⟩=>⟨_,_,_,a,_,c,he,hb⟩
     have hcase:=D1.node_cases mem (k:Int)
     have hLo:Hid (∀ W,Calls prog 61 #[.string mem,Iv (k:Int)] W fun e w'=>∃ (o s:Int) (a:Option Addr) (n c:Nat) (bb:Bool),e=.returned (.tuple #[.agg (Iq (G0.gK (O0.recd mem (k:Int))) o s a n c),.string (O0.lD mem (k:Int)),.bool bb])/\Bq W w'):=fun W=>(O3.spec_Load mem (k:Int) W hms).mono fun e w' ⟨a,c,he,ho,hc,hb⟩=>⟨_,_,a,_,c,_,by rw[<- lK_eq hm];exact he,hb⟩
     have hlD:=fun h=>lD_dir hm (k:Int) h
     have hKE:tE mem k=D1.nodeE mem (k:Int):=rfl
     have hfl:TR.flat (tE mem) (k+1)=TR.flat (tE mem) k++(tE mem k).map fun e=>(k,e):=rfl
     obtain ⟨rk,hrk⟩:∃ rk,O0.recd mem (k:Int)=rk:=⟨_,rfl⟩;rw[hrk] at hLk hGk hcase hLo hlD;obtain ⟨K,hK⟩:∃ K,G0.gK rk=K:=⟨_,rfl⟩;rw[hK] at hcase hLo hlD;obtain ⟨ld,hld⟩:∃ ld,O0.lD mem (k:Int)=ld:=⟨_,rfl⟩;rw[hld] at hLo hlD
     have HBAD:Hid (D1.nodeOk mem (k:Int)=false->nodesOk mem=false):=fun h=>N0.to_bad hlt2 h
     have HGOOD:Hid (D1.nodeOk mem (k:Int)=true->N0.to (fun i=>D1.nodeOk mem (i:Int)) (k+1)=true):=fun h=>N0.to_step hok h
     clear hrk hK hld hok
     rcases hcase with ⟨gI,hp⟩ | ⟨gI,g2',hp,hE⟩ | ⟨gI,g2',hp,hE⟩
     ·rw[gI] at hGk
      have HB2:Hid (nodesOk mem=false):=HBAD.out hp;clear gI hp HGOOD hlD hKE hfl
      go_wp2_with (first
       | (go_at_call 69;refine (hLk.out _).mono ?_;rintro e wq ⟨rfl,rfl⟩)
       | (go_at_call 92;refine (hGk.out _).mono ?_;rintro e w2 ⟨q,o,s,a,n,c,rfl,b2⟩;have l2:=(pr.below b2).bel.alloc (pr.below b2).bel.size (.cells (Iq q o s a n c) 96)))
      exact HN.out _ _ _ _ _ HB2.out l2
     ·rw[gI] at hGk
      have HO:Hid (N0.to (fun i=>D1.nodeOk mem (i:Int)) (k+1)=true):=HGOOD.out hp
      have HFL:Hid (TR.flat (tE mem) (k+1)=TR.flat (tE mem) k):=by
       show _=_
       rw[hfl,hKE,hE];simp
      clear gI hp HBAD hlD hKE hfl hE
      go_wp2_with (first
       | (go_at_call 69;refine (hLk.out _).mono ?_;rintro e wq ⟨rfl,rfl⟩)
       | (go_at_call 92;refine (hGk.out _).mono ?_;rintro e w2 ⟨q,o,s,a,n,c,rfl,b2⟩;have p2:=(pr.below b2).below (K0.below_new w2 (.cells (Iq q o s a n c) 96)))
       | (go_at_call 61;refine (hLo.out _).mono ?_;rintro e w3 ⟨o3,s3,a3,n3,c3,bb3,rfl,b3⟩;have p3:=(p2.below b3).below (K0.below_new w3 (.cells (Iq K o3 s3 a3 n3 c3) 96));have y0:=(K0.blk_new [Iv K,Iv o3,Iv s3,.slice a3 n3 c3] w3 96).c0))
      go_roundg (go-1)
      case measure=>omega
      case rel=>exact ⟨k+1,by omega,by go_num,HO.out,by rw[HFL.out];exact p3⟩
     ·rw[gI] at hGk
      have hK2:K=2:=by simpa using g2'
      subst hK2;have hdd:=hlD rfl;subst hdd;have hdsz:=D1.data_le mem (k:Int) hm
      have hGD:Hid (∀ W,Calls prog 93 #[.string (D1.data mem (k:Int))] W fun e w'=>∃ a c,e=.returned (.tuple #[.slice a (tE mem k).length c,.bool (D1.nodeOk mem (k:Int))])/\V1.OwnE W.heap.size w' a (tE mem k)/\Bq W w'):=fun W=>by
       rw[hp,hKE,hE]
       exact (V3.spec_GetDir _ W hdsz).mono fun e w' ⟨a,c,he,ho,hc,hb⟩=>⟨a,c,he,ho,hb⟩
      obtain ⟨dd,hdd⟩:∃ dd,D1.data mem (k:Int)=dd:=⟨_,rfl⟩;rw[hdd] at hGD hLo;clear gI g2' hp hE hKE hlD hdd hdsz
      cases hnk:D1.nodeOk mem (k:Int) with
      | false=>
       rw[hnk] at hGD;have HB2:Hid (nodesOk mem=false):=HBAD.out hnk;clear HGOOD HBAD hnk hfl
       go_wp2_with (first
        | (go_at_call 69;refine (hLk.out _).mono ?_;rintro e wq ⟨rfl,rfl⟩)
        | (go_at_call 92;refine (hGk.out _).mono ?_;rintro e w2 ⟨q,o,s,a,n,c,rfl,b2⟩;have p2:=(pr.below b2).below (K0.below_new w2 (.cells (Iq q o s a n c) 96)))
        | (go_at_call 61;refine (hLo.out _).mono ?_;rintro e w3 ⟨o3,s3,a3,n3,c3,bb3,rfl,b3⟩;have p3:=(p2.below b3).below (K0.below_new w3 (.cells (Iq 2 o3 s3 a3 n3 c3) 96));have y0:=(K0.blk_new [Iv 2,Iv o3,Iv s3,.slice a3 n3 c3] w3 96).c0)
        | (go_at_call 93;refine (hGD.out _).mono ?_;rintro e w4 ⟨a4,c4,rfl,o4,b4⟩;have p4:=p3.below b4))
       exact HN.out _ _ _ _ _ HB2.out p4.bel
      | true=>
       rw[hnk] at hGD;have HO:Hid (N0.to (fun i=>D1.nodeOk mem (i:Int)) (k+1)=true):=HGOOD.out hnk;clear HGOOD HBAD hnk
       go_wp2_with (first
        | (go_at_call 69;refine (hLk.out _).mono ?_;rintro e wq ⟨rfl,rfl⟩)
        | (go_at_call 92;refine (hGk.out _).mono ?_;rintro e w2 ⟨q,o,s,a,n,c,rfl,b2⟩;have p2:=(pr.below b2).below (K0.below_new w2 (.cells (Iq q o s a n c) 96)))
        | (go_at_call 61;refine (hLo.out _).mono ?_;rintro e w3 ⟨o3,s3,a3,n3,c3,bb3,rfl,b3⟩;have p3:=(p2.below b3).below (K0.below_new w3 (.cells (Iq 2 o3 s3 a3 n3 c3) 96));have y0:=(K0.blk_new [Iv 2,Iv o3,Iv s3,.slice a3 n3 c3] w3 96).c0)
        | (go_at_call 93;refine (hGD.out _).mono ?_;rintro e w4 ⟨a4,c4,rfl,o4,b4⟩;have p4:=p3.below b4;have hb41:=p3.b1.lt;have hb42:=p3.b2.lt))
       obtain ⟨B0,hB0⟩:∃ B0,(w3.alloc (.cells (Iq 2 o3 s3 a3 n3 c3) 96)).heap.size=B0:=⟨_,rfl⟩;rw[hB0] at o4 hb41 hb42;clear y0 p3 p2 b2 b3 b4 hB0 hGD hLo hGk hLk pr
       have pp:Pr w g1 g2 (TR.pre (tE mem) k 0) w4:=by rw[TR.pre_zero];exact p4
       go_loopg [16] (tE mem k).length (fun gj i W=>∃ j:Nat,j+gj=(tE mem k).length/\i=Iv j/\Pr w g1 g2 (TR.pre (tE mem) k j) W/\V1.OwnE B0 W a4 (tE mem k))
       case atStart=>exact ⟨0,by omega,rfl,pp,o4⟩
       case round=>
        obtain ⟨j,hj,rfl,pr,oe⟩:=hrel;clear pp p4 o4
        by_cases hjl:j<(tE mem k).length
        ·have hfew:(tE mem k).length<=12:=TW.few_ok mem (k:Int)
         have hmem:=TR.mem_ent hjl;have hin:=(TW.sane_ok mem).ino k _ hmem;have hps:=TR.pre_succ (tE mem) k j hjl
         rcases oe with h0 | ⟨gE,ea,hgE,hkE⟩
         ·rw[h0] at hjl
          exact absurd hjl (by simp)
         subst ea;have z1:=(hkE.done j hjl).1;have z2:=(hkE.done j hjl).2;obtain ⟨x,hx⟩:∃ x:Nat,(T0.ent (tE mem k) j).1=(x:Int):=⟨(T0.ent (tE mem k) j).1.toNat,by omega⟩;obtain ⟨nm,hnm⟩:∃ nm,(T0.ent (tE mem k) j).2=nm:=⟨_,rfl⟩
         have hent:T0.ent (tE mem k) j=((x:Int),nm):=by rw[<- hx,<- hnm]
         have HPS:Hid (TR.pre (tE mem) k (j+1)=TR.pre (tE mem) k j ++ [(k,((x:Int),nm))]):=by
          show _=_
          rw[hps,hent]
         rw[hx] at z1 hin;rw[hnm] at z2
         have hx8:x<8:=by omega
         have u1:=pr.par hx8;have u2:=pr.nam hx8;have f1:=pr.b1.free x (by rw[pv_length];exact hx8);have f2:=pr.b2.free x (by rw[nv_length];exact hx8)
         have d1:(0:Int)<=(j:Int):=by omega
         have d2:(j:Int)<((tE mem k).length:Int):=by omega
         have d3:(0:Int)<=(x:Int):=by omega
         have d4:(x:Int)<8:=by omega
         have HE:Hid (V1.OwnE B0 wr (some ⟨gE,0,none⟩) (tE mem k)):=Or.inr ⟨gE,rfl,hgE,hkE⟩
         have hne1:g1≠gE:=by omega
         have hne2:g2≠gE:=by omega
         by_cases hpar:TR.par (TR.pre (tE mem) k j) (x:Int) = -1
         ·have hq:=pr.first (i:=k) (nm:=nm) hx8 hpar
          have HQ:Hid (Pr w g1 g2 (TR.pre (tE mem) k (j+1)) ((wr.setCell ⟨g1,x,none⟩ (Iv (k:Int))).setCell ⟨g2,x,none⟩ (.string nm))):=by
           show Pr _ _ _ _ _
           rw[HPS.out];exact hq
          rw[hpar] at u1
          have z1':(wr.setCell ⟨g1,x,none⟩ (Iv (k:Int))).cell? ⟨gE,j*2,none⟩=some (Iv (x:Int)):=by rw[World.cell?_setCell_other _ _ _ _ (fun q=>hne1 (Addr.mk.inj q).1)];exact z1
          have z2':(wr.setCell ⟨g1,x,none⟩ (Iv (k:Int))).cell? ⟨gE,j*2+1,none⟩=some (.string nm):=by rw[World.cell?_setCell_other _ _ _ _ (fun q=>hne1 (Addr.mk.inj q).1)];exact z2
          have u2':(wr.setCell ⟨g1,x,none⟩ (Iv (k:Int))).cell? ⟨g2,x,none⟩=some (.string (TR.nam (TR.pre (tE mem) k j) (x:Int))):=by rw[World.cell?_setCell_other _ _ _ _ (fun q=>pr.ne (Addr.mk.inj q).1)];exact u2
          clear pr hq hpar hps hent hx hnm hmem hin hkE hfl;go_wp2
          go_region
          go_wp2
          go_roundg (gk-1)
          case measure=>omega
          case rel=>exact ⟨j+1,by omega,by go_num,HQ.out.drew,(N5.ownE_set (N5.ownE_set HE.out hb41 x _) hb42 x _).below ((Below.refl _ _).drew)⟩
         ·have hq:=pr.more (i:=k) (nm:=nm) hx8 hpar
          have HQ:Hid (Pr w g1 g2 (TR.pre (tE mem) k (j+1)) (wr.setCell ⟨g1,x,none⟩ (Iv (-2)))):=by
           show Pr _ _ _ _ _
           rw[HPS.out];exact hq
          have hpar':(TR.par (TR.pre (tE mem) k j) (x:Int) == -1)=false:=by simpa using hpar
          clear pr hq hpar hps hent hx hnm hmem hin hkE hfl;go_wp2
          go_roundg (gk-1)
          case measure=>omega
          case rel=>exact ⟨j+1,by omega,by go_num,HQ.out,N5.ownE_set HE.out hb41 x _⟩
        ·have hj0:¬ ((j:Int)<((tE mem k).length:Int)):=by omega
         have pfin:Pr w g1 g2 (TR.flat (tE mem) (k+1)) wr:=by
          rw[<- TR.pre_all,show (tE mem k).length=j by omega];exact pr
         clear pr oe;go_wp2
         go_roundg (go-1)
         case measure=>omega
         case rel=>exact ⟨k+1,by omega,by go_num,HO.out,pfin⟩
    ·obtain rfl:k=8:=by omega
     have HO:Hid (nodesOk mem=true):=hok;clear hok;go_wp2;exact HY.out _ _ _ _ _ HO.out pr
end TS
end Go.Proofs.YtlejhfnjmkdobaaGreatDoor
