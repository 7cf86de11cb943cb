/- Joined texts. -/
import Derived.Test.YtlejhfnjmkdobaaGreatDoorJtT
import Derived.Test.YtlejhfnjmkdobaaGreatDoorJtU
import Derived.WalkSmall
import Derived.OneCell
set_option linter.unusedVariables false
set_option linter.unusedSimpArgs false
set_option maxRecDepth 10000
set_option maxHeartbeats 16000000
namespace Go.Proofs.YtlejhfnjmkdobaaGreatDoor
open ChangeShapes WideShapes ChangeAt RowKit
open Go.Proofs.Tryz
namespace HP
variable {w W W' : World} {base Bh g c : Nat} {l : List Rg}
def fr:List Rg->List Value
 | []=>[]
 | r :: t=>.int .i64 r.1 :: .int .i64 r.2 :: fr t
theorem fr_get:∀ (l:List Rg) (i:Nat),i<l.length->(fr l)[i*2]? = some (Iv (at_ l i).1)/\(fr l)[i*2+1]? = some (Iv (at_ l i).2)
 | [],i,h=>by simp at h
 | r :: t,0,_=>by simp[fr,at_]
 | r :: t,i+1,h=>by
  have:=fr_get t i (by simpa using h)
  have e:at_ (r :: t) (i+1)=at_ t i:=by simp[at_]
  rw[e,show (i+1)*2=i*2+1+1 by omega,show i*2+1+1+1=(i*2+1)+1+1 by omega]
  simpa [fr] using this
structure HS (base Bh g c:Nat) (l:List Rg) (W:World):Prop where
 cell:W.cell? ⟨Bh,0,none⟩=some (.slice (some ⟨g,0,none⟩) l.length c)
 free:W.frozen? ⟨Bh,0,none⟩=false
 buf:W.ownsRow base 107 2 (.slice (some ⟨g,0,none⟩) l.length c) l.length (fr l)
 ne:g≠Bh
 lo:base<=Bh
 lt:Bh<W.heap.size
theorem HS.drewN (h:HS base Bh g c l W) (n:Nat):HS base Bh g c l (W.drewN n):=⟨h.cell,h.free,h.buf,h.ne,h.lo,h.lt⟩
theorem HS.drew (h:HS base Bh g c l W):HS base Bh g c l W.drew:=⟨h.cell,h.free,h.buf,h.ne,h.lo,h.lt⟩
theorem HS.below (h:HS base Bh g c l W) (hb:Bq W W'):HS base Bh g c l W':=
 ⟨(hb.cell (p:=⟨Bh,0,none⟩) h.lt).trans h.cell,(hb.frozen (p:=⟨Bh,0,none⟩) h.lt).trans h.free,F0.owns_below h.buf hb,h.ne,h.lo,Nat.lt_of_lt_of_le h.lt hb.size⟩
theorem HS.get (h:HS base Bh g c l W) {i:Nat} (hi:i<l.length):Ce W g (i*2) (Iv (at_ l i).1)/\Ce W g (i*2+1) (Iv (at_ l i).2):=by
 obtain ⟨h1,h2⟩:=fr_get l i hi;exact ⟨(h.buf.cellAt (i*2) (by omega)).trans h1,(h.buf.cellAt (i*2+1) (by omega)).trans h2⟩
theorem HS.room (h:HS base Bh g c l W):l.length<=c:=by
 rcases h.buf.2 with ⟨h',_⟩ | ⟨g',cap',cur,h',hb,hg,hnc,hcm,hcs,ht⟩
 ·cases h'
 ·cases h'
  exact hnc
end HP
namespace HP
variable {w W W' : World} {base Bh g c : Nat} {l : List Rg}
structure Chg (Bh g g':Nat) (w w':World):Prop where
 os:w'.os=w.os
 tape:w'.tape=w.tape
 output:w'.output=w.output
 size:w.heap.size<=w'.heap.size
 block:∀ k,k<w.heap.size->k≠Bh->k≠g->w'.heap[k]? = w.heap[k]?
 loc:g'=g\/w.heap.size<=g'
theorem Chg.grown {g':Nat} (h:Chg Bh g g' w W) (k:W.grownBy W' (some g')):Chg Bh g g' w W':=
 ⟨k.os.trans h.os,k.tape.trans h.tape,k.output.trans h.output,Nat.le_trans h.size k.size,fun j hj hb hg=>by
  rw[k.block j (Nat.lt_of_lt_of_le hj h.size) (fun e=>by
   have e':=Option.some.inj e
   rcases h.loc with q | q
   ·exact hg (e'.trans q)
   ·omega)]
  exact h.block j hj hb hg,h.loc⟩
theorem Chg.below {b g':Nat} (h:Chg Bh g g' w W) (hB:b<=Bh) (hg:b<=g) (hs:b<=w.heap.size):Below b w W:=
 ⟨h.os,h.tape,h.output,h.size,fun k hk=>h.block k (by omega) (by omega) (by omega)⟩
theorem HS.head {g' c':Nat} {l':List Rg} {u:Value} {n':Nat} (bf:W.ownsRow base 107 2 (Sv g' n' c') n' (fr l')) (hn:l'.length=n') (x:Ce W Bh 0 u) (f:W.frozen? ⟨Bh,0,none⟩=false) (ne:g'≠Bh) (lo:base<=Bh) (lt:Bh<W.heap.size):HS base Bh g' c' l' (W.setCell ⟨Bh,0,none⟩ (Sv g' n' c')):=by
 subst hn;refine ⟨World.cell?_setCell_same _ _ _ x,by rw[World.frozen?_setCell];exact f,ownsRow_setCell_other bf (a:=⟨Bh,0,none⟩) (fun e=>ne (Option.some.inj e)) _,ne,lo,by simpa [World.setCell] using lt⟩
theorem Chg.head {g':Nat} (h:w.grownBy W (some g)) (loc:g'=g\/w.heap.size<=g') (u:Value):Chg Bh g g' w (W.setCell ⟨Bh,0,none⟩ u):=
 ⟨h.os,h.tape,h.output,Nat.le_trans h.size (by simp[World.setCell]),fun k hk hB hg=>(heap_setCell_other W ⟨Bh,0,none⟩ k u hB).trans (h.block k hk (fun e=>hg (Option.some.inj e))),loc⟩
end HP
namespace HP
variable {w W W' : World} {base Bh g c : Nat} {l : List Rg}
theorem HS.grown {B:Nat} (h:HS base Bh g c l W) (hg:W.grownBy W' (some B)) (h1:B≠Bh) (h2:B≠g):HS base Bh g c l W':=
 ⟨(World.cell?_of_block (a:=⟨Bh,0,none⟩) (hg.block Bh h.lt (fun e=>h1 (Option.some.inj e).symm))).trans h.cell,(World.frozen?_of_block (a:=⟨Bh,0,none⟩) (hg.block Bh h.lt (fun e=>h1 (Option.some.inj e).symm))).trans h.free,h.buf.kept hg (Or.inr (fun e=>h2 (Option.some.inj e).symm)),h.ne,h.lo,Nat.lt_of_lt_of_le h.lt hg.size⟩
end HP
namespace LF
open I2 (ints)
open J0 (IBuf Own)
variable {lo hi lo' hi' g : Nat} {w W W' w' : World}
def Wr (b m:Nat) (W:World):Prop:=∀ j,j<m->(∃ v,W.cell? ⟨b,j,none⟩=some v)/\W.frozen? ⟨b,j,none⟩=false
theorem wr_blk {vs:List Value} (h:K0.Blk g vs W):Wr g vs.length W:=fun j hj=>⟨⟨_,h.cell j hj⟩,h.free j hj⟩
theorem wr_set {b m:Nat} (h:Wr b m W) (p:Addr) (v:Value):Wr b m (W.setCell p v):=by
 intro j hj;obtain ⟨⟨u,hu⟩,hf⟩:=h j hj;refine ⟨?_,by rw[World.frozen?_setCell];exact hf⟩
 by_cases e:p=⟨b,j,none⟩
 ·subst e
  exact ⟨v,World.cell?_setCell_same _ _ _ hu⟩
 ·exact ⟨u,by rw[World.cell?_setCell_other _ _ _ _ e];exact hu⟩
theorem lt_of_cell {b j:Nat} {v:Value} (h:W.cell? ⟨b,j,none⟩=some v):b<W.heap.size:=by
 rcases Nat.lt_or_ge b W.heap.size with h1 | h1
 ·exact h1
 ·unfold World.cell? at h
  rw[Array.getElem?_eq_none h1] at h;simp at h
structure Btw (lo hi:Nat) (w w':World):Prop where
 os:w'.os=w.os
 tape:w'.tape=w.tape
 output:w'.output=w.output
 size:w.heap.size<=w'.heap.size
 block:∀ k,k<w.heap.size->k<lo\/hi<=k->w'.heap[k]? = w.heap[k]?
 wr:∀ b m,Wr b m w->Wr b m w'
theorem Btw.refl (lo hi:Nat) (w:World):Btw lo hi w w:=⟨rfl,rfl,rfl,Nat.le_refl _,fun _ _ _=>rfl,fun _ _ h=>h⟩
theorem Btw.trans (h:Btw lo hi w W) (k:Btw lo hi W W'):Btw lo hi w W':=
 ⟨k.os.trans h.os,k.tape.trans h.tape,k.output.trans h.output,Nat.le_trans h.size k.size,fun i hi hx=>(k.block i (Nat.lt_of_lt_of_le hi h.size) hx).trans (h.block i hi hx),fun b m hw=>k.wr b m (h.wr b m hw)⟩
theorem Btw.mono (h:Btw lo hi w W) (h1:lo'<=lo) (h2:hi<=hi'):Btw lo' hi' w W:=
 ⟨h.os,h.tape,h.output,h.size,fun k hk hx=>h.block k hk (by omega),h.wr⟩
theorem wr_below {b m:Nat} (h:Wr b m w) (hb:Bq w W):Wr b m W:=by
 intro j hj;obtain ⟨⟨v,hv⟩,hf⟩:=h j hj;have hlt:=lt_of_cell hv;exact ⟨⟨v,(hb.cell (p:=⟨b,j,none⟩) hlt).trans hv⟩,(hb.frozen (p:=⟨b,j,none⟩) hlt).trans hf⟩
theorem Btw.ofBelow (h:Bq w W):Btw lo hi w W:=⟨h.os,h.tape,h.output,h.size,fun k hk _=>h.block k hk,fun _ _ hw=>wr_below hw h⟩
theorem Btw.then (h:Btw lo hi w W) (hb:Bq W W'):Btw lo hi w W':=h.trans (Btw.ofBelow hb)
theorem Btw.set (h:Btw lo hi w W) {p:Addr} (h1:lo<=p.block) (h2:p.block<hi) (v:Value):Btw lo hi w (W.setCell p v):=
 h.trans ⟨rfl,rfl,rfl,by simp[World.setCell],fun k hk hx=>Below.heap_setCell _ _ _ _ (by omega),fun b m hw=>wr_set hw p v⟩
theorem Btw.below {b:Nat} (h:Btw lo hi w W) (hb:b<=lo) (hs:b<=w.heap.size):Below b w W:=⟨h.os,h.tape,h.output,h.size,fun k hk=>h.block k (by omega) (by omega)⟩
theorem blk_btw {B:Nat} {vs:List Value} (h:K0.Blk B vs w) (hb:Btw lo hi w W) (hx:B<lo\/hi<=B):K0.Blk B vs W:=by
 have e:=hb.block B h.lt hx;refine ⟨fun j hj=>?_,fun j hj=>?_,Nat.lt_of_lt_of_le h.lt hb.size⟩
 ·rw[World.cell?_of_block (a:=⟨B,j,none⟩) e]
  exact h.cell j hj
 ·rw[World.frozen?_of_block (a:=⟨B,j,none⟩) e]
  exact h.free j hj
def mfrom (k n:Nat):List Int:=(List.range n).map fun (j:Nat)=>((k+j:Nat):Int)
theorem mfrom_length (k n:Nat):(mfrom k n).length=n:=by simp[mfrom]
theorem mfrom_get (k n j:Nat) (h:j<n):(ints (mfrom k n))[j]'(by simp[mfrom];exact h)=Iv ((k+j:Nat):Int):=by simp[mfrom]
def part (k0:Nat) (vs:List Value) (k:Nat):List Value:=ints (mfrom k0 k)++vs.drop k
theorem part_zero (k0:Nat) (vs:List Value):part k0 vs 0=vs:=by simp[part,mfrom]
theorem part_all (k0:Nat) (vs:List Value):part k0 vs vs.length=ints (mfrom k0 vs.length):=by simp[part]
theorem part_length (k0:Nat) (vs:List Value) (k:Nat) (h:k<=vs.length):(part k0 vs k).length=vs.length:=by simp[part,mfrom];omega
theorem part_succ (k0:Nat) (vs:List Value) (k:Nat) (h:k<vs.length):(part k0 vs k).set k (Iv ((k0+k:Nat):Int))=part k0 vs (k+1):=by
 unfold part;have e:vs.drop k=vs[k] :: vs.drop (k+1):=List.drop_eq_getElem_cons h
 have hl:(ints (mfrom k0 k)).length=k:=by simp[mfrom]
 rw[e,List.set_append_right _ _ (by omega),hl,Nat.sub_self,List.set_cons_zero];simp[mfrom,List.range_succ]
theorem markBlk (g c:Nat) (vs:List Value) (k0:Nat) (w:World) (hn:vs.length<=1048576) (h0:k0<=1125899906842624) (hb:K0.Blk g vs w) :
  Calls prog 11 #[Sv g vs.length c,Iv (k0:Int)] w fun e w'=>e=.returned (Iv ((k0+vs.length:Nat):Int))/\K0.Blk g (ints (mfrom k0 vs.length)) w'/\Btw g (g+1) w w':=by
 go_enter func11,ntmps11;go_wp2
 go_loopw [1,5] (fun q i w'=>∃ k:Nat,k<=vs.length/\i=Iv k/\q=Iv ((k0+k:Nat):Int)/\K0.Blk g (part k0 vs k) w'/\Btw g (g+1) w w') (fun _ i _=>vs.length-(intOf i).toNat)
 case atStart=>exact ⟨0,Nat.zero_le _,rfl,rfl,by rw[part_zero];exact hb,Btw.refl _ _ _⟩
 case round=>
  obtain ⟨k,hk,rfl,rfl,hblk,hgr⟩:=hrel
  by_cases hlt:k<vs.length
  ·have e1:(0:Int)<=(k:Int):=by omega
   have e2:(k:Int)<(vs.length:Int):=by omega
   have x2:=hblk.cell k (by rw[part_length _ _ _ hk];exact hlt);have x3:=hblk.free k (by rw[part_length _ _ _ hk];exact hlt);obtain ⟨u,x4⟩:∃ u,Ce wr g k u:=⟨_,x2⟩
   have HB:Hid (K0.Blk g (part k0 vs (k+1)) (wr.setCell ⟨g,k,none⟩ (Iv ((k0+k:Nat):Int)))):=by rw[<- part_succ k0 vs k hlt];exact hblk.set k _
   clear x2 hblk hb;go_wp2
   go_roundw
   case rel=>exact ⟨k+1,by omega,by go_num,by go_num,HB.out,hgr.set (p:=⟨g,k,none⟩) (Nat.le_refl _) (Nat.lt_succ_self _) _⟩
   case measure=>simp[intOf];omega
  ·obtain rfl:k=vs.length:=by omega
   rw[part_all] at hblk;clear hb;go_wp2;go_ret;exact ⟨rfl,hblk,hgr⟩
theorem markWr (g c n:Nat) (k0:Nat) (w:World) (hn:n<=1048576) (h0:k0<=1125899906842624) (hb:Wr g n w) :
  Calls prog 11 #[Sv g n c,Iv (k0:Int)] w fun e w'=>e=.returned (Iv ((k0+n:Nat):Int))/\Btw g (g+1) w w':=by
 go_enter func11,ntmps11;go_wp2
 go_loopw [1,5] (fun q i w'=>∃ k:Nat,k<=n/\i=Iv k/\q=Iv ((k0+k:Nat):Int)/\Btw g (g+1) w w') (fun _ i _=>n-(intOf i).toNat)
 case atStart=>exact ⟨0,Nat.zero_le _,rfl,rfl,Btw.refl _ _ _⟩
 case round=>
  obtain ⟨k,hk,rfl,rfl,hgr⟩:=hrel
  by_cases hlt:k<n
  ·have e1:(0:Int)<=(k:Int):=by omega
   have e2:(k:Int)<(n:Int):=by omega
   obtain ⟨⟨u,x4⟩,x3⟩:=hgr.wr _ _ hb k hlt;clear hb;go_wp2
   go_roundw
   case rel=>exact ⟨k+1,by omega,by go_num,by go_num,hgr.set (p:=⟨g,k,none⟩) (Nat.le_refl _) (Nat.lt_succ_self _) _⟩
   case measure=>simp[intOf];omega
  ·obtain rfl:k=n:=by omega
   clear hb;go_wp2;go_ret;exact ⟨rfl,hgr⟩
theorem markNone (a:Option Addr) (c:Nat) (k0:Nat) (w:World) :
  Calls prog 11 #[.slice a 0 c,Iv (k0:Int)] w (Rw (Iv (k0:Int)) w):=by
 go_enter func11,ntmps11;go_wp2
 go_loop [1,5] (fun q i=>i=Iv 0/\q=Iv (k0:Int)) (fun _ _=>0)
 case atStart=>exact ⟨rfl,rfl⟩
 case round=>
  obtain ⟨rfl,rfl⟩:=hrel;go_wp2;go_ret;exact ⟨rfl,rfl⟩
theorem heldBlk (g c n k0:Nat) (w:World) (hn:n<=1048576) (h0:k0<=1125899906842624) (hb:K0.Blk g (ints (mfrom k0 n)) w) :
  Calls prog 13 #[Sv g n c,Iv (k0:Int)] w (Rw (Iv ((k0+n:Nat):Int)) w):=by
 go_enter func13,ntmps13;go_wp2
 go_loop [1,5] (fun q i=>∃ k:Nat,k<=n/\i=Iv k/\q=Iv ((k0+k:Nat):Int)) (fun _ i=>n-(intOf i).toNat)
 case atStart=>exact ⟨0,Nat.zero_le _,rfl,rfl⟩
 case round=>
  obtain ⟨k,hk,rfl,rfl⟩:=hrel
  by_cases hlt:k<n
  ·have e1:(0:Int)<=(k:Int):=by omega
   have e2:(k:Int)<(n:Int):=by omega
   have x1:=hb.cell k (by simp[mfrom];exact hlt);rw[mfrom_get k0 n k hlt] at x1;clear hb;go_wp2
   go_round
   case rel=>exact ⟨k+1,by omega,by go_num,by go_num⟩
   case measure=>simp[intOf];omega
  ·obtain rfl:k=n:=by omega
   clear hb;go_wp2;go_ret;exact ⟨rfl,rfl⟩
theorem heldNone (a:Option Addr) (c k0:Nat) (w:World) :
  Calls prog 13 #[.slice a 0 c,Iv (k0:Int)] w (Rw (Iv (k0:Int)) w):=by
 go_enter func13,ntmps13;go_wp2
 go_loop [1,5] (fun q i=>i=Iv 0/\q=Iv (k0:Int)) (fun _ _=>0)
 case atStart=>exact ⟨rfl,rfl⟩
 case round=>
  obtain ⟨rfl,rfl⟩:=hrel;go_wp2;go_ret;exact ⟨rfl,rfl⟩
def OwnIn (lo hi:Nat) (W:World) (a:Option Addr) (zs:List Int):Prop:=zs=[]\/∃ g,a=some ⟨g,0,none⟩/\lo<=g/\g<hi/\K0.Blk g (ints zs) W
variable {a : Option Addr} {zs : List Int}
theorem OwnIn.row (h:OwnIn lo hi W a zs):P0.Row W a zs:=by
 rcases h with h | ⟨g,rfl,_,_,hb⟩
 ·exact Or.inl h
 ·exact I2.row_of_blk hb
theorem OwnIn.below (h:OwnIn lo hi W a zs) (hb:Bq W W'):OwnIn lo hi W' a zs:=h.imp id fun ⟨g,e,h1,h2,hk⟩=>⟨g,e,h1,h2,hk.below hb⟩
theorem OwnIn.btw (h:OwnIn lo hi W a zs) (hb:Btw lo' hi' W W') (hx:hi<=lo'\/hi'<=lo):OwnIn lo hi W' a zs:=h.imp id fun ⟨g,e,h1,h2,hk⟩=>⟨g,e,h1,h2,blk_btw hk hb (by omega)⟩
theorem OwnIn.set (h:OwnIn lo hi W a zs) {B:Nat} (hB:B<lo) (j:Nat) (v:Value):OwnIn lo hi (W.setCell ⟨B,j,none⟩ v) a zs:=h.imp id fun ⟨g,e,h1,h2,hk⟩=>⟨g,e,h1,h2,hk.setOther (by omega) j v⟩
theorem own_in (h:J0.Own lo W a zs):OwnIn lo W.heap.size W a zs:=h.imp id fun ⟨g,e,h1,hk⟩=>⟨g,e,h1,hk.lt,hk⟩
theorem OwnIn.mono (h:OwnIn lo hi W a zs) (h1:lo'<=lo) (h2:hi<=hi'):OwnIn lo' hi' W a zs:=h.imp id fun ⟨g,e,l1,l2,hk⟩=>⟨g,e,by omega,by omega,hk⟩
theorem markIn {n c k0:Nat} (h:OwnIn lo hi W a zs) (hz:zs.length=n) (hn:n<=1048576) (h0:k0<=1125899906842624) :
  Calls prog 11 #[.slice a n c,Iv (k0:Int)] W fun e w'=>e=.returned (Iv ((k0+n:Nat):Int))/\OwnIn lo hi w' a (mfrom k0 n)/\Btw lo hi W w':=by
 subst hz
 rcases h with h | ⟨g,rfl,h1,h2,hk⟩
 ·subst h
  exact (markNone a c k0 W).mono fun _ _ ⟨he,hw⟩=>⟨he,Or.inl rfl,by rw[hw];exact Btw.refl _ _ _⟩
 ·have hm:=markBlk g c (ints zs) k0 W (by simpa using hn) h0 hk
  rw[show (ints zs).length=zs.length by simp] at hm
  exact hm.mono fun _ _ ⟨he,hk',hb⟩=>⟨he,Or.inr ⟨g,rfl,h1,h2,hk'⟩,hb.mono h1 (by omega)⟩
theorem heldIn {n c k0:Nat} (h:OwnIn lo hi W a (mfrom k0 n)) (hn:n<=1048576) (h0:k0<=1125899906842624) :
  Calls prog 13 #[.slice a n c,Iv (k0:Int)] W (Rw (Iv ((k0+n:Nat):Int)) W):=by
 rcases h with h | ⟨g,rfl,h1,h2,hk⟩
 ·have h2:=congrArg List.length h
  rw[mfrom_length] at h2;obtain rfl:n=0:=h2;exact heldNone a c k0 W
 ·exact heldBlk g c n k0 W hn h0 hk
theorem clone (a:Option Addr) (c:Nat) (zs:List Int) (w:World) (hn:zs.length<=1048576) (hR:P0.Row w a zs) :
  Calls prog 111 #[.slice a zs.length c] w fun e w'=>∃ a' c',e=.returned (.slice a' zs.length c')/\J0.Own w.heap.size w' a' zs/\Bq w w':=by
 have qn:∀ (w:World) (a:Option Addr) (n c n' c':Nat),(binOp .eql 32 (.slice a n c) (.slice none n' c')).run prog w=.ok (.bool a.isNone) w:=fun w a n c n' c'=>Lib.run_eql_slice_nil w _ _ a n c n' c' underlying32
 cases a with
 | none=>
  have h0:zs=[]:=by
   rcases hR with h | ⟨b,off,h,_⟩
   ·exact h
   ·cases h
  subst h0;go_enter func111,ntmps111;go_wp2;go_ret;exact ⟨none,0,rfl,Or.inl rfl,Below.refl _ _⟩
 | some p=>
  have b0:=J0.ibuf_made w (Nat.le_refl _);have l0:=K0.below_new w (.cells #[] 3);have r0:=hR.below l0;clear hR;go_enter func111,ntmps111
  go_wp2_with (at_builtin;refine Q1.append_rows rfl (.tmp 5) (.tmp 6) rfl b0 _ _ zs (by rfl) (by rfl) r0 (by omega) l0.size ?_;intro a1 c1 w1 b1 l1)
  go_ret;exact ⟨a1,c1,by simp,by simpa using b1.own,l0.trans l1⟩
end LF
namespace LG
open N0 (Ln)
open N1 (Sl val vals Lists LB lb_new)
open N4 (at3 Cp)
open Z0 (dat Kp kval kvals)
open Z1 (tot tot_one)
open Z2 (Pl pls Cps Mk)
open LF (Wr Btw OwnIn mfrom)
variable {g hi : Nat} {ds : List Ln} {P : Nat → Pl} {L : List Value} {w W W' : World}
structure Sh (g hi:Nat) (ds:List Ln) (P:Nat->Pl) (L:List Value) (W:World):Prop where
 len:L.length=ds.length*8
 blk:K0.Blk g L W
 lt:g<hi
 s4:∀ j,j<ds.length->L[j*8+4]? = some (.slice (some ⟨(P j).g1,0,none⟩) (dat ds j).pg.length (dat ds j).pg.length)
 s6:∀ j,j<ds.length->L[j*8+6]? = some (.slice (some ⟨(P j).g2,0,none⟩) (dat ds j).po.length (dat ds j).po.length)
 s7:∀ j,j<ds.length->L[j*8+7]? = some (.slice (some ⟨(P j).g3,0,none⟩) (dat ds j).fr.length (dat ds j).fr.length)
 w1:∀ j,j<ds.length->g<(P j).g1/\(P j).g1<hi/\Wr (P j).g1 (dat ds j).pg.length W
 w2:∀ j,j<ds.length->g<(P j).g2/\(P j).g2<hi/\Wr (P j).g2 (dat ds j).po.length W
 w3:∀ j,j<ds.length->g<(P j).g3/\(P j).g3<hi/\Wr (P j).g3 (dat ds j).fr.length W
theorem sh_of (h:Cps g (g+1) ds P W):∃ L,Sh g W.heap.size ds P L W:=by
 obtain ⟨⟨L,hL⟩,_⟩:=h;refine ⟨L,hL.len,hL.blk,hL.blk.lt,fun j hj=>(hL.done j hj).2.2.2.2.1,fun j hj=>(hL.done j hj).2.2.2.2.2.2.1,fun j hj=>(hL.done j hj).2.2.2.2.2.2.2,fun j hj=>?_,fun j hj=>?_,fun j hj=>?_⟩
 ·have hc:=hL.sub j hj
  have:=LF.wr_blk hc.k1;exact ⟨hc.h1,hc.k1.lt,by simpa using this⟩
 ·have hc:=hL.sub j hj
  have:=LF.wr_blk hc.k2;exact ⟨hc.h2,hc.k2.lt,by simpa using this⟩
 ·have hc:=hL.sub j hj
  have:=LF.wr_blk hc.k3;exact ⟨hc.h3,hc.k3.lt,by simpa using this⟩
theorem Sh.btw {lo hi':Nat} (h:Sh g hi ds P L W) (hb:Btw lo hi' W W') (hx:g<lo):Sh g hi ds P L W':=
 ⟨h.len,LF.blk_btw h.blk hb (Or.inl hx),h.lt,h.s4,h.s6,h.s7,fun j hj=>⟨(h.w1 j hj).1,(h.w1 j hj).2.1,hb.wr _ _ (h.w1 j hj).2.2⟩,fun j hj=>⟨(h.w2 j hj).1,(h.w2 j hj).2.1,hb.wr _ _ (h.w2 j hj).2.2⟩,fun j hj=>⟨(h.w3 j hj).1,(h.w3 j hj).2.1,hb.wr _ _ (h.w3 j hj).2.2⟩⟩
theorem Sh.below (h:Sh g hi ds P L W) (hb:Bq W W'):Sh g hi ds P L W':=h.btw (lo:=g+1) (hi':=hi) (Btw.ofBelow hb) (Nat.lt_succ_self _)
theorem Sh.set (h:Sh g hi ds P L W) {o k r:Nat} (ho:o=k*8+r) (hr:r<4\/r=5) (v:Value):Sh g hi ds P (L.set o v) (W.setCell ⟨g,o,none⟩ v):=by
 subst ho;refine ⟨by rw[List.length_set];exact h.len,h.blk.set _ v,h.lt,fun j hj=>?_,fun j hj=>?_,fun j hj=>?_,fun j hj=>⟨(h.w1 j hj).1,(h.w1 j hj).2.1,LF.wr_set (h.w1 j hj).2.2 _ _⟩,fun j hj=>⟨(h.w2 j hj).1,(h.w2 j hj).2.1,LF.wr_set (h.w2 j hj).2.2 _ _⟩,fun j hj=>⟨(h.w3 j hj).1,(h.w3 j hj).2.1,LF.wr_set (h.w3 j hj).2.2 _ _⟩⟩
 ·rw[List.getElem?_set_ne (by omega)]
  exact h.s4 j hj
 ·rw[List.getElem?_set_ne (by omega)]
  exact h.s6 j hj
 ·rw[List.getElem?_set_ne (by omega)]
  exact h.s7 j hj
theorem Sh.old (h:Sh g hi ds P L W) {o:Nat} (ho:o<ds.length*8):(∃ v,Ce W g o v)/\W.frozen? ⟨g,o,none⟩=false:=
 ⟨⟨_,h.blk.cell o (by rw[h.len];exact ho)⟩,h.blk.free o (by rw[h.len];exact ho)⟩
theorem Sh.c4 (h:Sh g hi ds P L W) {j:Nat} (hj:j<ds.length):Ce W g (j*8+4) (Sv (P j).g1 (dat ds j).pg.length (dat ds j).pg.length):=Z2.blk_get h.blk (h.s4 j hj)
theorem Sh.c6 (h:Sh g hi ds P L W) {j:Nat} (hj:j<ds.length):Ce W g (j*8+6) (Sv (P j).g2 (dat ds j).po.length (dat ds j).po.length):=Z2.blk_get h.blk (h.s6 j hj)
theorem Sh.c7 (h:Sh g hi ds P L W) {j:Nat} (hj:j<ds.length):Ce W g (j*8+7) (Sv (P j).g3 (dat ds j).fr.length (dat ds j).fr.length):=Z2.blk_get h.blk (h.s7 j hj)
theorem mark_one {b n c:Nat} {k:Nat} {x:Int} (hx:x=(k:Int)) (hlt:g<b) (hb:b<hi) (hw:Wr b n W) (hn:n<=1048576) (h0:k<=1125899906842624) :
  Calls prog 11 #[Sv b n c,Iv x] W fun e w'=>e=.returned (Iv ((k+n:Nat):Int))/\Btw (g+1) hi W w':=by
 subst hx
 exact (LF.markWr b c n k W hn h0 hw).mono fun _ _ ⟨he,hg⟩=>⟨he,hg.mono hlt hb⟩
theorem mark_text {x:Int} {v:Nat} (hx:x=(v:Int)) (hv:v≠0) (hm:v<=9223372036854775807) (w:World) :
  Calls prog 56 #[Iv x] w (Rb (.string (M1.mt v)) w):=by
 subst hx;exact M1.markText_any v hv hm w
end LG
namespace LH
open N0 (Ln)
open N1 (Sl val vals Lists LB lb_new)
open N4 (at3 Cp)
open Z0 (dat Kp kval kvals)
open Z2 (Pl pls Cps Mk)
open LF (Wr Btw OwnIn mfrom)
open LG (Sh)
open J0 (IBuf Own)
variable {g hi : Nat} {ds : List Ln} {P : Nat → Pl} {L : List Value} {w W W' : World} {d : Ln} {s : Sl}
structure HL (lo m1 m2 hi:Nat) (s:Sl) (z1 z2 z3:List Int) (W:World):Prop where
 p1:OwnIn lo m1 W s.a1 z1
 p2:OwnIn m1 m2 W s.a2 z2
 p3:OwnIn m2 hi W s.a3 z3
 le:lo<=m1/\m1<=m2/\m2<=hi
variable {lo m1 m2 lo' hi' : Nat} {z1 z2 z3 : List Int}
theorem HL.below (h:HL lo m1 m2 hi s z1 z2 z3 W) (hb:Bq W W'):HL lo m1 m2 hi s z1 z2 z3 W':=⟨h.p1.below hb,h.p2.below hb,h.p3.below hb,h.le⟩
theorem HL.btw (h:HL lo m1 m2 hi s z1 z2 z3 W) (hb:Btw lo' hi' W W') (hx:hi<=lo'\/hi'<=lo):HL lo m1 m2 hi s z1 z2 z3 W':=
 ⟨h.p1.btw hb (by have:=h.le;omega),h.p2.btw hb (by have:=h.le;omega),h.p3.btw hb (by have:=h.le;omega),h.le⟩
theorem HL.lists (h:HL lo m1 m2 hi s d.pg d.po d.fr W):Lists W d s:=⟨h.p1.row,h.p2.row,h.p3.row⟩
abbrev lob (d:Ln) (s:Sl):Obj:=.cells #[.int .i64 d.ino,.int .i64 d.cl,.int .i64 d.un,.string d.rc,.slice s.a1 d.pg.length s.c1,.string d.sav,.slice s.a2 d.po.length s.c2,.slice s.a3 d.fr.length s.c3] 46
end LH
end Go.Proofs.YtlejhfnjmkdobaaGreatDoor
