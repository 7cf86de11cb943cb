/- Joined texts. -/
import Derived.Test.YtlejhfnjmkdobaaGreatDoorJtZI
set_option linter.unusedVariables false
set_option linter.unusedSimpArgs false
set_option maxRecDepth 10000
set_option maxHeartbeats 16000000
namespace Go.Proofs.YtlejhfnjmkdobaaGreatDoor
open ChangeShapes WideShapes ChangeAt RowKit
open Go.Proofs.Tryz
namespace Y7
open Go.Sort (Holds putRow grow)
open I2 (ints)
theorem holds_of {W:World} {g:Nat} {zs:List Int} (h:K0.Blk g (ints zs) W):Holds (Value.int .i64) W g 0 zs.toArray:=by
 intro j hj
 have hj':j<zs.length:=by simpa using hj
 have h1:=h.cell j (by simpa using hj');have h2:=h.free j (by simpa using hj');refine ⟨?_,by simpa using h2⟩;rw[Nat.zero_add,h1];simp[hj']
theorem blk_of {W:World} {g:Nat} {zs:List Int} (hg:g<W.heap.size) (h:Holds (Value.int .i64) W g 0 zs.toArray):K0.Blk g (ints zs) W:=by
 refine ⟨fun j hj=>?_,fun j hj=>?_,hg⟩
 ·have hj':j<zs.length:=by simpa using hj
  have:=(h j (by simpa using hj')).1;rw[Nat.zero_add] at this;rw[this];simp[hj']
 ·have hj':j<zs.length:=by simpa using hj
  have:=(h j (by simpa using hj')).2
  rwa [Nat.zero_add] at this
theorem sorted_blk {W:World} {g n:Nat} {zs ys:List Int} {os:Array Obj} (h:K0.Blk g (ints zs) W) (hl:ys.length=zs.length):K0.Blk g (ints ys) (grow (putRow (Value.int .i64) (Sort.ahead W n) g 0 ys.toArray) os):=by
 have h0:Holds (Value.int .i64) (Sort.ahead W n) g 0 zs.toArray:=Go.Sort.holds_ahead _ _ _ _ _ _ (holds_of h)
 have hlt:g<(putRow (Value.int .i64) (Sort.ahead W n) g 0 ys.toArray).heap.size:=by rw[Go.Sort.size_putRow];exact h.lt
 refine blk_of (by rw[Go.Sort.size_grow];omega) (Go.Sort.holds_grow _ _ _ _ _ _ hlt (Go.Sort.holds_putRow _ _ _ _ _ _ h0 (by simpa using hl)))
theorem sorted_below {W:World} {g n base:Nat} {ys:List Int} {os:Array Obj} (hb:base<=g) (hg:base<=W.heap.size):Below base W (grow (putRow (Value.int .i64) (Sort.ahead W n) g 0 ys.toArray) os):=by
 refine ⟨rfl,rfl,rfl,?_,fun k hk=>?_⟩
 ·rw[Go.Sort.size_grow,Go.Sort.size_putRow]
  exact Nat.le_add_right _ _
 ·rw[Go.Sort.heap_grow_old _ _ (by rw[Go.Sort.size_putRow];exact Nat.lt_of_lt_of_le hk hg)]
  show (W.heap.modify g _)[k]? = W.heap[k]?
  rw[Array.getElem?_modify];rw[if_neg (by omega)]
end Y7
namespace Y8
open N0 (Ln)
open N1 (Sl Lists Fit)
open N5 (oldE)
open N7 (tv tvs tObj)
open D1 (nodeE)
open J0 (IBuf Own)
open I2 (ints)
open Y1 (Apart apart_new row_one)
open Y6 (srt kept)
def gone (mem:ByteArray) (d:Ln):List Int:=if D6.verdict mem d=true then srt (kept false (D0.inos (oldE d)) (D0.inos (nodeE mem d.ino))) else []
theorem kept_yes {b:Bool} {zs al:List Int} {k:Nat} (hk:k<zs.length) (h:P0.has al (zs.getD k 0)=b):kept b (zs.take (k+1)) al=kept b (zs.take k) al ++ [zs.getD k 0]:=by
 unfold kept;rw[List.take_succ_eq_append_getElem hk,List.filter_append,P0.getD_get _ _ hk];rw[P0.getD_get _ _ hk] at h;simp[h]
theorem kept_no {b:Bool} {zs al:List Int} {k:Nat} (hk:k<zs.length) (h:P0.has al (zs.getD k 0)=!b):kept b (zs.take (k+1)) al=kept b (zs.take k) al:=by
 unfold kept;rw[List.take_succ_eq_append_getElem hk,List.filter_append];rw[P0.getD_get _ _ hk] at h
 cases b <;> simp[h]
theorem kept_len (b:Bool) (zs al:List Int) (k:Nat):(kept b (zs.take k) al).length<=zs.length:=Nat.le_trans (List.length_filter_le _ _) (by rw[List.length_take];omega)
theorem sort_own {w:World} {g n c base:Nat} {zs:List Int} (hn:zs.length<=1048576) (hbuf:IBuf base w (some ⟨g,0,none⟩) n c zs) (hb:base<=w.heap.size) :
  Calls prog 142 #[Sv g n c] w fun e w'=>e=.returned (.tuple #[])/\J0.Own base w' (some ⟨g,0,none⟩) (srt zs)/\Below base w w':=by
 have hlt:=hbuf.2.lt g rfl;obtain rfl:n=zs.length:=hbuf.1
 have hH:Go.Sort.Holds (Value.int .i64) w g 0 zs.toArray:=by
  rcases hbuf.own with h0 | ⟨g',e,_,hk⟩
  ·subst h0
   intro j hj;exact absurd hj (by simp)
  ·cases e
   exact Y7.holds_of hk
 refine (Tryz.slices_Sort_int g 0 c zs w hH hlt.2 (by omega)).mono fun e w' ⟨he,m,os,hw⟩=>⟨he,?_,?_⟩
 ·rw[hw,Y6.merge_srt]
  rcases hbuf.own with h0 | ⟨g',e,hg,hk⟩
  ·subst h0
   exact Or.inl rfl
  ·cases e
   exact Or.inr ⟨g,rfl,hg,Y7.sorted_blk hk (Y6.srt_length zs)⟩
 ·rw[hw]
  exact Y7.sorted_below hlt.1 hb
theorem impl_Gone (mem:ByteArray) (d:Ln) (s:Sl) (w:World) (hms:mem.size<=281474976710656) (hF:Fit d s) (hpo:d.po.length<=1048576) (hfr:d.fr.length<=1048576) (hR:Lists w d s) :
  Calls prog 118 #[.string mem,N1.val d s] w fun e w'=>∃ a c,e=.returned (.slice a (gone mem d).length c)/\(gone mem d).length<=c/\J0.Own w.heap.size w' a (gone mem d)/\Bq w w':=by
 have l0:=K0.below_new w (.cells (N1.Lc d s) 46);have l1:=l0.alloc l0.size (.cells #[] 3);have b0:=J0.ibuf_made (base:=w.heap.size) (w.alloc (.cells (N1.Lc d s) 46)) l0.size;have k0:=heap_alloc_new (w.alloc (.cells (N1.Lc d s) 46)) (.cells #[] 3)
 have HK:Hid (∀ W,Bq w W->Calls prog 153 #[.string mem,N1.val d s] W fun e w'=>∃ (k o t:Int) (a:Option Addr) (n c:Nat) (ae:Option Addr) (ne ce:Nat) (d':Ln) (s':Sl) (be:Option Addr) (n2 c2:Nat),e=.returned (.tuple #[tv k o t a n c ae ne ce d' s',.slice be n2 c2,.bool (D6.verdict mem d)])/\Bq W w'/\(D6.verdict mem d=true->ne=(oldE d).length/\T0.Row w' ae (oldE d)/\n2=(nodeE mem d.ino).length/\T0.Row w' be (nodeE mem d.ino))):=fun W hb=>(D6.lookBack mem d s W hms hF hpo hfr (hR.below hb)).mono fun e w' ⟨k,o,t,a,n,c,ae,ne,ce,d',s',be,n2,c2,he,hb,hy⟩=>⟨k,o,t,a,n,c,ae,ne,ce,d',s',be,n2,c2,he,hb,fun h=>(hy h).2.2⟩
 clear hF hR;have hel:=D6.nodeE_len mem d.ino;have hol:=D6.oldE_len d
 cases hv:D6.verdict mem d with
 | false=>
  have hco:gone mem d=[]:=by rw[gone,hv];rfl
  rw[hco];rw[hv] at HK;clear hv hco hel hol;go_enter func118,ntmps118
  go_wp2_with (go_at_call 153;refine (HK.out _ l1).mono ?_;rintro e w1 ⟨k,o,t,a,n,c,ae,ne,ce,d',s',be,n2,c2,rfl,b1,-⟩)
  go_ret;exact ⟨_,_,rfl,Nat.le_refl _,Or.inl rfl,(l1.trans (b1.mono l1.size)).alloc (Nat.le_trans l1.size b1.size) _⟩
 | true=>
  have hco:gone mem d=srt (kept false (D0.inos (oldE d)) (D0.inos (nodeE mem d.ino))):=by rw[gone,if_pos hv]
  rw[hco];rw[hv] at HK;obtain ⟨es,hes⟩:∃ es,nodeE mem d.ino=es:=⟨_,rfl⟩;obtain ⟨us,hus⟩:∃ us,oldE d=us:=⟨_,rfl⟩;rw[hes,hus] at HK;rw[hes] at hel;rw[hus] at hol;rw[hes,hus];clear hv hco hes hus;go_enter func118,ntmps118
  go_wp2_with (go_at_call 153;refine (HK.out _ l1).mono ?_;rintro e w1 ⟨k,o,t,a,n,c,ae,ne,ce,d',s',be,n2,c2,rfl,b1,hy⟩;obtain ⟨rfl,rU,rfl,rE⟩:=hy rfl;clear hy;have n2':=K0.below_new w1 (tObj k o t a n c ae us.length ce d' s'))
  have hB1:w1.heap[w.heap.size+1]? = some (.cells #[] 3):=(b1.block _ (by simp)).trans (by simpa using k0);have ap:Apart (w1.alloc (tObj k o t a n c ae us.length ce d' s')) be es (some ⟨w.heap.size+1,0,none⟩):=Apart.below (apart_new (B:=w.heap.size+1) rE hB1) n2';have aq:Apart (w1.alloc (tObj k o t a n c ae us.length ce d' s')) ae us (some ⟨w.heap.size+1,0,none⟩):=Apart.below (apart_new (B:=w.heap.size+1) rU hB1) n2'
  have bf:IBuf w.heap.size (w1.alloc (tObj k o t a n c ae us.length ce d' s')) (some ⟨w.heap.size+1,0,none⟩) 0 0 []:=by
   have:=(b0.below b1).below n2'
   simpa using this
  have l2:=(l1.trans (b1.mono l1.size)).alloc (Nat.le_trans l1.size b1.size) (tObj k o t a n c ae us.length ce d' s');clear b0 k0 l0 l1 HK hB1
  go_loopw [5,26] (fun v i w'=>∃ (k n c g:Nat),k<=us.length/\i=Iv k/\v=Sv g n c/\IBuf w.heap.size w' (some ⟨g,0,none⟩) n c (kept false ((D0.inos us).take k) (D0.inos es))/\Apart w' be es (some ⟨g,0,none⟩)/\Apart w' ae us (some ⟨g,0,none⟩)/\Bq w w') (fun _ i _=>us.length-(intOf i).toNat)
  case atStart=>exact ⟨0,0,0,_,Nat.zero_le _,rfl,rfl,bf,ap,aq,l2⟩
  case round=>
   obtain ⟨k5,n5,c5,g5,hk,rfl,rfl,hbuf,hap,haq,hbel⟩:=hrel;clear bf ap aq l2 rE rU
   by_cases hlt:k5<us.length
   ·obtain ⟨b,off,hab,_,hc⟩:=haq.1.get hlt
    have x1:=(hc k5 hlt).1;have x2:=(hc k5 hlt).2
    have hli:k5<(D0.inos us).length:=by rw[D0.inos_length];exact hlt
    have hyes:=fun h=>kept_yes (b:=false) (zs:=D0.inos us) (al:=D0.inos es) hli h
    have hno:=fun h=>kept_no (b:=false) (zs:=D0.inos us) (al:=D0.inos es) hli h
    have hnl:n5<=us.length:=by rw[hbuf.1,<- D0.inos_length us];exact kept_len _ _ _ _
    rw[D0.inos_get us k5 hlt] at hyes hno;obtain ⟨z,ez⟩:∃ z,T0.ent us k5=z:=⟨_,rfl⟩;rw[ez] at x1 x2 hyes hno;obtain ⟨u,v⟩:=z;simp only at x1 x2 hyes hno
    have e1:(0:Int)<=(k5:Int):=by omega
    have e2:(k5:Int)<(us.length:Int):=by omega
    have hI:Hid (∀ W,T0.Row W be es->_):=fun W h=>D0.hasIno be c2 es u W (by omega) h
    have n6:=K0.below_new wr (.cells #[Iv u,.string v] 133);have q6:=K0.blk_new [Iv u,.string v] wr 133;have p6:=hap.below n6;have r6:=haq.below n6;have f6:=hbuf.below n6;have l6:=hbel.trans (n6.mono hbel.size)
    cases h:P0.has (D0.inos es) u with
    | false=>
     have HS:Hid (kept false ((D0.inos us).take k5) (D0.inos es) ++ [u]=kept false ((D0.inos us).take (k5+1)) (D0.inos es)):=(hyes h).symm;rw[h] at hI;clear ez hc hyes hno h haq;rw[hab] at r6 ⊢
     go_wp2_with (first
      | (go_at_call 154;refine (hI.out _ p6.1).mono ?_;rintro e w7 ⟨rfl,b7⟩;have y0:Ce w7 wr.heap.size 0 (Iv u):=(q6.below b7).cell 0 (by simp);have n7:=K0.below_new w7 (.cells #[Iv u] 3);have p7:=(p6.below b7).below n7;have r7:=(r6.below b7).below n7;have f7:=(f6.below b7).below n7;have l7:=(l6.trans (b7.mono l6.size)).trans (n7.mono (Nat.le_trans l6.size b7.size)))
      | (at_builtin;refine D7.append_rows2 rfl (.tmp 35) (.tmp 38) rfl f7 _ _ [u] (by rfl) (by rfl) (row_one w7 u) (by simp only[List.length_cons,List.length_nil];omega) l7.size ?_;intro a8 c8 w8 f8 g8 o8))
     have p8:=p7.grown g8 o8;have r8:=r7.grown g8 o8;have l8:=l7.trans (D7.run_below f7 l7.size g8)
     obtain ⟨g9,rfl⟩:∃ g9,a8=some ⟨g9,0,none⟩:=by
      rcases f8.own with h0 | ⟨g9,e9,_⟩
      ·exact absurd (congrArg List.length h0) (by simp)
      ·exact ⟨g9,e9⟩
     go_roundw
     case rel=>exact ⟨k5+1,n5+1,c8,g9,by omega,by go_num,rfl,by rw[<- HS.out];exact f8,p8,r8,l8⟩
     case measure=>simp[intOf];omega
    | true=>
     have HS:Hid (kept false ((D0.inos us).take (k5+1)) (D0.inos es)=kept false ((D0.inos us).take k5) (D0.inos es)):=hno h;rw[h] at hI;clear ez hc hyes hno h haq;rw[hab] at r6 ⊢
     go_wp2_with (go_at_call 154;refine (hI.out _ p6.1).mono ?_;rintro e w7 ⟨rfl,b7⟩)
     go_roundw
     case rel=>exact ⟨k5+1,n5,c5,g5,by omega,by go_num,rfl,by rw[HS.out];exact f6.below b7,p6.below b7,r6.below b7,l6.trans (b7.mono l6.size)⟩
     case measure=>simp[intOf];omega
   ·obtain rfl:k5=us.length:=by omega
    have HF:Hid (IBuf w.heap.size wr (some ⟨g5,0,none⟩) n5 c5 (kept false (D0.inos us) (D0.inos es))):=by
     show IBuf _ _ _ _ _ _
     rw[<- D0.inos_length us,List.take_length] at hbuf;exact hbuf
    have hkl:(kept false (D0.inos us) (D0.inos es)).length<=1048576:=Nat.le_trans (List.length_filter_le _ _) (by rw[D0.inos_length];omega)
    have e9:decide ((us.length:Int)<(us.length:Int))=false:=by simp
    clear hbuf hap haq
    go_wp2_with (go_at_call 142;refine (sort_own hkl HF.out hbel.size).mono ?_;rintro e w7 ⟨rfl,o7,b7⟩)
    go_ret;exact ⟨_,c5,by rw[Y6.srt_length,<- HF.out.1];rfl,by rw[Y6.srt_length,<- HF.out.1];exact HF.out.fits,o7,hbel.trans b7⟩
end Y8
end Go.Proofs.YtlejhfnjmkdobaaGreatDoor
