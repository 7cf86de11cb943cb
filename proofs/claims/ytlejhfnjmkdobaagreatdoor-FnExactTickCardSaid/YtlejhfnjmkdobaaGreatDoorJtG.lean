/- Joined texts. -/
import Derived.Test.YtlejhfnjmkdobaaGreatDoorJtC
import Derived.Test.YtlejhfnjmkdobaaGreatDoorJtD
import Derived.Test.YtlejhfnjmkdobaaGreatDoorJtB
import Derived.Deep.SlicePairs
set_option linter.unusedVariables false
set_option linter.unusedSimpArgs false
set_option maxRecDepth 10000
set_option maxHeartbeats 16000000
namespace Go.Proofs.YtlejhfnjmkdobaaGreatDoor
open ChangeShapes WideShapes ChangeAt RowKit
open Go.Proofs.Tryz
namespace T1
theorem ret_bool {a b:Bool} (h:a=b):Ending.returned (.bool a)=.returned (.bool b):=by rw[h]
theorem isTaken (b off n c:Nat) (es:List T0.Ent) (x:Int) (s:ByteArray) (w:World) (hn:n<=es.length) (hbig:n<=1048576) (hlt0:b<w.heap.size)
  (hc:∀ j,j<es.length->Ce w b (off+j*2) (Iv (T0.ent es j).1)/\Ce w b (off+j*2+1) (.string (T0.ent es j).2)) :
  Calls prog 229 #[.slice (some ⟨b,off,none⟩) n c,.agg #[Iv x,.string s]] w (Rb (.bool (T0.taken (es.take n) (x,s))) w):=by
 have h0:=E2.bx_new x s w 133;go_enter func229,ntmps229;go_wp2
 go_loopw [9] (fun i w'=>∃ k:Nat,k<=n/\T0.taken (es.take k) (x,s)=false/\i=Iv k/\E2.Bx w.heap.size w x s w') (fun i _=>n-(intOf i).toNat)
 case atStart=>exact ⟨0,Nat.zero_le _,rfl,rfl,h0⟩
 case round=>
  obtain ⟨k,hk,hno,rfl,hbx⟩:=hrel;clear h0
  by_cases hlt:k<n
  ·have y1:=(hbx.bel.cell (p:=⟨b,off+k*2,none⟩) hlt0).trans (hc k (by omega)).1
   have y2:=(hbx.bel.cell (p:=⟨b,off+k*2+1,none⟩) hlt0).trans (hc k (by omega)).2;have hs:=T0.taken_succ es k (x,s) (by omega);have hin:=T0.taken_of (es:=es) (e:=(x,s)) hlt hn;obtain ⟨z,ez⟩:∃ z,T0.ent es k=z:=⟨_,rfl⟩;rw[ez] at y1 y2 hs hin;obtain ⟨u,v⟩:=z
   have e1:(0:Int)<=(k:Int):=by omega
   have e2:(k:Int)<(n:Int):=by omega
   have hb2:=hbx.alloc (.cells #[Iv u,.string v] 133);have d0:=hb2.c0;have d1:=hb2.c1;clear ez hc
   by_cases h1:(v.toList == s.toList)=true
   ·have HR:Hid (T0.taken (es.take n) (x,s)=true):=hin (by rw[T0.clash,h1];rfl)
    clear hin hs hno;go_wp2;go_ret;exact ⟨ret_bool HR.out.symm,hb2.bel⟩
   ·have h1':(v.toList == s.toList)=false:=by simpa using h1
    by_cases h2:(u == x)=true
    ·have HR:Hid (T0.taken (es.take n) (x,s)=true):=hin (by rw[T0.clash,h1',h2];rfl)
     clear hin hs hno h1;go_wp2;go_ret;exact ⟨ret_bool HR.out.symm,hb2.bel⟩
    ·have h2':(u == x)=false:=by simpa using h2
     have HN:Hid (T0.taken (es.take (k+1)) (x,s)=false):=by rw[hs,hno,T0.clash,h1',h2'];rfl
     clear hin hs hno h1 h2;go_wp2
     go_roundw
     case rel=>exact ⟨k+1,by omega,HN.out,by go_num,hb2⟩
     case measure=>simp[intOf];omega
  ·obtain rfl:k=n:=by omega
   have HN:Hid (T0.taken (es.take k) (x,s)=false):=hno;clear hno hc;go_wp2;go_ret;exact ⟨ret_bool HN.out.symm,hbx.bel⟩
theorem ok_lit {i:Int} {s:ByteArray} {B:Nat} {w W:World} {r:Bool} (hs:s.size<=281474976710656) (hr:E0.entryOk i s=r) (h:E2.Bx B w i s W) :
  Calls prog 228 #[.agg #[Iv i,.string s]] W fun e w'=>e=.returned (.bool r)/\E2.Bx B w i s w':=
 (E2.impl_EntryOk_bx hs h).mono fun _ _ ⟨he,hb⟩=>⟨by rw[he,hr],hb⟩
theorem row_at {w W:World} {b off:Nat} {es:List T0.Ent} (hlt:b<w.heap.size) (hb:Bq w W) (hc:∀ j,j<es.length->Ce w b (off+j*2) (Iv (T0.ent es j).1)/\Ce w b (off+j*2+1) (.string (T0.ent es j).2)) :
  ∀ j,j<es.length->Ce W b (off+j*2) (Iv (T0.ent es j).1)/\Ce W b (off+j*2+1) (.string (T0.ent es j).2):=fun j hj=>
 ⟨(hb.cell (p:=⟨b,off+j*2,none⟩) hlt).trans (hc j hj).1,(hb.cell (p:=⟨b,off+j*2+1,none⟩) hlt).trans (hc j hj).2⟩
theorem taken_lit (b off n c:Nat) (es:List T0.Ent) (x:Int) (s:ByteArray) (w W:World) (r:Bool) (hn:n<=es.length) (hbig:n<=1048576) (hlt0:b<w.heap.size) (hb:Bq w W) (hr:T0.taken (es.take n) (x,s)=r)
  (hc:∀ j,j<es.length->Ce w b (off+j*2) (Iv (T0.ent es j).1)/\Ce w b (off+j*2+1) (.string (T0.ent es j).2)) :
  Calls prog 229 #[.slice (some ⟨b,off,none⟩) n c,.agg #[Iv x,.string s]] W (Rb (.bool r) w):=
 (isTaken b off n c es x s W hn hbig (Nat.lt_of_lt_of_le hlt0 hb.size) (row_at hlt0 hb hc)).mono fun _ _ ⟨he,h2⟩=>⟨by rw[he,hr],hb.trans (h2.mono hb.size)⟩
theorem dirOk (a:Option Addr) (c:Nat) (es:List T0.Ent) (w:World) (hbig:es.length<=1048576) (hcap:es.length<=c) (hfit:T0.Fits es) (hR:T0.Row w a es) :
  Calls prog 220 #[.slice a es.length c] w fun e w'=>e=.returned (.bool (T0.dirOk es))/\Below w.heap.size w w':=by
 by_cases h12:12<(es.length:Int)
 ·have HR:Hid (T0.dirOk es=false):=by rw[T0.dirOk,decide_eq_false (by omega:¬ es.length<=12)];rfl
  go_enter func220,ntmps220;go_wp2;go_ret;exact ⟨ret_bool HR.out.symm,Below.refl _ _⟩
 ·have hD:T0.dirOk es=T0.okUpto es es.length:=by rw[T0.dirOk,decide_eq_true (by omega:es.length<=12),Bool.true_and]
  go_enter func220,ntmps220;go_wp2
  go_loopw [10] (fun i w'=>∃ k:Nat,k<=es.length/\T0.okUpto es k=true/\i=.int .i64 k/\Below w.heap.size w w') (fun i _=>es.length-(intOf i).toNat)
  case atStart=>exact ⟨0,Nat.zero_le _,rfl,rfl,Below.refl _ _⟩
  case round=>
   obtain ⟨k,hk,hok,rfl,hbel⟩:=hrel
   by_cases hlt:k<es.length
   ·obtain ⟨b,off,rfl,hlt0,hc⟩:=hR.get hlt
    have y1:=(hbel.cell (p:=⟨b,off+k*2,none⟩) hlt0).trans (hc k hlt).1;have y2:=(hbel.cell (p:=⟨b,off+k*2+1,none⟩) hlt0).trans (hc k hlt).2;have hs:=T0.okUpto_succ es k;have hat:T0.okAt es k=(E0.entryOk (T0.ent es k).1 (T0.ent es k).2 && !(T0.taken (es.take k) (T0.ent es k))):=rfl;have hf:=hfit k hlt;obtain ⟨z,ez⟩:∃ z,T0.ent es k=z:=⟨_,rfl⟩;rw[ez] at y1 y2 hat hf;obtain ⟨u,v⟩:=z;simp only at y1 y2 hat hf
    have e1:(0:Int)<=(k:Int):=by omega
    have e2:(k:Int)<(es.length:Int):=by omega
    have e3:(k:Int)<=(c:Int):=by omega
    have hb1:=E2.bx_new u v wr 133;have hbd:=hb1.drew;have hB:=hbel.size;clear ez hR hfit
    by_cases hE:E0.entryOk u v=true
    ·have hiT:Hid (∀ r W,T0.taken (es.take k) (u,v)=r->Below wr.heap.size wr W->_):=fun r W hr hb=>taken_lit b off k c es u v w W r (by omega) (by omega) hlt0 (hbel.trans (hb.mono hB)) hr hc
     by_cases hT:T0.taken (es.take k) (u,v)=true
     ·have HR:Hid (T0.dirOk es=false):=T0.dirOk_bad hlt (by rw[hat,hT,Bool.not_true,Bool.and_false])
      clear hs hat hok hc hD;go_wp2
      go_region_with (first
       | (go_at_call 228;refine (ok_lit (by omega) hE hbd).mono ?_;rintro e w4 ⟨rfl,h4⟩;have x0:=h4.c0;have x1:=h4.c1)
       | (go_at_call 229;refine (hiT.out _ _ hT h4.bel).mono ?_;rintro e w5 ⟨rfl,b5⟩))
      all_goals
       go_wp2;go_ret;exact ⟨ret_bool HR.out.symm,b5⟩
     ·have hT':T0.taken (es.take k) (u,v)=false:=by simpa using hT
      have HO:Hid (T0.okUpto es (k+1)=true):=by rw[hs,hok,hat,hE,hT'];rfl
      clear hs hat hok hc hD hT;go_wp2
      go_region_with (first
       | (go_at_call 228;refine (ok_lit (by omega) hE hbd).mono ?_;rintro e w4 ⟨rfl,h4⟩;have x0:=h4.c0;have x1:=h4.c1)
       | (go_at_call 229;refine (hiT.out _ _ hT' h4.bel).mono ?_;rintro e w5 ⟨rfl,b5⟩))
      all_goals
       go_wp2
       go_roundw
       case rel=>exact ⟨k+1,by omega,HO.out,by go_num,b5⟩
       case measure=>simp[intOf];omega
    ·have hE':E0.entryOk u v=false:=by simpa using hE
     have HR:Hid (T0.dirOk es=false):=T0.dirOk_bad hlt (by rw[hat,hE'];rfl);clear hs hat hok hc hD hE;go_wp2;have hS0:(wr.alloc (.cells #[.int .i64 u,.string v] 133)).drew.cell? ⟨wr.heap.size,0,none⟩=some (.int .i64 u)/\(wr.alloc (.cells #[.int .i64 u,.string v] 133)).drew.cell? ⟨wr.heap.size,1,none⟩=some (.string v):=⟨hbd.c0,hbd.c1⟩;refine wp_region_held (S:=fun W=>W.cell? ⟨wr.heap.size,0,none⟩=some (.int .i64 u)/\W.cell? ⟨wr.heap.size,1,none⟩=some (.string v)) (by kernel_rfl) ?_;refine BT.s 0 (.agg #[.int .i64 u,.string v]) hS0 ?_;refine Y0.one_call (i:=1) (by kernel_rfl) rfl rfl (.tmp 15) _ rfl (.agg #[.int .i64 u,.string v]) (by rfl) (enters_of func228 (by kernel_rfl) rfl) ((ok_lit (by omega) hE' hbd).mono ?_);rintro e w4 ⟨rfl,h4⟩;have hS4:w4.cell? ⟨wr.heap.size,0,none⟩=some (.int .i64 u)/\w4.cell? ⟨wr.heap.size,1,none⟩=some (.string v):=⟨h4.c0,h4.c1⟩;refine ⟨_,rfl,hS4,?_⟩;simp only[BZ.z,Act.put,Nat.reduceAdd];refine BT.r 2 (.bool true) hS4 ?_;refine BT.r 3 (.bool true) hS4 ?_;refine BT.u 4 hS4 ?_;refine BT.u 5 hS4 ?_;refine BT.u 6 hS4 ?_;refine BT.u 7 hS4 ?_;refine BT.u 8 hS4 ?_;refine BT.r 9 (.bool true) hS4 ?_;refine wpAnyH_done (by kernel_rfl) ?_ _
     all_goals
      go_wp2;go_ret;exact ⟨ret_bool HR.out.symm,hbel.trans (h4.bel.mono hB)⟩
   ·obtain rfl:k=es.length:=by omega
    have HR:Hid (T0.dirOk es=true):=by rw[hD,hok];rfl
    clear hok hD hR;go_wp2;go_ret;exact ⟨ret_bool HR.out.symm,hbel⟩
end T1
namespace T2
theorem ret_str {a b:ByteArray} (h:a=b):Ending.returned (.string a)=.returned (.string b):=by rw[h]
theorem dir_lit {a:Option Addr} {c:Nat} {es:List T0.Ent} {W:World} {r:Bool} (hbig:es.length<=1048576) (hcap:es.length<=c) (hfit:T0.Fits es) (hR:T0.Row W a es) (hr:T0.dirOk es=r) :
  Calls prog 220 #[.slice a es.length c] W (Rb (.bool r) W):=(T1.dirOk a c es W hbig hcap hfit hR).mono fun _ _ h=>⟨by rw[h.1,hr],h.2⟩
end T2
namespace T3
open T2 (ret_str)
theorem putE_empty {i:Int} {s:ByteArray} (h:E0.entryOk i s=false):(E0.putE i s).toList.isEmpty=true:=by
 rw[E0.putE,if_neg (by rw[h];decide),Lib.toList_data];rfl
theorem putE_full {i:Int} {s:ByteArray} (h:E0.entryOk i s=true):(E0.putE i s).toList.isEmpty=false:=by
 have:=T0.putE_size16 h;rw[Lib.toList_data]
 cases hl:(E0.putE i s).data.toList with
 | nil=>rw[Lib.size_eq,hl] at this;simp at this
 | cons x r=>rfl
theorem spec_PutDir (a:Option Addr) (c:Nat) (es:List T0.Ent) (w:World) (hbig:es.length<=1048576) (hcap:es.length<=c) (hfit:T0.Fits es) (hR:T0.Row w a es) :
  Calls prog 136 #[.slice a es.length c] w (Rb (.string (T0.putD es)) w):=by
 have HB:Hid (∀ k,k<es.length->T0.okAt es k=false->T0.putD es=⟨#[]⟩):=fun k hk h=>by rw[T0.putD,T0.dirOk_bad hk h];rfl
 have HL:Hid (12<es.length->T0.putD es=⟨#[]⟩):=fun h=>by rw[T0.putD,T0.dirOk,decide_eq_false (by omega:¬ es.length<=12)];rfl
 have HY:Hid (es.length<=12->T0.okUpto es es.length=true->T0.putD es=T0.joined es es.length):=fun h1 h2=>by rw[T0.putD,T0.dirOk,decide_eq_true h1,h2];rfl
 go_enter func136,ntmps136;go_wp2
 go_loopw [3,4] (fun t i w'=>∃ j:Nat,j<=es.length/\(j=0\/es.length<=12)/\T0.okUpto es j=true/\i=Iv j/\t=.string (T0.joined es j)/\Bq w w') (fun _ i _=>es.length-(intOf i).toNat)
 case atStart=>exact ⟨0,Nat.zero_le _,Or.inl rfl,rfl,rfl,rfl,Below.refl _ _⟩
 case round=>
  obtain ⟨j,hj,h12,hok,rfl,rfl,hbel⟩:=hrel
  by_cases hlt:j<es.length
  ·obtain ⟨b,off,rfl,hlt0,hc⟩:=(hR.below hbel).get hlt
   have y1:=(hc j hlt).1;have y2:=(hc j hlt).2;have hs:=T0.okUpto_succ es j;have hat:T0.okAt es j=(E0.entryOk (T0.ent es j).1 (T0.ent es j).2 && !(T0.taken (es.take j) (T0.ent es j))):=rfl;have hf:=hfit j hlt;have hu:T0.joined es (j+1)=T0.joined es j++E0.putE (T0.ent es j).1 (T0.ent es j).2:=rfl;have hjs:=T0.joined_size hok j (Nat.le_refl _);have hbad:=HB.out j hlt
   have hin:=fun k (hk:k<j)=>T0.taken_of (es:=es) (e:=T0.ent es j) hk hj
   have hts:=fun k (hk:k<es.length)=>T0.taken_succ es k (T0.ent es j) hk
   obtain ⟨z,ez⟩:∃ z,T0.ent es j=z:=⟨_,rfl⟩;rw[ez] at y1 y2 hat hf hu hin hts;obtain ⟨u,v⟩:=z;simp only at y1 y2 hat hf hu
   have e1:(0:Int)<=(j:Int):=by omega
   have e2:(j:Int)<(es.length:Int):=by omega
   clear ez hR hfit HB;go_wp2
   go_loopw [5] (fun i w'=>∃ k m:Nat,k<=j/\T0.taken (es.take k) (u,v)=false/\i=Iv k/\w'=wr.drewN m) (fun i _=>j-(intOf i).toNat)
   case atStart=>exact ⟨0,0,Nat.zero_le _,rfl,rfl,rfl⟩
   case round=>
    obtain ⟨k,m,hk,hno,rfl,hW⟩:=hrel
    have x1:Ce wr b (off+j*2) (Iv u):=by rw[hW];exact y1
    have x2:Ce wr b (off+j*2+1) (.string v):=by rw[hW];exact y2
    have HW:Bq w wr:=by rw[hW];exact K0.below_drewN hbel m
    have HD:Hid (wr=_):=hW
    by_cases hlk:k<j
    ·have x3:Ce wr b (off+k*2) (Iv (T0.ent es k).1):=by rw[hW];exact (hc k (by omega)).1
     have x4:Ce wr b (off+k*2+1) (.string (T0.ent es k).2):=by rw[hW];exact (hc k (by omega)).2
     have hin1:=hin k hlk;have hts1:=hts k (by omega);obtain ⟨z,ez⟩:∃ z,T0.ent es k=z:=⟨_,rfl⟩;rw[ez] at x3 x4 hin1 hts1;obtain ⟨p,q⟩:=z;simp only at x3 x4
     have f1:(0:Int)<=(k:Int):=by omega
     have f2:(k:Int)<(es.length:Int):=by omega
     have f3:(k:Int)<(j:Int):=by omega
     clear ez hc y1 y2 hW hin hts
     by_cases h1:(q.toList == v.toList)=true
     ·have HR:Hid (T0.putD es=⟨#[]⟩):=hbad (by rw[hat,hin1 (by rw[T0.clash,h1];rfl),Bool.not_true,Bool.and_false])
      clear hin1 hts1 hat hbad hs hok hu;go_wp2
      go_quiet (fail)
      go_wp2;go_ret;exact ⟨ret_str HR.out.symm,K0.below_drewN HW _⟩
     ·have h1':(q.toList == v.toList)=false:=by simpa using h1
      by_cases h2:(p == u)=true
      ·have HR:Hid (T0.putD es=⟨#[]⟩):=hbad (by rw[hat,hin1 (by rw[T0.clash,h1',h2];rfl),Bool.not_true,Bool.and_false])
       clear hin1 hts1 hat hbad hs hok hu h1;go_wp2
       go_quiet (fail)
       go_wp2;go_ret;exact ⟨ret_str HR.out.symm,K0.below_drewN HW _⟩
      ·have h2':(p == u)=false:=by simpa using h2
       have HN:Hid (T0.taken (es.take (k+1)) (u,v)=false):=by rw[hts1,hno,T0.clash,h1',h2'];rfl
       clear hin1 hts1 hat hbad hs hok hu h1 h2 hno;go_wp2
       go_quiet (fail)
       go_wp2
       go_roundw
       case rel=>exact ⟨k+1,m+nq,by omega,HN.out,by go_num,by rw[HD.out,World.drewN_drewN]⟩
       case measure=>simp[intOf];omega
    ·obtain rfl:k=j:=by omega
     clear hc y1 y2 hW HD hin hts
     by_cases hE:E0.entryOk u v=true
     ·have g1:=putE_full hE
      have hps:=T0.putE_size16 hE
      by_cases hl:12<es.length
      ·have HR:Hid (T0.putD es=⟨#[]⟩):=HL.out hl
       have hl':12<(es.length:Int):=by omega
       clear hat hbad hs hok hu hno
       go_wp2_with (go_at_call 168;refine (E2.spec_PutEntry u v _ hf).mono ?_;rintro e w2 ⟨rfl,b2⟩)
       go_ret;exact ⟨ret_str HR.out.symm,HW.trans (b2.mono HW.size)⟩
      ·have hl':¬ 12<(es.length:Int):=by omega
       have hl'':decide (12<(es.length:Int))=false:=by simpa using hl'
       have HO:Hid (T0.okUpto es (k+1)=true):=by rw[hs,hok,hat,hE,hno];rfl
       have HU:Hid (T0.joined es (k+1)=T0.joined es k++E0.putE u v):=hu
       have zz:(T0.joined es k).size+(E0.putE u v).size<=9223372036854775807:=by omega
       have zz2:16*k+16<=9223372036854775807:=by omega
       clear hat hbad hs hok hu hno
       go_wp2_with (go_at_call 168;refine (E2.spec_PutEntry u v _ hf).mono ?_;rintro e w2 ⟨rfl,b2⟩)
       go_roundw
       case rel=>exact ⟨k+1,by omega,Or.inr (by omega),HO.out,by go_num,by rw[HU.out],HW.trans (b2.mono HW.size)⟩
       case measure=>simp[intOf];omega
     ·have hE':E0.entryOk u v=false:=by simpa using hE
      have g1:=putE_empty hE';have HR:Hid (T0.putD es=⟨#[]⟩):=hbad (by rw[hat,hE'];rfl);clear hat hbad hs hok hu hno
      go_wp2_with (go_at_call 168;refine (E2.spec_PutEntry u v _ hf).mono ?_;rintro e w2 ⟨rfl,b2⟩)
      go_ret;exact ⟨ret_str HR.out.symm,HW.trans (b2.mono HW.size)⟩
  ·obtain rfl:j=es.length:=by omega
   have HP:Hid (T0.putD es=T0.joined es es.length):=by
    show T0.putD es=T0.joined es es.length
    rcases h12 with h | h
    ·exact HY.out (by omega) hok
    ·exact HY.out h hok
   clear hok hR hfit h12 HB HL HY;go_wp2;go_ret;exact ⟨ret_str HP.out.symm,hbel⟩
end T3
namespace T5
theorem info33:(prog.info? 133).map (fun i=>(i.zero,i.size,i.bytes))=some (some (.agg #[Iv 0,.string ⟨#[]⟩]),2,24):=by kernel_rfl
structure Mk (g n:Nat) (es:List T0.Ent) (k:Nat) (W:World):Prop where
 done:∀ j,j<k->W.cell? ⟨g,j*2,none⟩=some (.int .i64 (T0.ent es j).1)/\W.cell? ⟨g,j*2+1,none⟩=some (.string (T0.ent es j).2)
 there:∀ j,j<n*2->(W.cell? ⟨g,j,none⟩).isSome=true
 free:∀ j,j<n*2->W.frozen? ⟨g,j,none⟩=false
 lt:g<W.heap.size
variable {g n k : Nat} {es : List T0.Ent} {w W W' : World}
theorem Mk.below (h:Mk g n es k W) (hb:Bq W W'):Mk g n es k W':=
  ⟨fun j hj=>⟨(hb.cell (p:=⟨g,j*2,none⟩) h.lt).trans (h.done j hj).1,(hb.cell (p:=⟨g,j*2+1,none⟩) h.lt).trans (h.done j hj).2⟩,
   fun j hj=>by rw[hb.cell (p:=⟨g,j,none⟩) h.lt];exact h.there j hj,fun j hj=>(hb.frozen (p:=⟨g,j,none⟩) h.lt).trans (h.free j hj),Nat.lt_of_lt_of_le h.lt hb.size⟩
theorem some_set {W:World} {p x:Addr} {v:Value} (h:(W.cell? x).isSome=true):((W.setCell p v).cell? x).isSome=true:=by
 by_cases e:p=x
 ·subst e
  obtain ⟨u,hu⟩:=Option.isSome_iff_exists.1 h;rw[World.cell?_setCell_same _ _ _ hu];rfl
 ·rw[World.cell?_setCell_other _ _ _ _ e]
  exact h
theorem Mk.step (h:Mk g n es k W) (hk:k<n) {u:Int} {v:ByteArray} (he:T0.ent es k=(u,v)):Mk g n es (k+1) ((W.setCell ⟨g,k*2,none⟩ (Iv u)).setCell ⟨g,k*2+1,none⟩ (.string v)):=by
 obtain ⟨x,hx⟩:=Option.isSome_iff_exists.1 (h.there (k*2) (by omega));obtain ⟨y,hy⟩:=Option.isSome_iff_exists.1 (h.there (k*2+1) (by omega))
 have n1:(⟨g,k*2+1,none⟩:Addr) ≠ ⟨g,k*2,none⟩:=by simp
 refine ⟨fun j hj=>?_,fun j hj=>some_set (some_set (h.there j hj)),fun j hj=>?_,?_⟩
 ·by_cases e:j=k
  ·subst e
   rw[he];refine ⟨?_,?_⟩
   ·rw[World.cell?_setCell_other _ _ _ _ n1,World.cell?_setCell_same _ _ _ hx]
   ·rw[World.cell?_setCell_same _ _ _ ((World.cell?_setCell_other _ _ _ _ n1.symm).trans hy)]
  ·have hd:=h.done j (by omega)
   refine ⟨?_,?_⟩
   ·rw[World.cell?_setCell_other _ _ _ _ (by intro q;have:=(Addr.mk.inj q).2.1;omega),World.cell?_setCell_other _ _ _ _ (by intro q;have:=(Addr.mk.inj q).2.1;omega)]
    exact hd.1
   ·rw[World.cell?_setCell_other _ _ _ _ (by intro q;have:=(Addr.mk.inj q).2.1;omega),World.cell?_setCell_other _ _ _ _ (by intro q;have:=(Addr.mk.inj q).2.1;omega)]
    exact hd.2
 ·rw[World.frozen?_setCell,World.frozen?_setCell]
  exact h.free j hj
 ·have:=h.lt
  simpa [World.setCell] using this
end T5
end Go.Proofs.YtlejhfnjmkdobaaGreatDoor
