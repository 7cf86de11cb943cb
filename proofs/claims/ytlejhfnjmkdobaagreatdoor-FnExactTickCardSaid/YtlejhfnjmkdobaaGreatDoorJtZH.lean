/- Joined texts. -/
import Derived.Test.YtlejhfnjmkdobaaGreatDoorJtZE
set_option linter.unusedVariables false
set_option linter.unusedSimpArgs false
set_option maxRecDepth 10000
set_option maxHeartbeats 16000000
namespace Go.Proofs.YtlejhfnjmkdobaaGreatDoor
open ChangeShapes WideShapes ChangeAt RowKit
open Go.Proofs.Tryz
namespace KP
open P1 (ret_bool quiet_bool)
open J0 (IBuf Own)
open I2 (ints)
open N0 (Ln)
open N1 (Sl)
open Z0 (dat Kp Lns kval)
open KO (gath Out gath_len)
theorem noneAmong (a1 a2:Option Addr) (c1 c2:Nat) (zs al:List Int) (w:World) (h1:zs.length<=281474976710656) (h2:al.length<=281474976710656) (R1:P0.Row w a1 zs) (R2:P0.Row w a2 al) :
  Calls prog 141 #[.slice a1 zs.length c1,.slice a2 al.length c2] w (Rw (.bool (N0.apart al zs)) w):=by
 have hH:Hid (∀ x,_):=fun x=>N2.containsRow a2 c2 al x w h2 R2
 clear R2;go_enter func141,ntmps141;go_wp2
 go_loop [9] (fun i=>∃ k:Nat,k<=zs.length/\N0.to (N0.apAt al zs) k=true/\i=Iv k) (fun i=>zs.length-(intOf i).toNat)
 case atStart=>exact ⟨0,Nat.zero_le _,rfl,rfl⟩
 case round=>
  obtain ⟨k,hk,hok,rfl⟩:=hrel
  by_cases hlt:k<zs.length
  ·obtain ⟨b,off,hab,_,hc⟩:=R1.get hlt
   have x1:=hc k hlt;have hat:N0.apAt al zs k=!(P0.has al (zs.getD k 0)):=rfl;obtain ⟨z,ez⟩:∃ z,zs.getD k 0=z:=⟨_,rfl⟩;rw[ez] at x1 hat;rw[hab]
   have e1:(0:Int)<=(k:Int):=by omega
   have e2:(k:Int)<(zs.length:Int):=by omega
   cases h:P0.has al z with
   | false=>
    have HO:Hid (N0.to (N0.apAt al zs) (k+1)=true):=N0.to_step hok (by rw[hat,h];rfl);clear hat hok ez hc
    go_wp2_with (go_at_call 130;refine (hH.out _).mono ?_;rintro e w' ⟨rfl,rfl⟩)
    go_round
    case rel=>exact ⟨k+1,by omega,HO.out,by go_num⟩
    case measure=>simp[intOf];omega
   | true=>
    have HR:Hid (N0.apart al zs=false):=N0.to_bad hlt (by rw[hat,h];rfl);clear hat hok ez hc
    go_wp2_with (go_at_call 130;refine (hH.out _).mono ?_;rintro e w' ⟨rfl,rfl⟩)
    go_ret;exact ⟨ret_bool HR.out.symm,rfl⟩
  ·obtain rfl:k=zs.length:=by omega
   have HR:Hid (N0.apart al zs=true):=hok;clear hok R1;go_wp2;go_ret;exact ⟨ret_bool HR.out.symm,rfl⟩
def onceAt (zs:List Int) (i:Nat):Bool:=!(P0.has (zs.take i) (zs.getD i 0))
def once (zs:List Int):Bool:=N0.to (onceAt zs) zs.length
theorem once_iff (zs:List Int):once zs=true ↔ zs.Nodup:=by
 unfold once;rw[N0.to_iff];constructor
 ·intro h
  rw[List.Nodup,List.pairwise_iff_getElem];intro i j hi hj hij e;have hh:=h j hj
  have h2:P0.has (zs.take j) (zs.getD j 0)=false:=by simpa [onceAt] using hh
  have h3:=P0.contains_of (zs:=zs) (k:=i) (n:=j) hij (by omega);rw[P0.getD_get _ _ hi,e,<- P0.getD_get _ _ hj] at h3;rw[h3] at h2;cases h2
 ·intro h i hi
  rw[List.Nodup,List.pairwise_iff_getElem] at h
  cases hb:P0.has (zs.take i) (zs.getD i 0) with
  | false=>rw[onceAt,hb];rfl
  | true=>
   have hm:=N0.has_iff.1 hb;obtain ⟨j,hj,e⟩:=List.mem_iff_getElem.1 hm
   have hj':j<i:=by simp at hj;omega
   rw[List.getElem_take,P0.getD_get _ _ hi] at e;exact absurd e (h j i (by omega) hi hj')
theorem l06Twice (a:Option Addr) (c:Nat) (zs:List Int) (w:World) (hbig:zs.length<=281474976710656) (hcap:zs.length<=c) (hR:P0.Row w a zs) :
  Calls prog 34 #[.slice a zs.length c] w fun e w'=>e=.returned (.bool (!(once zs)))/\∃ n,w'=w.drewN n:=by
 go_enter func34,ntmps34;go_wp2
 go_loopw [3] (fun i w'=>∃ k n:Nat,k<=zs.length/\N0.to (onceAt zs) k=true/\i=Iv k/\w'=w.drewN n) (fun i _=>zs.length-(intOf i).toNat)
 case atStart=>exact ⟨0,0,Nat.zero_le _,rfl,rfl,rfl⟩
 case round=>
  obtain ⟨k,n,hk,hok,rfl,hW⟩:=hrel
  have HW:Hid (∀ m,∃ m',wr.drewN m=w.drewN m'):=fun m=>⟨n+m,by rw[hW,World.drewN_drewN]⟩
  by_cases hlt:k<zs.length
  ·have hR':P0.Row wr a zs:=by rw[hW];exact hR.drewN n
   obtain ⟨b,off,rfl,hb,hc⟩:=hR'.get hlt
   have hH:Hid (∀ m x,Calls prog 64 #[.slice (some ⟨b,off,none⟩) k c,Iv x] (wr.drewN m) fun e w'=>e=.returned (.bool (P0.has (zs.take k) x))/\w'=wr.drewN m):=fun m x=>P1.l02Has b off k c zs x _ (by omega) (by omega) (fun j hj=>hc j hj)
   have x1:=hc k hlt;have hat:onceAt zs k=!(P0.has (zs.take k) (zs.getD k 0)):=rfl;obtain ⟨z,ez⟩:∃ z,zs.getD k 0=z:=⟨_,rfl⟩;rw[ez] at x1 hat
   have e1:(0:Int)<=(k:Int):=by omega
   have e2:(k:Int)<(zs.length:Int):=by omega
   have e3:(k:Int)<=(c:Int):=by omega
   by_cases h2:P0.has (zs.take k) z=true
   ·have HR:Hid ((!(once zs))=true):=by
     show (!(once zs))=true
     rw[once,N0.to_bad hlt (by rw[hat,h2];rfl)];rfl
    clear hat hok ez hc hR hR' hW;go_wp2
    go_quiet ((go_at_call 64;exact quiet_bool (hH.out _ _) h2))
    go_wp2;go_ret;exact ⟨ret_bool HR.out.symm,HW.out _⟩
   ·have h2':P0.has (zs.take k) z=false:=by simpa using h2
    have HO:Hid (N0.to (onceAt zs) (k+1)=true):=N0.to_step hok (by rw[hat,h2'];rfl);clear hat hok ez hc hR hR' hW h2;go_wp2
    go_quiet ((go_at_call 64;exact quiet_bool (hH.out _ _) h2'))
    go_wp2;obtain ⟨m',hm'⟩:=HW.out nq
    go_roundw
    case rel=>exact ⟨k+1,m',by omega,HO.out,by go_num,hm'⟩
    case measure=>simp[intOf];omega
  ·obtain rfl:k=zs.length:=by omega
   have HR:Hid ((!(once zs))=false):=by
    show (!(once zs))=false
    rw[once,hok];rfl
   have HW0:Hid (wr=w.drewN n):=hW;clear hok hR hW;go_wp2;go_ret;exact ⟨ret_bool HR.out.symm,n,HW0.out⟩
theorem sort_nil (c:Nat) (w:World):Calls prog 142 #[.slice none 0 c] w (Rb (.tuple #[]) w):=by
 go_enter func142,ntmps142;go_wp2;refine wp_loop_rounds 1 ?_;rw[rounds_succ];go_wp2;refine wp_loop_rounds 1 ?_;rw[rounds_succ];go_wp2;refine bodyPost_end (v:=.tuple #[]) (by simp[results,results142,go_sem]) rfl ?_;exact ⟨rfl,Below.refl _ _⟩
theorem asc_srt (zs:List Int):N0.asc (TW.srt zs)=once zs:=by
 have h:N0.asc (TW.srt zs)=true ↔ once zs=true:=by
  rw[N0.asc_iff,once_iff,<- (TW.srt_perm zs).nodup_iff];constructor
  ·intro h
   exact h.imp fun h e=>by omega
  ·intro h
   have hs:=TW.srt_sorted zs;rw[List.pairwise_iff_getElem] at hs ⊢;rw[List.Nodup,List.pairwise_iff_getElem] at h;intro i j hi hj hij;have h1:=hs i j hi hj hij;have h2:=h i j hi hj hij;omega
 cases h1:N0.asc (TW.srt zs) <;> cases h2:once zs <;> simp_all
theorem sortOwn {base n c:Nat} {a:Option Addr} {zs:List Int} (W:World) (h:IBuf base W a n c zs) (hb:base<=W.heap.size) (hn:zs.length<=1000) :
  Calls prog 142 #[.slice a zs.length c] W fun e w'=>e=.returned (.tuple #[])/\P0.Row w' a (TW.srt zs)/\Below base W w':=by
 obtain rfl:=h.1
 cases a with
 | none=>
  have h0:zs=[]:=by
   rcases h.own with q | ⟨g,q,_⟩
   ·exact q
   ·cases q
  subst h0
  exact (sort_nil c W).mono fun e w' ⟨he,hw⟩=>⟨he,Or.inl (by simp[TW.srt]),hw.mono hb⟩
 | some p=>
  rcases h.2.2 with ⟨q,_⟩ | ⟨g,c2,cur,hv,hg,hc,_⟩
  ·cases q
  ·simp at hv
   obtain ⟨rfl,-⟩:=hv;have hlt:g<W.heap.size:=(Array.getElem?_eq_some_iff.1 hc).1
   have hk:K0.Blk g (ints zs) W:=by
    rcases h.own with h0 | ⟨g',e,_,hk'⟩
    ·rw[h0]
     exact ⟨fun j hj=>by simp at hj,fun j hj=>by simp at hj,hlt⟩
    ·cases e
     exact hk'
   exact (Tryz.slices_Sort_int g 0 c zs W (TW.holds_of hk) hlt (by omega)).mono fun e w' ⟨he,m,os,hw⟩=>⟨he,by
    subst hw
    exact I2.row_of_blk (TW.sorted_blk hk (TW.srt_length _)),by
    subst hw
    exact TW.sorted_below hg hb⟩
theorem allApart (a:Option Addr) (c:Nat) (zs:List Int) (w:World) (hn:zs.length<=1000) (hR:P0.Row w a zs) :
  Calls prog 103 #[.slice a zs.length c] w (Rb (.bool (once zs)) w):=by
 have HA:Hid (N0.asc (TW.srt zs)=once zs):=asc_srt zs
 have hcl:Hid (∀ W,P0.Row W a zs->_):=fun W h=>D0.clone a c zs W hn h
 have hso:Hid (∀ W a' c',IBuf w.heap.size W a' zs.length c' zs->w.heap.size<=W.heap.size->Calls prog 142 #[.slice a' zs.length c'] W fun e w'=>e=.returned (.tuple #[])/\P0.Row w' a' (TW.srt zs)/\Below w.heap.size W w'):=fun W a' c' h1 h2=>sortOwn W h1 h2 hn
 have has:Hid (∀ W a' c',P0.Row W a' (TW.srt zs)->Calls prog 100 #[.slice a' zs.length c'] W fun e w'=>e=.returned (.bool (once zs))/\∃ n,w'=W.drewN n):=fun W a' c' h=>by
  have:=N2.ascends a' c' (TW.srt zs) W (by rw[TW.srt_length];omega) h
  rwa [TW.srt_length,asc_srt] at this
 go_enter func103,ntmps103
 go_wp2_with (first
  | (go_at_call 111;refine (hcl.out _ hR).mono ?_;rintro e w1 ⟨a1,c1,rfl,f1,b1⟩)
  | (go_at_call 142;refine (hso.out _ _ _ f1 b1.size).mono ?_;rintro e w2 ⟨rfl,r2,b2⟩)
  | (go_at_call 100;refine (has.out _ _ _ r2).mono ?_;rintro e w3 ⟨rfl,m3,rfl⟩))
 go_ret;exact ⟨rfl,K0.below_drewN (b1.trans b2) m3⟩
theorem l06Lent (k:Kp) (a:Option Addr) (c:Nat) (ss:Nat->Sl) (w:World) (hn:k.ds.length<=1048576) (ht:k.ds.length+Z1.tot k.ds k.ds.length<=1048576) (hR:Lns w a k.ds ss) :
  Calls prog 36 #[kval k a c] w (Out (gath (fun d:Ln=>d.ino :: d.fr) k.ds k.ds.length) w):=by
 have x0:=Z4.bk_new w k a c;have n1:=K0.below_new (w.alloc (.cells #[.string k.mem,.string k.dur,.slice a k.ds.length c,Iv k.ck] 31)) (.cells #[] 3)
 have e0:(w.alloc (.cells #[.string k.mem,.string k.dur,.slice a k.ds.length c,Iv k.ck] 31)).heap.size=w.heap.size+1:=by simp
 have B1:=J0.ibuf_made (base:=w.heap.size+1) (w.alloc (.cells #[.string k.mem,.string k.dur,.slice a k.ds.length c,Iv k.ck] 31)) (by rw[e0];exact Nat.le_refl _);unfold Bq at n1;rw[e0] at n1 B1
 have HB:Hid (∀ W,Below (w.heap.size+1) (w.alloc (.cells #[.string k.mem,.string k.dur,.slice a k.ds.length c,Iv k.ck] 31)) W->Bq w W/\K0.Blk w.heap.size (Z0.kvals k a c) W):=fun W hW=>⟨x0.bel.trans (hW.mono (Nat.le_succ _)),J0.blk_keep x0.arg hW (Nat.lt_succ_self _)⟩
 have HL:Hid (∀ W,Bq w W->Lns W a k.ds ss):=fun W hb=>hR.below hb
 clear hR x0 e0;go_enter func36,ntmps36;go_wp2
 go_loopw [3,4] (fun p i w'=>∃ (j:Nat) (a':Option Addr) (cap':Nat),j<=k.ds.length/\i=Iv j/\p=.slice a' (gath (fun d:Ln=>d.ino :: d.fr) k.ds j).length cap'/\IBuf (w.heap.size+1) w' a' (gath (fun d:Ln=>d.ino :: d.fr) k.ds j).length cap' (gath (fun d:Ln=>d.ino :: d.fr) k.ds j)/\Below (w.heap.size+1) (w.alloc (.cells #[.string k.mem,.string k.dur,.slice a k.ds.length c,Iv k.ck] 31)) w') (fun _ i _=>k.ds.length-(intOf i).toNat)
 case atStart=>exact ⟨0,_,_,Nat.zero_le _,rfl,rfl,B1,n1⟩
 case round=>
  obtain ⟨j,a3,c3,hj,rfl,rfl,hbf,hbel⟩:=hrel;clear B1 n1;obtain ⟨M1,kb⟩:=HB.out _ hbel;have c2:=kb.c2
  by_cases hlt:j<k.ds.length
  ·have ls:=(HL.out _ M1).sub j hlt
   obtain ⟨b,off,hab,hlt0,hc⟩:=(HL.out _ M1).row.get hlt;obtain ⟨y0,y1,y2,y3,y4,y5,y6,y7⟩:=hc j hlt;have hgl:=gath_len (fun d:Ln=>d.ino :: d.fr) k.ds 0 (fun d=>by unfold N3.total;simp only[List.length_cons];omega) (j+1);have htl:=Z1.tot_le (ds:=k.ds) (k:=j+1) (n:=k.ds.length) (by omega);have hgs:gath (fun d:Ln=>d.ino :: d.fr) k.ds (j+1)=gath (fun d:Ln=>d.ino :: d.fr) k.ds j++((dat k.ds j).ino :: (dat k.ds j).fr):=rfl;obtain ⟨d,ed⟩:∃ d,dat k.ds j=d:=⟨_,rfl⟩;obtain ⟨s,es⟩:∃ s,ss j=s:=⟨_,rfl⟩
   have HSl:Hid (∀ W,Bq w W->P0.Row W s.a3 d.fr/\Ce W b (off+j*8) (Iv d.ino)/\Ce W b (off+j*8+7) (.slice s.a3 d.fr.length s.c3)):=fun W hW=>by
    have h1:=(HL.out W hW).sub j hlt;obtain ⟨b',off',hab',_,hc'⟩:=(HL.out W hW).row.get hlt;rw[hab] at hab';cases hab';obtain ⟨q0,-,-,-,-,-,-,q7⟩:=hc' j hlt;rw[ed] at q0 q7 h1;rw[es] at q7 h1;exact ⟨h1.r3,q0,q7⟩
   rw[ed,es] at ls;rw[ed] at y0 y1 y2 y3 y4 y5 y6 y7 hgs;rw[es] at y4 y6 y7;rw[hab] at c2
   have HC2:Hid (∀ W,K0.Blk w.heap.size (Z0.kvals k a c) W->Ce W w.heap.size 2 (.slice (some ⟨b,off,none⟩) k.ds.length c)):=fun W h=>by
    have:=h.c2
    rwa [hab] at this
   have hgl2:=congrArg List.length hgs;rw[List.length_append,List.length_cons] at hgl2;obtain ⟨acc,ea⟩:∃ acc,gath (fun d:Ln=>d.ino :: d.fr) k.ds j=acc:=⟨_,rfl⟩;rw[ea] at hbf hgs hgl2 ⊢
   have HS:Hid (gath (fun d:Ln=>d.ino :: d.fr) k.ds (j+1)=acc ++ [d.ino]++d.fr):=by
    show gath (fun d:Ln=>d.ino :: d.fr) k.ds (j+1)=_
    rw[hgs,List.append_assoc];rfl
   have hle:acc.length+1+d.fr.length<=1048576:=by omega
   have e1:(0:Int)<=(j:Int):=by omega
   have e2:(j:Int)<(k.ds.length:Int):=by omega
   have hB:w.heap.size+1<=wr.heap.size:=kb.lt;have S0:wr.drew.cell? ⟨w.heap.size,2,none⟩=some (.slice (some ⟨b,off,none⟩) k.ds.length c)/\wr.drew.cell? ⟨b,off+j*8,none⟩=some (Iv d.ino)/\wr.drew.cell? ⟨b,off+j*8+7,none⟩=some (.slice s.a3 d.fr.length s.c3):=⟨c2,y0,y7⟩;have nA:=(K0.below_new wr (.cells #[Iv d.ino] 3)).drew;have MA:=hbel.trans (nA.mono hB);obtain ⟨MA1,kA⟩:=HB.out _ MA;obtain ⟨rA,pA,qA⟩:=HSl.out _ MA1;have S1:(wr.alloc (.cells #[Iv d.ino] 3)).drew.cell? ⟨w.heap.size,2,none⟩=some (.slice (some ⟨b,off,none⟩) k.ds.length c)/\(wr.alloc (.cells #[Iv d.ino] 3)).drew.cell? ⟨b,off+j*8,none⟩=some (Iv d.ino)/\(wr.alloc (.cells #[Iv d.ino] 3)).drew.cell? ⟨b,off+j*8+7,none⟩=some (.slice s.a3 d.fr.length s.c3):=⟨HC2.out _ kA,pA,qA⟩;have BA:=(hbf.alloc (.cells #[Iv d.ino] 3)).drew;have RA:P0.Row (wr.alloc (.cells #[Iv d.ino] 3)).drew (some ⟨wr.heap.size,0,none⟩) [d.ino]:=(Y1.row_one wr d.ino).drew;have hsA:w.heap.size+1<=(wr.alloc (.cells #[Iv d.ino] 3)).drew.heap.size:=Nat.le_trans hB nA.size;clear ed es hc ls ea hgs hgl hgl2 HL hab y1 y2 y3 y4 y5 y6;go_wp2
   go_region_held3 (fun W=>Ce W w.heap.size 2 (.slice (some ⟨b,off,none⟩) k.ds.length c)/\Ce W b (off+j*8) (Iv d.ino)/\Ce W b (off+j*8+7) (.slice s.a3 d.fr.length s.c3)) (assumption) ((first
    | (have f7':=f7;refine Y2.step_rows rfl (.tmp 21) (.tmp 27) rfl f7 s.a3 s.c3 d.fr (by simp[Act.eval,Act.put]) (by simp[Act.eval,Act.put]) r7 (by simp only[List.length_cons,List.length_nil];omega) hs7 ?_;intro a8 c8 w8 f8 g8;have M8:=M7.trans (D7.run_below f7 hs7 g8);have k8:=(HB.out _ M8).2;have q8:=HSl.out _ (HB.out _ M8).1;have S8:Ce w8 w.heap.size 2 (.slice (some ⟨b,off,none⟩) k.ds.length c)/\Ce w8 b (off+j*8) (Iv d.ino)/\Ce w8 b (off+j*8+7) (.slice s.a3 d.fr.length s.c3):=⟨HC2.out _ k8,q8.2.1,q8.2.2⟩)
    | (refine Y2.step_rows rfl (.tmp 13) (.tmp 20) rfl BA (some ⟨wr.heap.size,0,none⟩) 1 [d.ino] (by simp[Act.eval,Act.put]) (by simp[Act.eval,Act.put]) RA (by simp only[List.length_cons,List.length_nil];omega) hsA ?_;intro a7 c7 w7 f7 g7;have M7:=MA.trans (D7.run_below BA hsA g7);have k7:=(HB.out _ M7).2;have q7:=HSl.out _ (HB.out _ M7).1;have r7:=q7.1;have hs7:w.heap.size+1<=w7.heap.size:=k7.lt;have S7:Ce w7 w.heap.size 2 (.slice (some ⟨b,off,none⟩) k.ds.length c)/\Ce w7 b (off+j*8) (Iv d.ino)/\Ce w7 b (off+j*8+7) (.slice s.a3 d.fr.length s.c3):=⟨HC2.out _ k7,q7.2.1,q7.2.2⟩)))
   all_goals
    have f8':IBuf (w.heap.size+1) w8 a8 (acc ++ [d.ino]++d.fr).length c8 (acc ++ [d.ino]++d.fr):=by rw[List.length_append,List.length_append];exact f8
    go_wp2
    go_roundw
    case rel=>exact ⟨j+1,a8,c8,by omega,by go_num,by rw[HS.out];simp;omega,by rw[HS.out];exact f8',M8⟩
    case measure=>simp[intOf];omega
  ·obtain rfl:j=k.ds.length:=by omega
   have e9:decide ((k.ds.length:Int)<(k.ds.length:Int))=false:=by simp
   clear HL HB;go_wp2;go_ret;exact ⟨a3,c3,rfl,hbf.own.mono (Nat.le_succ _),hbf.fits,M1⟩
end KP
namespace KH
open N0 (Ln)
open N1 (Sl Lists Fit LB)
def has (m:ByteArray) (us fs:List Int) (d:Ln):Bool:=N0.loanOk d && (decide (O0.recd m d.ino=d.rc) && (decide (O0.joined m d.pg d.pg.length=d.sav) && (N0.apart fs d.fr && N0.apart us d.po)))
structure HV (w:World) (m:ByteArray) (a1 a2:Option Addr) (c1 c2:Nat) (us fs:List Int) (d:Ln) (s:Sl) (V L:Nat) (W:World):Prop where
 vb:K0.Blk V [.string m,.slice a1 us.length c1,.slice a2 fs.length c2] W
 lb:LB L d s W
 bel:Bq w W
variable {w W W' : World} {m : ByteArray} {a1 a2 : Option Addr} {c1 c2 : Nat} {us fs : List Int} {d : Ln} {s : Sl} {V L : Nat}
theorem HV.below (h:HV w m a1 a2 c1 c2 us fs d s V L W) (hb:Bq W W'):HV w m a1 a2 c1 c2 us fs d s V L W':=⟨h.vb.below hb,h.lb.below hb,h.bel.trans (hb.mono h.bel.size)⟩
theorem HV.cells (h:HV w m a1 a2 c1 c2 us fs d s V L W):Ce W V 0 (.string m)/\Ce W V 1 (.slice a1 us.length c1)/\Ce W V 2 (.slice a2 fs.length c2)/\Ce W L 0 (Iv d.ino)/\Ce W L 1 (Iv d.cl)/\Ce W L 2 (Iv d.un)/\Ce W L 3 (.string d.rc)/\Ce W L 4 (.slice s.a1 d.pg.length s.c1)/\Ce W L 5 (.string d.sav)/\Ce W L 6 (.slice s.a2 d.po.length s.c2)/\Ce W L 7 (.slice s.a3 d.fr.length s.c3):=⟨h.vb.c0,h.vb.c1,h.vb.c2,h.lb.c0,h.lb.c1,h.lb.c2,h.lb.c3,h.lb.c4,h.lb.c5,h.lb.c6,h.lb.c7⟩
theorem hv_new (w:World) (m:ByteArray) (a1 a2:Option Addr) (c1 c2:Nat) (us fs:List Int) (d:Ln) (s:Sl):HV w m a1 a2 c1 c2 us fs d s w.heap.size (w.heap.size+1) ((w.alloc (.cells #[.string m,.slice a1 us.length c1,.slice a2 fs.length c2] 139)).alloc (.cells (N1.Lc d s) 46)):=by
 have e:(w.alloc (.cells #[.string m,.slice a1 us.length c1,.slice a2 fs.length c2] 139)).heap.size=w.heap.size+1:=by simp
 have n1:=K0.below_new w (.cells #[.string m,.slice a1 us.length c1,.slice a2 fs.length c2] 139);have n2:=K0.below_new (w.alloc (.cells #[.string m,.slice a1 us.length c1,.slice a2 fs.length c2] 139)) (.cells (N1.Lc d s) 46);have l:=N1.lb_new d s (w.alloc (.cells #[.string m,.slice a1 us.length c1,.slice a2 fs.length c2] 139)) 46;rw[e] at l;exact ⟨(K0.blk_new [.string m,.slice a1 us.length c1,.slice a2 fs.length c2] w 139).below n2,l,n1.trans (n2.mono n1.size)⟩
theorem ne_list {x y:ByteArray} (h:¬ x=y):¬ x.toList=y.toList:=by
 intro h';rw[ByteArray.toList_eq,ByteArray.toList_eq] at h';exact h (ByteArray.ext (Array.toList_inj.1 h'))
theorem eq_list {x y:ByteArray} (h:x=y):x.toList=y.toList:=by rw[h]
theorem pagesOk_left {xs ys:List Int} (h:P0.pagesOk (xs++ys)=true):P0.pagesOk xs=true:=by
 rw[N0.pagesOk_iff] at h ⊢;exact ⟨fun z hz=>h.1 z (List.mem_append.2 (Or.inl hz)),(List.nodup_append.1 h.2).1⟩
theorem view_has (m:ByteArray) (a1 a2:Option Addr) (c1 c2:Nat) (us fs:List Int) (d:Ln) (s:Sl) (w:World) (hm:m.size=768) (hF:Fit d s) (hpo:d.po.length<=1048576) (hfr:d.fr.length<=1048576) (hus:us.length<=1048576) (hfs:fs.length<=1048576) (hR:Lists w d s) (r1:P0.Row w a1 us) (r2:P0.Row w a2 fs) :
  Calls prog 102 #[.agg #[.string m,.slice a1 us.length c1,.slice a2 fs.length c2],N1.val d s] w (Rb (.bool (has m us fs d)) w):=by
 have h0:=hv_new w m a1 a2 c1 c2 us fs d s
 have HLo:Hid (∀ W,Bq w W->Calls prog 121 #[N1.val d s] W (Rb (.bool (N0.loanOk d)) W)):=fun W hb=>N10.impl_LoanOk d s W hF hpo hfr (hR.below hb)
 have HPa:Hid (∀ W,Calls prog 124 #[.string m,Iv (L1.recAt d.ino),Iv 16] W (Rb (.string (O0.recd m d.ino)) W)):=fun W=>B2.impl_Part m (L1.recAt d.ino) 16 W (by omega)
 have HPt:Hid (N0.loanOk d=true->∀ W,Bq w W->Calls prog 140 #[.string m,.slice s.a1 d.pg.length s.c1] W (Rb (.string (O0.joined m d.pg d.pg.length)) W)):=fun hok W hb=>by
  obtain ⟨hI,-,hZ,-,-,-,hp6,-⟩:=N0.loanOk_is hok;exact O1.pagesText m s.a1 s.c1 d.pg W hm (pagesOk_left (N0.loanOk_is hok).2.2.2.2.2.2.2.2.2.1) hp6 (hR.below hb).r1
 have HN1:Hid (∀ W,Bq w W->Calls prog 141 #[.slice s.a3 d.fr.length s.c3,.slice a2 fs.length c2] W (Rw (.bool (N0.apart fs d.fr)) W)):=fun W hb=>KP.noneAmong s.a3 a2 s.c3 c2 d.fr fs W (by omega) (by omega) (hR.below hb).r3 (r2.below hb)
 have HN2:Hid (∀ W,Bq w W->Calls prog 141 #[.slice s.a2 d.po.length s.c2,.slice a1 us.length c1] W (Rw (.bool (N0.apart us d.po)) W)):=fun W hb=>KP.noneAmong s.a2 a1 s.c2 c1 d.po us W (by omega) (by omega) (hR.below hb).r2 (r1.below hb)
 obtain ⟨W2,hW2⟩:∃ W2,(w.alloc (.cells #[.string m,.slice a1 us.length c1,.slice a2 fs.length c2] 139)).alloc (.cells (N1.Lc d s) 46)=W2:=⟨_,rfl⟩;obtain ⟨V,hV⟩:∃ V,w.heap.size=V:=⟨_,rfl⟩;obtain ⟨L,hL⟩:∃ L,w.heap.size+1=L:=⟨_,rfl⟩
 have h1:HV w m a1 a2 c1 c2 us fs d s V L W2.drew:=by
  rw[<- hV,<- hL,<- hW2];exact h0.below ((Below.refl _ _).drew)
 have hsz:(w.alloc (.cells #[.string m,.slice a1 us.length c1,.slice a2 fs.length c2] 139)).heap.size=L:=by rw[<- hL];simp
 clear hR r1 r2 hF h0;unfold has
 cases hok:N0.loanOk d with
 | false=>
  rw[hok] at HLo;clear hok HPt;go_enter func102,ntmps102;go_wp2;have s1:=h1.cells;clear hsz hW2;refine wp_region_held (S:=fun W=>Ce W V 0 (.string m)/\Ce W V 1 (.slice a1 us.length c1)/\Ce W V 2 (.slice a2 fs.length c2)/\Ce W L 0 (Iv d.ino)/\Ce W L 1 (Iv d.cl)/\Ce W L 2 (Iv d.un)/\Ce W L 3 (.string d.rc)/\Ce W L 4 (.slice s.a1 d.pg.length s.c1)/\Ce W L 5 (.string d.sav)/\Ce W L 6 (.slice s.a2 d.po.length s.c2)/\Ce W L 7 (.slice s.a3 d.fr.length s.c3)) (by kernel_rfl) ?_;refine BT.s 0 (N1.val d s) s1 ?_;refine Y0.one_callw (i:=1) (by kernel_rfl) rfl (by rfl) (.tmp 5) _ rfl (N1.val d s) (by rfl) (enters_of func121 (by kernel_rfl) rfl) ((HLo.out _ h1.bel).mono ?_);rintro e w3 ⟨rfl,b3⟩;have h3:=h1.below b3;have s3:=h3.cells;refine ⟨_,rfl,s3,?_⟩;simp only[BZ.z,Act.put,Nat.reduceAdd];refine BT.r 2 (.bool true) s3 ?_;refine BT.r 3 (.bool true) s3 ?_;refine BT.u 4 s3 ?_;refine BT.u 5 s3 ?_;refine BT.u 6 s3 ?_;refine BT.u 7 s3 ?_;refine BT.u 8 s3 ?_;refine BT.u 9 s3 ?_;refine BT.u 10 s3 ?_;refine BT.u 11 s3 ?_;refine BT.u 12 s3 ?_;refine BT.r 13 (.bool true) s3 ?_;refine BT.r 14 (.bool true) s3 ?_;refine BT.u 15 s3 ?_;refine BT.u 16 s3 ?_;refine BT.u 17 s3 ?_;refine BT.u 18 s3 ?_;refine BT.u 19 s3 ?_;refine BT.u 20 s3 ?_;refine BT.u 21 s3 ?_;refine BT.u 22 s3 ?_;refine BT.r 23 (.bool true) s3 ?_;refine wpAnyH_done (by kernel_rfl) ?_ _;go_wp2;go_ret;exact ⟨rfl,h3.bel⟩
 | true=>
  replace HPt:Hid (∀ W,Bq w W->Calls prog 140 #[.string m,.slice s.a1 d.pg.length s.c1] W (Rb (.string (O0.joined m d.pg d.pg.length)) W)):=HPt.out hok;rw[hok] at HLo;clear hok
  by_cases hrc:O0.recd m d.ino=d.rc
  rotate_left
  ·have e1:=ne_list hrc
   rw[decide_eq_false hrc];clear hrc;go_enter func102,ntmps102;go_wp2;have s1:=h1.cells;clear hsz hW2;refine wp_region_held (S:=fun W=>Ce W V 0 (.string m)/\Ce W V 1 (.slice a1 us.length c1)/\Ce W V 2 (.slice a2 fs.length c2)/\Ce W L 0 (Iv d.ino)/\Ce W L 1 (Iv d.cl)/\Ce W L 2 (Iv d.un)/\Ce W L 3 (.string d.rc)/\Ce W L 4 (.slice s.a1 d.pg.length s.c1)/\Ce W L 5 (.string d.sav)/\Ce W L 6 (.slice s.a2 d.po.length s.c2)/\Ce W L 7 (.slice s.a3 d.fr.length s.c3)) (by kernel_rfl) ?_;refine BT.s 0 (N1.val d s) s1 ?_;refine Y0.one_callw (i:=1) (by kernel_rfl) rfl (by rfl) (.tmp 5) _ rfl (N1.val d s) (by rfl) (enters_of func121 (by kernel_rfl) rfl) ((HLo.out _ h1.bel).mono ?_);rintro e w3 ⟨rfl,b3⟩;have h3:=h1.below b3;have s3:=h3.cells;refine ⟨_,rfl,s3,?_⟩;simp only[BZ.z,Act.put,Nat.reduceAdd];refine BT.r 2 (.bool false) s3 ?_;refine BT.r 3 (.bool false) s3 ?_;refine BT.s 4 (Pv V 0) s3 ?_;refine BT.s 5 (.string m) s3 ?_;refine BT.s 6 (Pv L 0) s3 ?_;refine BT.s 7 (Iv d.ino) s3 ?_;refine BT.s 10 (Pv L 3) s3 ?_;refine BT.s 11 (.string d.rc) s3 ?_;refine Y0.one_callw (i:=8) (by kernel_rfl) rfl (by rfl) (.tmp 12) _ rfl (Iv d.ino) (by rfl) (enters_of func123 (by kernel_rfl) rfl) ((L1.impl_RecAt d.ino _).mono ?_);rintro e w4 ⟨rfl,rfl⟩;refine ⟨_,rfl,s3,?_⟩;simp only[BZ.z,Act.put,Nat.reduceAdd]
   refine Y0.one_call3w (i:=9) (by kernel_rfl) rfl (by rfl) (.tmp 10) (.tmp 13) (.const (Iv 16)) _ rfl (.string m) (Iv (L1.recAt d.ino)) (Iv 16) (by rfl) (by rfl) (by rfl) (enters_of func124 (by kernel_rfl) rfl) ((HPa.out _).mono ?_);rintro e w5 ⟨rfl,b5⟩;have h5:=h3.below b5;have s5:=h5.cells;refine ⟨_,rfl,s5,?_⟩;simp only[BZ.z,Act.put,Nat.reduceAdd];refine BT.s 12 (.bool true) s5 ?_;refine BT.r 13 (.bool true) s5 ?_;refine BT.r 14 (.bool true) s5 ?_;refine BT.u 15 s5 ?_;refine BT.u 16 s5 ?_;refine BT.u 17 s5 ?_;refine BT.u 18 s5 ?_;refine BT.u 19 s5 ?_;refine BT.u 20 s5 ?_;refine BT.u 21 s5 ?_;refine BT.u 22 s5 ?_;refine BT.r 23 (.bool true) s5 ?_;refine wpAnyH_done (by kernel_rfl) ?_ _;go_wp2;go_ret;exact ⟨rfl,h5.bel⟩
  ·have e1:=eq_list hrc
   rw[decide_eq_true hrc];clear hrc
   by_cases hsv:O0.joined m d.pg d.pg.length=d.sav
   rotate_left
   ·have e2:=ne_list hsv
    rw[decide_eq_false hsv];clear hsv;go_enter func102,ntmps102;go_wp2;have s1:=h1.cells;clear hsz hW2;refine wp_region_held (S:=fun W=>Ce W V 0 (.string m)/\Ce W V 1 (.slice a1 us.length c1)/\Ce W V 2 (.slice a2 fs.length c2)/\Ce W L 0 (Iv d.ino)/\Ce W L 1 (Iv d.cl)/\Ce W L 2 (Iv d.un)/\Ce W L 3 (.string d.rc)/\Ce W L 4 (.slice s.a1 d.pg.length s.c1)/\Ce W L 5 (.string d.sav)/\Ce W L 6 (.slice s.a2 d.po.length s.c2)/\Ce W L 7 (.slice s.a3 d.fr.length s.c3)) (by kernel_rfl) ?_;refine BT.s 0 (N1.val d s) s1 ?_;refine Y0.one_callw (i:=1) (by kernel_rfl) rfl (by rfl) (.tmp 5) _ rfl (N1.val d s) (by rfl) (enters_of func121 (by kernel_rfl) rfl) ((HLo.out _ h1.bel).mono ?_);rintro e w3 ⟨rfl,b3⟩;have h3:=h1.below b3;have s3:=h3.cells;refine ⟨_,rfl,s3,?_⟩;simp only[BZ.z,Act.put,Nat.reduceAdd];refine BT.r 2 (.bool false) s3 ?_;refine BT.r 3 (.bool false) s3 ?_;refine BT.s 4 (Pv V 0) s3 ?_;refine BT.s 5 (.string m) s3 ?_;refine BT.s 6 (Pv L 0) s3 ?_;refine BT.s 7 (Iv d.ino) s3 ?_;refine BT.s 10 (Pv L 3) s3 ?_;refine BT.s 11 (.string d.rc) s3 ?_;refine Y0.one_callw (i:=8) (by kernel_rfl) rfl (by rfl) (.tmp 12) _ rfl (Iv d.ino) (by rfl) (enters_of func123 (by kernel_rfl) rfl) ((L1.impl_RecAt d.ino _).mono ?_);rintro e w4 ⟨rfl,rfl⟩;refine ⟨_,rfl,s3,?_⟩;simp only[BZ.z,Act.put,Nat.reduceAdd]
    refine Y0.one_call3w (i:=9) (by kernel_rfl) rfl (by rfl) (.tmp 10) (.tmp 13) (.const (Iv 16)) _ rfl (.string m) (Iv (L1.recAt d.ino)) (Iv 16) (by rfl) (by rfl) (by rfl) (enters_of func124 (by kernel_rfl) rfl) ((HPa.out _).mono ?_);rintro e w5 ⟨rfl,b5⟩;have h5:=h3.below b5;have s5:=h5.cells;refine ⟨_,rfl,s5,?_⟩;simp only[BZ.z,Act.put,Nat.reduceAdd];refine BT.s 12 (.bool false) s5 ?_;refine BT.r 13 (.bool false) s5 ?_;refine BT.r 14 (.bool false) s5 ?_;refine BT.s 15 (Pv V 0) s5 ?_;refine BT.s 16 (.string m) s5 ?_;refine BT.s 17 (Pv L 4) s5 ?_;refine BT.s 18 (.slice s.a1 d.pg.length s.c1) s5 ?_;refine BT.s 20 (Pv L 5) s5 ?_;refine BT.s 21 (.string d.sav) s5 ?_;refine Y0.one_call2w (i:=19) (by kernel_rfl) rfl (by rfl) (.tmp 21) (.tmp 23) _ rfl (.string m) (.slice s.a1 d.pg.length s.c1) (by rfl) (by rfl) (enters_of func140 (by kernel_rfl) rfl) ((HPt.out _ h5.bel).mono ?_);rintro e w6 ⟨rfl,b6⟩;have h6:=h5.below b6;have s6:=h6.cells;refine ⟨_,rfl,s6,?_⟩;simp only[BZ.z,Act.put,Nat.reduceAdd];refine BT.s 22 (.bool true) s6 ?_;refine BT.r 23 (.bool true) s6 ?_;refine wpAnyH_done (by kernel_rfl) ?_ _;go_wp2;go_ret;exact ⟨rfl,h6.bel⟩
   ·have e2:=eq_list hsv
    rw[decide_eq_true hsv];clear hsv;cases hap:N0.apart fs d.fr
    all_goals
     rw[hap] at HN1;go_enter func102,ntmps102;go_wp2;have s1:=h1.cells;clear hsz hW2;refine wp_region_held (S:=fun W=>Ce W V 0 (.string m)/\Ce W V 1 (.slice a1 us.length c1)/\Ce W V 2 (.slice a2 fs.length c2)/\Ce W L 0 (Iv d.ino)/\Ce W L 1 (Iv d.cl)/\Ce W L 2 (Iv d.un)/\Ce W L 3 (.string d.rc)/\Ce W L 4 (.slice s.a1 d.pg.length s.c1)/\Ce W L 5 (.string d.sav)/\Ce W L 6 (.slice s.a2 d.po.length s.c2)/\Ce W L 7 (.slice s.a3 d.fr.length s.c3)) (by kernel_rfl) ?_;refine BT.s 0 (N1.val d s) s1 ?_;refine Y0.one_callw (i:=1) (by kernel_rfl) rfl (by rfl) (.tmp 5) _ rfl (N1.val d s) (by rfl) (enters_of func121 (by kernel_rfl) rfl) ((HLo.out _ h1.bel).mono ?_);rintro e w3 ⟨rfl,b3⟩;have h3:=h1.below b3;have s3:=h3.cells;refine ⟨_,rfl,s3,?_⟩;simp only[BZ.z,Act.put,Nat.reduceAdd];refine BT.r 2 (.bool false) s3 ?_;refine BT.r 3 (.bool false) s3 ?_;refine BT.s 4 (Pv V 0) s3 ?_;refine BT.s 5 (.string m) s3 ?_;refine BT.s 6 (Pv L 0) s3 ?_;refine BT.s 7 (Iv d.ino) s3 ?_;refine BT.s 10 (Pv L 3) s3 ?_;refine BT.s 11 (.string d.rc) s3 ?_;refine Y0.one_callw (i:=8) (by kernel_rfl) rfl (by rfl) (.tmp 12) _ rfl (Iv d.ino) (by rfl) (enters_of func123 (by kernel_rfl) rfl) ((L1.impl_RecAt d.ino _).mono ?_);rintro e w4 ⟨rfl,rfl⟩;refine ⟨_,rfl,s3,?_⟩;simp only[BZ.z,Act.put,Nat.reduceAdd]
     refine Y0.one_call3w (i:=9) (by kernel_rfl) rfl (by rfl) (.tmp 10) (.tmp 13) (.const (Iv 16)) _ rfl (.string m) (Iv (L1.recAt d.ino)) (Iv 16) (by rfl) (by rfl) (by rfl) (enters_of func124 (by kernel_rfl) rfl) ((HPa.out _).mono ?_);rintro e w5 ⟨rfl,b5⟩;have h5:=h3.below b5;have s5:=h5.cells;refine ⟨_,rfl,s5,?_⟩;simp only[BZ.z,Act.put,Nat.reduceAdd];refine BT.s 12 (.bool false) s5 ?_;refine BT.r 13 (.bool false) s5 ?_;refine BT.r 14 (.bool false) s5 ?_;refine BT.s 15 (Pv V 0) s5 ?_;refine BT.s 16 (.string m) s5 ?_;refine BT.s 17 (Pv L 4) s5 ?_;refine BT.s 18 (.slice s.a1 d.pg.length s.c1) s5 ?_;refine BT.s 20 (Pv L 5) s5 ?_;refine BT.s 21 (.string d.sav) s5 ?_;refine Y0.one_call2w (i:=19) (by kernel_rfl) rfl (by rfl) (.tmp 21) (.tmp 23) _ rfl (.string m) (.slice s.a1 d.pg.length s.c1) (by rfl) (by rfl) (enters_of func140 (by kernel_rfl) rfl) ((HPt.out _ h5.bel).mono ?_);rintro e w6 ⟨rfl,b6⟩;have h6:=h5.below b6;have s6:=h6.cells;refine ⟨_,rfl,s6,?_⟩;simp only[BZ.z,Act.put,Nat.reduceAdd];refine BT.s 22 (.bool false) s6 ?_;refine BT.r 23 (.bool false) s6 ?_;refine wpAnyH_done (by kernel_rfl) ?_ _;have y7:=h6.lb.c7;have y6:=h6.lb.c6;have x1:=h6.vb.c1;have x2:=h6.vb.c2
     go_wp2_with (first
      | (go_at_call 141;refine (HN1.out _ h6.bel).mono ?_;rintro e w' ⟨rfl,rfl⟩;clear HN1)
      | (go_at_call 141;refine (HN2.out _ h6.bel).mono ?_;rintro e w' ⟨rfl,rfl⟩))
     go_ret;exact ⟨rfl,h6.bel⟩
end KH
namespace MW
open N0 (Ln)
open N1 (Sl)
open Z0 (dat Kp kval kvals)
open Z2 (Pl)
open LF (Wr Btw)
open LG (Sh)
theorem markLoanS (g hi:Nat) (ds:List Ln) (P:Nat->Pl) (L:List Value) (w:World) (hn:ds.length<=1048576) (hz:∀ j,j<ds.length->(dat ds j).pg.length<=1048576/\(dat ds j).po.length<=1048576/\(dat ds j).fr.length<=1048576) (h:Sh g hi ds P L w) :
  Calls prog 26 #[Sv g ds.length ds.length,Iv 1] w fun e w'=>(∃ q:Nat,q<=4000000000000/\e=.returned (Iv (q:Int)))/\Btw g hi w w':=by
 have hghi:=h.lt;go_enter func26,ntmps26;go_wp2
 go_loopw [1,5] (fun q i w'=>∃ (k m:Nat) (L:List Value),k<=ds.length/\i=Iv k/\q=Iv (m:Int)/\1<=m/\m<=1+k*3145733/\Sh g hi ds P L w'/\Btw g hi w w') (fun _ i _=>ds.length-(intOf i).toNat)
 case atStart=>exact ⟨0,1,L,Nat.zero_le _,rfl,rfl,Nat.le_refl _,by omega,h,Btw.refl _ _ _⟩
 case round=>
  obtain ⟨k,m,L1,hk,rfl,rfl,hm1,hmk,hS,hgr⟩:=hrel;clear h
  by_cases hlt:k<ds.length
  ·have e1:(0:Int)<=(k:Int):=by omega
   have e2:(k:Int)<(ds.length:Int):=by omega
   obtain ⟨z1,z2,z3⟩:=hz k hlt;obtain ⟨p1,q1,-⟩:=hS.w1 k hlt;obtain ⟨p2,q2,-⟩:=hS.w2 k hlt;obtain ⟨p3,q3,-⟩:=hS.w3 k hlt
   have hm2:m<=4000000000000:=by
    have:k*3145733<=1048576*3145733:=Nat.mul_le_mul_right _ (by omega);omega
   have HT:Hid (∀ L W,Sh g hi ds P L W->Sh g hi ds P L W):=fun _ _ x=>x
   obtain ⟨⟨x0,y0⟩,f0⟩:=hS.old (o:=k*8) (by omega);obtain ⟨⟨x1,y1⟩,f1⟩:=hS.old (o:=k*8+1) (by omega);obtain ⟨⟨x2,y2⟩,f2⟩:=hS.old (o:=k*8+2) (by omega);have S3:=((hS.set (o:=k*8) (k:=k) (r:=0) rfl (by omega) (Iv (m:Int))).set (o:=k*8+1) (k:=k) (r:=1) rfl (by omega) (Iv ((m:Int)+1))).set (o:=k*8+2) (k:=k) (r:=2) rfl (by omega) (Iv ((m:Int)+1+1));have G3:=((hgr.set (p:=⟨g,k*8,none⟩) (Nat.le_refl _) hghi (Iv (m:Int))).set (p:=⟨g,k*8+1,none⟩) (Nat.le_refl _) hghi (Iv ((m:Int)+1))).set (p:=⟨g,k*8+2,none⟩) (Nat.le_refl _) hghi (Iv ((m:Int)+1+1));have HZ:Hid (m<=1+k*3145733):=hmk;clear hS hgr hz hmk;obtain ⟨n1,en1⟩:∃ n,(dat ds k).pg.length=n:=⟨_,rfl⟩;obtain ⟨n2,en2⟩:∃ n,(dat ds k).po.length=n:=⟨_,rfl⟩;obtain ⟨n3,en3⟩:∃ n,(dat ds k).fr.length=n:=⟨_,rfl⟩;obtain ⟨b1,eb1⟩:∃ b,(P k).g1=b:=⟨_,rfl⟩;obtain ⟨b2,eb2⟩:∃ b,(P k).g2=b:=⟨_,rfl⟩;obtain ⟨b3,eb3⟩:∃ b,(P k).g3=b:=⟨_,rfl⟩
   have H1:Hid (∀ L W,Sh g hi ds P L W->Ce W g (k*8+4) (Sv b1 n1 n1)/\Wr b1 n1 W):=fun L W hs=>⟨by have:=hs.c4 hlt;rwa [en1,eb1] at this,by have:=(hs.w1 k hlt).2.2;rwa [en1,eb1] at this⟩
   have H2:Hid (∀ L W,Sh g hi ds P L W->Ce W g (k*8+6) (Sv b2 n2 n2)/\Wr b2 n2 W):=fun L W hs=>⟨by have:=hs.c6 hlt;rwa [en2,eb2] at this,by have:=(hs.w2 k hlt).2.2;rwa [en2,eb2] at this⟩
   have H3:Hid (∀ L W,Sh g hi ds P L W->Ce W g (k*8+7) (Sv b3 n3 n3)/\Wr b3 n3 W):=fun L W hs=>⟨by have:=hs.c7 hlt;rwa [en3,eb3] at this,by have:=(hs.w3 k hlt).2.2;rwa [en3,eb3] at this⟩
   rw[en1] at z1;rw[en2] at z2;rw[en3] at z3;rw[eb1] at p1 q1;rw[eb2] at p2 q2;rw[eb3] at p3 q3;clear en1 en2 en3 eb1 eb2 eb3
   go_wp2_with (first
    | (go_at_call 11;have G8':=G7;refine (LG.mark_one (g:=g) (hi:=hi) (k:=m+5+n1+n2) (by omega) p3 q3 hw7 z3 (by omega)).mono ?_;rintro e w8 ⟨rfl,t8⟩;have S8:=S7.btw t8 (Nat.lt_succ_self _);have G8:=G7.trans (t8.mono (Nat.le_succ _) (Nat.le_refl _)))
    | (go_at_call 11;have G7':=G6;refine (LG.mark_one (g:=g) (hi:=hi) (k:=m+5+n1) (by omega) p2 q2 hw6 z2 (by omega)).mono ?_;rintro e w7 ⟨rfl,t7⟩;have S7:=S6.btw t7 (Nat.lt_succ_self _);have G7:=G6.trans (t7.mono (Nat.le_succ _) (Nat.le_refl _));obtain ⟨c7,hw7⟩:=H3.out _ _ S7)
    | (go_at_call 56;have G6':=G5;refine (LG.mark_text (v:=m+4+n1) (by omega) (by omega) (by omega) _).mono ?_;rintro e w6 ⟨rfl,l6⟩;have S6a:=S5.below l6;have G6a:=G5.then l6;obtain ⟨⟨x5,y5⟩,f5⟩:=S6a.old (o:=k*8+5) (by omega);have S6:=S6a.set (o:=k*8+5) (k:=k) (r:=5) rfl (by omega) (.string (M1.mt (m+4+n1)));have G6:=G6a.set (p:=⟨g,k*8+5,none⟩) (Nat.le_refl _) hghi (.string (M1.mt (m+4+n1)));obtain ⟨c6,hw6⟩:=H2.out _ _ S6)
    | (go_at_call 11;have G5':=G4;refine (LG.mark_one (g:=g) (hi:=hi) (k:=m+4) (by omega) p1 q1 hw4 z1 (by omega)).mono ?_;rintro e w5 ⟨rfl,t5⟩;have S5:=S4.btw t5 (Nat.lt_succ_self _);have G5:=G4.trans (t5.mono (Nat.le_succ _) (Nat.le_refl _)))
    | (go_at_call 56;refine (LG.mark_text (v:=m+3) (by omega) (by omega) (by omega) _).mono ?_;rintro e w4 ⟨rfl,l4⟩;have S4a:=S3.below l4;have G4a:=G3.then l4;obtain ⟨⟨x3,y3⟩,f3⟩:=S4a.old (o:=k*8+3) (by omega);have S4:=S4a.set (o:=k*8+3) (k:=k) (r:=3) rfl (by omega) (.string (M1.mt (m+3)));have G4:=G4a.set (p:=⟨g,k*8+3,none⟩) (Nat.le_refl _) hghi (.string (M1.mt (m+3)));obtain ⟨c4,hw4⟩:=H1.out _ _ S4))
   go_roundw
   case rel=>
    have hz0:=HZ.out;exact ⟨k+1,m+5+n1+n2+n3,_,by omega,by go_num,by go_num,by omega,by omega,S8,G8⟩
   case measure=>simp[intOf];omega
  ·obtain rfl:k=ds.length:=by omega
   have hfin:m<=4000000000000:=by
    have:ds.length*3145733<=1048576*3145733:=Nat.mul_le_mul_right _ hn;omega
   clear hS;go_wp2;go_ret;exact ⟨⟨m,hfin,rfl⟩,hgr⟩
theorem markKeeper (g hi:Nat) (k:Kp) (P:Nat->Pl) (L:List Value) (w:World) (hn:k.ds.length<=1048576) (hz:∀ j,j<k.ds.length->(dat k.ds j).pg.length<=1048576/\(dat k.ds j).po.length<=1048576/\(dat k.ds j).fr.length<=1048576) (h:Sh g hi k.ds P L w) :
  Calls prog 10 #[kval k (some ⟨g,0,none⟩) k.ds.length,Iv 1] w fun e w'=>(∃ q:Nat,q<=4000000000000/\e=.returned (Iv (q:Int)))/\Btw g hi w w':=by
 have k0:=K0.blk_new (kvals k (some ⟨g,0,none⟩) k.ds.length) w 31;have l0:=K0.below_new w (.cells #[.string k.mem,.string k.dur,Sv g k.ds.length k.ds.length,Iv k.ck] 31);have h0:=h.below l0;have m0:=markLoanS g hi k.ds P L _ hn hz h0;have c2:=k0.c2;clear h h0 hz;go_enter func10,ntmps10
 go_wp2_with (go_at_call 26;refine m0.mono ?_;rintro e w1 ⟨⟨q,hq,rfl⟩,b1⟩)
 go_ret;exact ⟨⟨q,hq,rfl⟩,(Btw.ofBelow l0).trans b1⟩
end MW
end Go.Proofs.YtlejhfnjmkdobaaGreatDoor
