/- Joined texts. -/
import Derived.Test.YtlejhfnjmkdobaaGreatDoorJtZB
set_option linter.unusedVariables false
set_option linter.unusedSimpArgs false
set_option maxRecDepth 10000
set_option maxHeartbeats 16000000
namespace Go.Proofs.YtlejhfnjmkdobaaGreatDoor
open ChangeShapes WideShapes ChangeAt RowKit
open Go.Proofs.Tryz
namespace TW
variable {B : Nat} {N : Nat → Nd} {F : Nat → Nat} {P : Nat → ByteArray} {w W W' : World} {mem : ByteArray}
theorem readTree (mem:ByteArray) (w:World) (hms:mem.size<=281474976710656):Calls prog 137 #[.string mem] w (Ans mem w):=by
 have HN:Hid (∀ w',sound mem=false->Bq w w'->Ans mem w (.returned (.tuple #[.pointer none,.bool false])) w'):=fun w' h hb=>ans_no h hb
 by_cases hm:mem.size=768
 ·have hz:sound mem=(headOk mem && (nodesOk mem && ((tK mem 0 == 2) && (decide (cat (tZ mem) 8).Nodup && TR.treeOk (tE mem) (tK mem))))):=by
   unfold sound;rw[decide_eq_true hm,Bool.true_and]
  have hpt:Hid (∀ W,Calls prog 124 #[.string mem,Iv 0,Iv 32] W (Rb (.string (B2.part mem 0 32)) W)):=fun W=>B2.impl_Part _ _ _ _ hms
  have hzr:Hid (∀ W,_):=fun W=>B4.impl_Zeros 32 W
  have hwt:Hid (∀ W,Calls prog 122 #[.string (B4.zeros 32),Iv 0,.string ⟨#[84,78,82,49]⟩] W (Rb (.string hd) W)):=fun W=>by
   have:=B5.impl_With (B4.zeros 32) 0 ⟨#[84,78,82,49]⟩ W (by decide +kernel) (show 4<=281474976710656 by omega);rw[hd_laid] at this;exact this
  have hho:headOk mem=((B2.part mem 0 32).toList == hd.toList):=rfl;obtain ⟨Q,hQ⟩:∃ Q,B2.part mem 0 32=Q:=⟨_,rfl⟩;obtain ⟨zz,hzz⟩:∃ zz,B4.zeros 32=zz:=⟨_,rfl⟩;obtain ⟨hh,hhh⟩:∃ hh,hd=hh:=⟨_,rfl⟩;rw[hQ] at hpt hho;rw[hhh] at hwt hho;rw[hzz] at hzr hwt
  have e768:((mem.size:Int) != 768)=false:=by simp;omega
  clear hQ hzz hhh
  cases hH:headOk mem with
  | false=>
   rw[hH] at hho;rw[hH,Bool.false_and] at hz;have hne:(Q.toList == hh.toList)=false:=hho.symm;clear hho hH;go_enter func137,ntmps137
   go_wp2_with (first
    | (go_at_call 124;refine (hpt.out _).mono ?_;rintro e w1 ⟨rfl,b1⟩)
    | (go_at_call 125;refine (hzr.out _).mono ?_;rintro e w2 ⟨rfl,b2⟩)
    | (go_at_call 122;refine (hwt.out _).mono ?_;rintro e w3 ⟨rfl,b3⟩))
   go_ret2
   exact HN.out _ hz ((b1.trans (b2.mono b1.size)).trans (b3.mono (Nat.le_trans b1.size b2.size)))
  | true=>
   rw[hH] at hho;rw[hH,Bool.true_and] at hz;have hne:(Q.toList == hh.toList)=true:=hho.symm;have hz0:=(zero_of_info zeroTree).1
   have hrd0:Hid (∀ W:World,Rd mem W 0 (fun _=>zeroN) (W.alloc (.cells zcells.toArray 220))):=fun W=>rd_new mem W
   obtain ⟨ZC,hZC⟩:∃ ZC,zcells.toArray=ZC:=⟨_,rfl⟩;rw[hZC] at hz0 hrd0;have HZ:Hid (sound mem=(nodesOk mem && ((tK mem 0 == 2) && (decide (cat (tZ mem) 8).Nodup && TR.treeOk (tE mem) (tK mem))))):=hz;clear hho hH hZC hz;go_enter func137,ntmps137
   go_wp2_with (first
    | (go_at_call 124;refine (hpt.out _).mono ?_;rintro e w1 ⟨rfl,b1⟩)
    | (go_at_call 125;refine (hzr.out _).mono ?_;rintro e w2 ⟨rfl,b2⟩)
    | (go_at_call 122;refine (hwt.out _).mono ?_;rintro e w3 ⟨rfl,b3⟩))
   have l3:Bq w w3:=(b1.trans (b2.mono b1.size)).trans (b3.mono (Nat.le_trans b1.size b2.size));have r0:=hrd0.out w3;clear b1 b2 b3 hpt hzr hwt hz0 hrd0 hne
   go_loopw [20] (fun i W=>∃ (k:Nat) (N:Nat->Nd),k<=8/\i=Iv k/\N0.to (fun i=>D1.nodeOk mem (i:Int)) k=true/\Rd mem w3 k N W) (fun i _=>8-(intOf i).toNat)
   case atStart=>exact ⟨0,_,Nat.zero_le _,rfl,rfl,r0⟩
   case round=>
    obtain ⟨k,N,hk,rfl,hok,rd⟩:=hrel;clear r0
    by_cases hlt:k<8
    ·have e1:(0:Int)<=(k:Int):=by omega
     have e2:(k:Int)<8:=by omega
     have hrn:Hid (∀ W,Calls prog 169 #[.string mem,Iv (k:Int)] W fun e w'=>∃ (q o t:Int) (a:Option Addr) (n c:Nat) (x:ByteArray) (ae:Option Addr) (ne ce:Nat),e=.returned (.tuple #[.agg #[Iv q,Iv o,Iv t,.slice a n c,.string x,.slice ae ne ce],.bool (D1.nodeOk mem (k:Int))])/\Bq W w'/\(D1.nodeOk mem (k:Int)=true->∀ B,B<W.heap.size->NdOk mem B k ⟨q,o,t,a,n,c,x,ae,ne,ce⟩ w')):=fun W=>
      (D1.readNode2 mem (k:Int) W hm).mono fun e w' ⟨q,o,t,a,n,c,x,ae,ne,ce,he,hb,hy⟩=>⟨q,o,t,a,n,c,x,ae,ne,ce,he,hb,fun h B hB=>by
       obtain ⟨h1,h2,h3,h4,h5,h6,h7,h8,h9⟩:=hy h
       exact ⟨h1,h2,h3,h4,h5.mono hB,h6,h7,h8.mono hB,h9⟩⟩
     cases hnk:D1.nodeOk mem (k:Int) with
     | false=>
      rw[hnk] at hrn
      have HR:Hid (sound mem=false):=by
       show sound mem=false
       rw[HZ.out,nodesOk,N0.to_bad hlt hnk,Bool.false_and]
      clear hnk hok hm
      go_wp2_with (go_at_call 169;refine (hrn.out _).mono ?_;rintro e w4 ⟨q,o,t,a,n,c,x,ae,ne,ce,rfl,b4,-⟩)
      go_ret2
      exact HN.out _ HR.out (l3.trans ((((rd.below b4).bel).alloc (Nat.le_trans rd.bel.size b4.size) _).mono l3.size))
     | true=>
      rw[hnk] at hrn;have HO:Hid (N0.to (fun i=>D1.nodeOk mem (i:Int)) (k+1)=true):=N0.to_step hok hnk;clear hnk hok hm
      go_wp2_with (go_at_call 169;refine (hrn.out _).mono ?_;rintro e w4 ⟨q,o,t,a,n,c,x,ae,ne,ce,rfl,b4,hy⟩)
      have rd5:=(rd.below b4).below (K0.below_new w4 (.cells #[Iv q,Iv o,Iv t,.slice a n c,.string x,.slice ae ne ce] 215));have nd5:NdOk mem w3.heap.size k ⟨q,o,t,a,n,c,x,ae,ne,ce⟩ (w4.alloc (.cells #[Iv q,Iv o,Iv t,.slice a n c,.string x,.slice ae ne ce] 215)):=(hy (by trivial) w3.heap.size (rd.tb.lt)).below (K0.below_new w4 _);have rd6:=rd5.step hlt nd5;have nb:=K0.blk_new [Iv q,Iv o,Iv t,.slice a n c,.string x,.slice ae ne ce] w4 215;obtain ⟨v0,v1,v2,v3,v4,v5⟩:=D1.cells6 nb
      have hany:=fun j hj=>rd5.tb.any (k*6+j) (by omega:k*6+j<64)
      obtain ⟨y0,u0⟩:=hany 0 (by omega);obtain ⟨y1,u1⟩:=hany 1 (by omega);obtain ⟨y2,u2⟩:=hany 2 (by omega);obtain ⟨y3,u3⟩:=hany 3 (by omega);obtain ⟨y4,u4⟩:=hany 4 (by omega);obtain ⟨y5,u5⟩:=hany 5 (by omega);have f0:=rd5.tb.free (k*6) (by omega);have f1:=rd5.tb.free (k*6+1) (by omega);have f2:=rd5.tb.free (k*6+2) (by omega);have f3:=rd5.tb.free (k*6+3) (by omega);have f4:=rd5.tb.free (k*6+4) (by omega);have f5:=rd5.tb.free (k*6+5) (by omega);rw[Nat.add_zero] at u0;have HD:Hid (Rd mem w3 (k+1) (upN N k ⟨q,o,t,a,n,c,x,ae,ne,ce⟩) (putN (w4.alloc (.cells #[Iv q,Iv o,Iv t,.slice a n c,.string x,.slice ae ne ce] 215)) w3.heap.size k ⟨q,o,t,a,n,c,x,ae,ne,ce⟩)):=rd6;clear rd5 nd5 rd6 nb hany hy rd b4 hrn
      go_region
      go_wp2
      go_roundw
      case rel=>exact ⟨k+1,_,by omega,by go_num,HO.out,HD.out.drew⟩
      case measure=>simp[intOf];omega
    ·obtain rfl:k=8:=by omega
     have hz:sound mem=((tK mem 0 == 2) && (decide (cat (tZ mem) 8).Nodup && TR.treeOk (tE mem) (tK mem))):=by
      rw[HZ.out,nodesOk,hok,Bool.true_and]
     have x0:=rd.tb.kind (i:=0) (by decide);rw[(rd.nd 0 (by decide)).k,Nat.zero_mul] at x0;have hpa:=pagesApart wr rd.tb rd.ps;have HR:Hid (Rd mem w3 8 N wr):=rd
     have e88:decide ((8:Int)<8)=false:=by decide
     have hbl:=rd.bel
     by_cases hk2:tK mem 0=2
     ·have HW:Hid (∀ W,Bq wr W->Calls prog 171 #[Pv w3.heap.size 0] W fun e w'=>W.grownBy w' (some w3.heap.size)/\((e=.returned (.bool false)/\TR.treeOk (tE mem) (tK mem)=false)\/(e=.returned (.bool true)/\∃ F P,Tb w3.heap.size N F P w'/\TR.Inv (tE mem) (tK mem) [] F P/\∀ x,F x<=281474976710656))):=fun W hb=>by
       have rd':=rd.below hb;have:=walk W rd'.tb rd'.ns ((rd.nd 0 (by decide)).k.trans hk2);rw[rd.kinds] at this;exact this
      have HF:Hid (∀ W F P,Tb w3.heap.size N F P W->(∀ x,F x<=281474976710656)->Calls prog 172 #[Pv w3.heap.size 0] W (Rw (.bool (TR.onceAll F (tK mem))) W)):=fun W F P h hF=>by
       have:=foundOnce W h (fun i _=>hF i);rw[rd.kinds] at this;exact this
      rw[hk2] at x0
      rw[hk2,show ((2:Int) == 2)=true from rfl,Bool.true_and] at hz
      have HK:Hid (tK mem 0=2):=hk2;clear rd hok hk2
      cases hnd:decide (cat (tZ mem) 8).Nodup with
      | false=>
       rw[hnd] at hpa;rw[hnd,Bool.false_and] at hz;clear hnd
       go_wp2_with (go_at_call 170;refine hpa.mono ?_;rintro e w5 ⟨rfl,b5⟩)
       go_ret2
       exact HN.out _ hz (l3.trans ((hbl.trans (b5.mono hbl.size)).mono l3.size))
      | true=>
       rw[hnd] at hpa;rw[hnd,Bool.true_and] at hz;have HZ2:Hid (sound mem=TR.treeOk (tE mem) (tK mem)):=hz;clear hnd hz
       have HB:Hid (∀ w5 w6,Bq wr w5->w5.grownBy w6 (some w3.heap.size)->Bq w w6):=fun w5 w6 b5 g6=>l3.trans (((hbl.trans (b5.mono hbl.size)).trans (below_gr g6 (Nat.le_refl _) (Nat.le_trans hbl.size b5.size))).mono l3.size)
       cases hto:TR.treeOk (tE mem) (tK mem) with
       | true=>
        have HS:Hid (sound mem=true):=HZ2.out.trans hto
        go_wp2_with (first
         | (go_at_call 170;refine hpa.mono ?_;rintro e w5 ⟨rfl,b5⟩)
         | (go_at_call 171;refine (HW.out _ b5).mono ?_;rintro e w6 ⟨g6,h6⟩;have h7:=h6.resolve_left (fun q=>by rw[hto] at q;exact absurd q.2 (by simp));obtain ⟨rfl,F,P,t6,i6,hF6⟩:=h7;have hfo:=HF.out w6 F P t6 hF6;rw[i6.done (sane_ok mem) HK.out,hto] at hfo)
         | (go_at_call 172;refine hfo.mono ?_;rintro e w7 ⟨rfl,rfl⟩))
        go_ret2
        refine ans_yes HS.out (HB.out _ _ b5 g6) l3.size ⟨t6,fun i hi=>((HR.out.nd i hi).below b5).gr g6,i6⟩
       | false=>
        have HS:Hid (sound mem=false):=HZ2.out.trans hto;have HW2:Hid (∀ W,Bq wr W->Calls prog 171 #[Pv w3.heap.size 0] W fun e w'=>W.grownBy w' (some w3.heap.size)/\((e=.returned (.bool false)/\TR.treeOk (tE mem) (tK mem)=false)\/(e=.returned (.bool true)/\∃ F P,Tb w3.heap.size N F P w'/\TR.Inv (tE mem) (tK mem) [] F P/\∀ x,F x<=281474976710656))):=HW.out
        go_wp2_with (first
         | (go_at_call 170;refine hpa.mono ?_;rintro e w5 ⟨rfl,b5⟩)
         | (go_at_call 171;refine (HW2.out _ b5).mono ?_;rintro e w6 ⟨g6,h6⟩;rcases h6 with ⟨rfl,ht⟩ | ⟨rfl,F,P,t6,i6,hF6⟩))
        ·go_ret2
         exact HN.out _ HS.out (HB.out _ _ b5 g6)
        ·have hfo:=HF.out w6 F P t6 hF6
         rw[i6.done (sane_ok mem) HK.out,hto] at hfo
         go_wp2_with (go_at_call 172;refine hfo.mono ?_;rintro e w7 ⟨rfl,rfl⟩)
         go_ret2
         exact HN.out _ HS.out (HB.out _ _ b5 g6)
     ·have hk2':(tK mem 0 != 2)=true:=by simpa using hk2
      rw[show (tK mem 0 == 2)=false by simpa using hk2,Bool.false_and] at hz;clear rd hpa hok;go_wp2
      go_ret2
      exact HN.out _ hz (l3.trans (hbl.mono l3.size))
 ·have hz:sound mem=false:=by
   unfold sound;rw[decide_eq_false hm,Bool.false_and]
  have e768:((mem.size:Int) != 768)=true:=by simp;omega
  clear hm;go_enter func137,ntmps137;go_wp2
  go_ret2
  exact HN.out _ hz (Below.refl _ _)
end TW
namespace TS
variable {w W W' : World} {mem : ByteArray}
open J0 (IBuf Own)
open TW (tK tZ tE cat nodesOk sound headOk hd)
theorem cat_mem {Z:Nat->List Int} {z:Int}:∀ {n:Nat},z ∈ cat Z n->∃ i,i<n/\z ∈ Z i
 | 0,h=>by simp[cat] at h
 | n+1,h=>by
  rw[cat,List.mem_append] at h
  rcases h with h | h
  ·obtain ⟨i,hi,hz⟩:=cat_mem h
   exact ⟨i,by omega,hz⟩
  ·exact ⟨n,by omega,h⟩
theorem pages_eq (mem:ByteArray):P0.pagesOk (cat (tZ mem) 8)=decide (cat (tZ mem) 8).Nodup:=by
 have hr:∀ z ∈ cat (tZ mem) 8,5<=z/\z<=23:=by
  intro z hz;obtain ⟨i,_,hi⟩:=cat_mem hz;unfold tZ at hi
  cases hI:G0.isI (O0.recd mem (i:Int)) with
  | false=>
   rw[(G0.g_no hI).2.2.2] at hi;simp at hi
  | true=>exact (N0.pagesOk_iff.1 (O0.got hI).2.2.2.1).1 z hi
 apply Bool.eq_iff_iff.2
 rw[N0.pagesOk_iff,decide_eq_true_eq];exact ⟨fun h=>h.2,fun h=>⟨hr,h⟩⟩
theorem par_zero (mem:ByteArray):TR.par (TR.flat (tE mem) 8) 0 = -1:=by
 rw[TR.par_nil];unfold TR.own;rw[List.filter_eq_nil_iff];intro p hp;obtain ⟨i,e⟩:=p;have:=(TW.sane_ok mem).ino i e (TR.flat_mem.1 hp).2;simp;omega
theorem par_lt (mem:ByteArray) (x:Int):TR.par (TR.flat (tE mem) 8) x<8:=by
 rcases TR.par_ge (TR.flat (tE mem) 8) x with h | h | ⟨p,hp,h⟩
 ·omega
 ·omega
 ·have hm:p ∈ TR.own (TR.flat (tE mem) 8) x:=by rw[hp];simp
  obtain ⟨i,e⟩:=p;have:=(TR.flat_mem.1 (List.mem_filter.1 hm).1).1;rw[h];simp only;omega
theorem treeOk_bad {E:Nat->List T0.Ent} {K:Nat->Int} {i:Nat} (h0:0<i) (h8:i<8) (h:TR.oneOk E K i=false):TR.treeOk E K=false:=by
 cases h':TR.treeOk E K with
 | false=>rfl
 | true=>rw[TR.treeOk_iff.1 h' i h0 h8] at h;cases h
theorem spec_Sound (mem:ByteArray) (w:World) (hms:mem.size<=281474976710656):Calls prog 33 #[.string mem] w (Rb (.bool (sound mem)) w):=by
 by_cases hm:mem.size=768
 ·have hz:sound mem=(headOk mem && (nodesOk mem && ((tK mem 0 == 2) && (decide (cat (tZ mem) 8).Nodup && TR.treeOk (tE mem) (tK mem))))):=by
   unfold sound;rw[decide_eq_true hm,Bool.true_and]
  have hpt:Hid (∀ W,Calls prog 58 #[.string mem,Iv 0,Iv 32] W (Rw (.string (B2.part mem 0 32)) W)):=fun W=>B2.spec_Part _ _ _ _ (by unfold maxLen;omega) (by decide) (by decide)
  have hzr:Hid (∀ W,_):=fun W=>B4.spec_Zeros 28 W
  have hzs:(B4.zeros 28).size=28:=by decide +kernel
  have hadd:(⟨#[84,78,82,49]⟩:ByteArray)++B4.zeros 28=hd:=rfl;have hho:headOk mem=((B2.part mem 0 32).toList == hd.toList):=rfl;obtain ⟨Q,hQ⟩:∃ Q,B2.part mem 0 32=Q:=⟨_,rfl⟩;obtain ⟨zz,hzz⟩:∃ zz,B4.zeros 28=zz:=⟨_,rfl⟩;obtain ⟨hh,hhh⟩:∃ hh,hd=hh:=⟨_,rfl⟩;rw[hQ] at hpt hho;rw[hhh] at hadd hho;rw[hzz] at hzr hadd hzs
  have e768:((mem.size:Int) != 768)=false:=by simp;omega
  have hsz1:¬ (9223372036854775807<4+zz.size):=by omega
  clear hQ hzz hhh
  cases hH:headOk mem with
  | false=>
   rw[hH] at hho;rw[hH,Bool.false_and] at hz;have hne:(Q.toList == hh.toList)=false:=hho.symm;rw[hz];clear hho hH hz;go_enter func33,ntmps33
   go_wp2_with (first
    | (go_at_call 58;refine (hpt.out _).mono ?_;rintro e w1 ⟨rfl,rfl⟩)
    | (go_at_call 47;refine (hzr.out _).mono ?_;rintro e w2 ⟨rfl,rfl⟩))
   go_ret;exact ⟨rfl,Below.refl _ _⟩
  | true=>
   rw[hH] at hho;rw[hH,Bool.true_and] at hz;have hne:(Q.toList == hh.toList)=true:=hho.symm
   have how:Hid (∀ W,_):=fun W=>l04Owned mem W hms
   have hlen:=TW.cat_len (TW.pg_few mem) 8
   have hpg:Hid (∀ W a c,(cat (tZ mem) 8).length<=c->P0.Row W a (cat (tZ mem) 8)->Calls prog 59 #[.slice a (cat (tZ mem) 8).length c] W fun e w'=>e=.returned (.bool (decide (cat (tZ mem) 8).Nodup))/\∃ n,w'=W.drewN n):=fun W a c hc hR=>by
    rw[<- pages_eq];exact P1.l03Pages a c _ W (by omega) hc hR
   obtain ⟨zs,hzs'⟩:∃ zs,cat (tZ mem) 8=zs:=⟨_,rfl⟩;rw[hzs'] at how hpg hz;clear hho hH hlen hzs'
   cases hnd:decide zs.Nodup with
   | false=>
    rw[hnd] at hpg;rw[hnd,Bool.false_and,Bool.and_false,Bool.and_false] at hz;rw[hz];clear hnd hz;go_enter func33,ntmps33
    go_wp2_with (first
     | (go_at_call 58;refine (hpt.out _).mono ?_;rintro e w1 ⟨rfl,rfl⟩)
     | (go_at_call 47;refine (hzr.out _).mono ?_;rintro e w2 ⟨rfl,rfl⟩)
     | (go_at_call 60;refine (how.out _).mono ?_;rintro e w3 ⟨a3,c3,rfl,hc3,o3,b3⟩)
     | (go_at_call 59;refine (hpg.out _ _ _ hc3 o3.row).mono ?_;rintro e w4 ⟨rfl,n4,rfl⟩))
    go_ret;exact ⟨rfl,K0.below_drewN b3 n4⟩
   | true=>
    rw[hnd] at hpg;rw[hnd,Bool.true_and] at hz
    have hpa:Hid (∀ W,_):=fun W=>l04Parents mem W hm
    have hPA:Hid (∀ W e w',Par mem W e w'->∃ a1 c1 a2 c2,e=.returned (.tuple #[.slice a1 8 c1,.slice a2 8 c2,.bool (nodesOk mem)])/\Bq W w'/\(nodesOk mem=true->∃ g1 g2,a1=some ⟨g1,0,none⟩/\a2=some ⟨g2,0,none⟩/\Pr W g1 g2 (TR.flat (tE mem) 8) w')):=fun W e w' h=>h
    have hLo:Hid (∀ (k:Nat) W,Calls prog 61 #[.string mem,Iv (k:Int)] W fun e w'=>∃ (o s:Int) (a:Option Addr) (n c:Nat) (x:ByteArray) (bb:Bool),e=.returned (.tuple #[.agg (Iq (tK mem k) o s a n c),.string x,.bool bb])/\Bq W w'):=fun k W=>(O3.spec_Load mem (k:Int) W hms).mono fun e w' ⟨a,c,he,ho,hc,hb⟩=>⟨_,_,a,_,c,_,_,by rw[tK,<- lK_eq hm];exact he,hb⟩
    have hL0:Hid (∀ W,_):=fun W=>hLo.out 0 W
    clear hnd
    cases hno:nodesOk mem with
    | false=>
     rw[hno] at hPA;rw[hno,Bool.false_and] at hz;rw[hz];clear hno hz hLo;go_enter func33,ntmps33
     go_wp2_with (first
      | (go_at_call 58;refine (hpt.out _).mono ?_;rintro e w1 ⟨rfl,rfl⟩)
      | (go_at_call 47;refine (hzr.out _).mono ?_;rintro e w2 ⟨rfl,rfl⟩)
      | (go_at_call 60;refine (how.out _).mono ?_;rintro e w3 ⟨a3,c3,rfl,hc3,o3,b3⟩)
      | (go_at_call 59;refine (hpg.out _ _ _ hc3 o3.row).mono ?_;rintro e w4 ⟨rfl,n4,rfl⟩;have l4:=K0.below_drewN b3 n4)
      | (go_at_call 61;refine (hL0.out _).mono ?_;rintro e w5 ⟨o5,s5,a5,n5,c5,x5,bb5,rfl,b5⟩;have l5:=((l4.trans (b5.mono l4.size)).alloc (Nat.le_trans l4.size b5.size) (.cells (Iq (tK mem 0) o5 s5 a5 n5 c5) 96)))
      | (go_at_call 62;refine (hpa.out _).mono ?_;intro e w6 hans;obtain ⟨a6,c6,a7,c7,rfl,b6,-⟩:=hPA.out _ _ _ hans;clear hans))
     go_ret;exact ⟨rfl,l5.trans (b6.mono l5.size)⟩
    | true=>
     rw[hno] at hPA;rw[hno,Bool.true_and] at hz
     by_cases hk2:tK mem 0=2
     ·rw[hk2,show ((2:Int) == 2)=true from rfl,Bool.true_and] at hz
      rw[hk2] at hL0;have HZ:Hid (sound mem=TR.treeOk (tE mem) (tK mem)):=hz;clear hno hz hk2;go_enter func33,ntmps33
      go_wp2_with (first
       | (go_at_call 58;refine (hpt.out _).mono ?_;rintro e w1 ⟨rfl,rfl⟩)
       | (go_at_call 47;refine (hzr.out _).mono ?_;rintro e w2 ⟨rfl,rfl⟩)
       | (go_at_call 60;refine (how.out _).mono ?_;rintro e w3 ⟨a3,c3,rfl,hc3,o3,b3⟩)
       | (go_at_call 59;refine (hpg.out _ _ _ hc3 o3.row).mono ?_;rintro e w4 ⟨rfl,n4,rfl⟩;have l4:=K0.below_drewN b3 n4)
       | (go_at_call 61;refine (hL0.out _).mono ?_;rintro e w5 ⟨o5,s5,a5,n5,c5,x5,bb5,rfl,b5⟩;have l5:=((l4.trans (b5.mono l4.size)).alloc (Nat.le_trans l4.size b5.size) (.cells (Iq 2 o5 s5 a5 n5 c5) 96));have y5:=(K0.blk_new [Iv 2,Iv o5,Iv s5,.slice a5 n5 c5] w5 96))
       | (go_at_call 62;refine (hpa.out _).mono ?_;intro e w6 hans;obtain ⟨a6,c6,a7,c7,rfl,b6,hy6⟩:=hPA.out _ _ _ hans;clear hans;obtain ⟨g1,g2,rfl,rfl,pr6⟩:=hy6 (by trivial);clear hy6;have y6:=(y5.below b6).c0))
      obtain ⟨wa,hwa⟩:∃ wa,w5.alloc (.cells (Iq 2 o5 s5 a5 n5 c5) 96)=wa:=⟨_,rfl⟩;rw[hwa] at pr6 l5;clear y6 y5 b6 hwa b5 l4 hpg how hpt hzr hL0 hpa hPA o3 b3
      go_loopg [9] 7 (fun gk v W=>∃ k:Nat,0<k/\k+gk=8/\v=Iv k/\(∀ i,0<i->i<k->TR.oneOk (tE mem) (tK mem) i=true)/\Pr wa g1 g2 (TR.flat (tE mem) 8) W)
      case atStart=>exact ⟨1,by decide,rfl,rfl,fun i h0 h1=>by omega,pr6⟩
      case round=>
       obtain ⟨k,hk0,hkg,rfl,hall,pr⟩:=hrel;clear pr6
       by_cases hlt:k<8
       ·have hLk:Hid (∀ W,_):=fun W=>hLo.out k W
        have hone:TR.oneOk (tE mem) (tK mem) k=(((tK mem k == 0) == (TR.par (TR.flat (tE mem) 8) (k:Int) == -1)) && (tK mem k == 0 || TR.root (TR.par (TR.flat (tE mem) 8)) 8 (k:Int))):=rfl
        have HBAD:Hid (TR.oneOk (tE mem) (tK mem) k=false->sound mem=false):=fun h=>by rw[HZ.out];exact treeOk_bad hk0 hlt h
        have HGOOD:Hid (TR.oneOk (tE mem) (tK mem) k=true->∀ i,0<i->i<k+1->TR.oneOk (tE mem) (tK mem) i=true):=fun h i h0 h1=>by
         by_cases e:i=k
         ·rw[e]
          exact h
         ·exact hall i h0 (by omega)
        have hRt:Hid (∀ W,Pr wa g1 g2 (TR.flat (tE mem) 8) W->Calls prog 63 #[Sv g1 8 c6,Iv (k:Int)] W (Rw (.bool (TR.root (TR.par (TR.flat (tE mem) 8)) 8 (k:Int))) W)):=fun W h=>l04Root _ g1 c6 k W (par_lt mem) (fun x hx=>h.par hx) (by omega)
        have e1:(0:Int)<=(k:Int):=by omega
        have e2:(k:Int)<8:=by omega
        obtain ⟨K,hK⟩:∃ K,tK mem k=K:=⟨_,rfl⟩;obtain ⟨p,hp⟩:∃ p,TR.par (TR.flat (tE mem) 8) (k:Int)=p:=⟨_,rfl⟩;obtain ⟨r,hr⟩:∃ r,TR.root (TR.par (TR.flat (tE mem) 8)) 8 (k:Int)=r:=⟨_,rfl⟩;rw[hK] at hLk hone;rw[hp] at hone;rw[hr] at hone hRt;have HP:Hid (TR.par (TR.flat (tE mem) 8) (k:Int)=p):=hp;clear hK hp hr hall hLo
        go_wp2_with (go_at_call 61;refine (hLk.out _).mono ?_;rintro e w7 ⟨o7,s7,a7,n7,c7',x7,bb7,rfl,b7⟩;have p7:=(pr.below b7).below (K0.below_new w7 (.cells (Iq K o7 s7 a7 n7 c7') 96));have y7:=(K0.blk_new [Iv K,Iv o7,Iv s7,.slice a7 n7 c7'] w7 96).c0)
        have u7:=p7.par hlt;rw[HP.out] at u7;clear hLk pr b7
        by_cases hKz:K=0 <;> by_cases hpn:p = -1
        ·subst hKz hpn
         have HA:=HGOOD.out (by rw[hone];rfl);have HA':Hid (∀ i,0<i->i<k+1->TR.oneOk (tE mem) (tK mem) i=true):=HA;clear HA hone HBAD HGOOD
         go_quiet (fail)
         go_wp2
         go_roundg (gk-1)
         case measure=>omega
         case rel=>exact ⟨k+1,by omega,by omega,by go_num,HA'.out,p7.drewN _⟩
        ·subst hKz
         have hpn':(p == -1)=false:=by simpa using hpn
         have HB2:Hid (sound mem=false):=HBAD.out (by rw[hone,hpn'];rfl);clear hone HBAD HGOOD
         go_quiet (fail)
         go_wp2;go_ret;exact ⟨ret_bool HB2.out.symm,l5.trans ((K0.below_drewN p7.bel _).mono l5.size)⟩
        ·subst hpn
         have hKz':(K == 0)=false:=by simpa using hKz
         have HB2:Hid (sound mem=false):=HBAD.out (by rw[hone,hKz'];rfl);clear hone HBAD HGOOD
         go_quiet (fail)
         go_wp2;go_ret;exact ⟨ret_bool HB2.out.symm,l5.trans ((K0.below_drewN p7.bel _).mono l5.size)⟩
        ·have hpn':(p == -1)=false:=by simpa using hpn
         have hKz':(K == 0)=false:=by simpa using hKz
         have hKn:(K != 0)=true:=by simpa using hKz
         have hone':TR.oneOk (tE mem) (tK mem) k=r:=by rw[hone,hpn',hKz'];simp
         clear hone
         cases r with
         | true=>
          have HA':Hid (∀ i,0<i->i<k+1->TR.oneOk (tE mem) (tK mem) i=true):=HGOOD.out hone';clear hone' HBAD HGOOD
          go_quiet ((go_at_call 63;exact Calls.quiet_of_same (hRt.out _ (p7.drewN _))))
          go_wp2
          go_roundg (gk-1)
          case measure=>omega
          case rel=>exact ⟨k+1,by omega,by omega,by go_num,HA'.out,p7.drewN _⟩
         | false=>
          have HB2:Hid (sound mem=false):=HBAD.out hone';clear hone' HBAD HGOOD
          go_quiet ((go_at_call 63;exact Calls.quiet_of_same (hRt.out _ (p7.drewN _))))
          go_wp2;go_ret;exact ⟨ret_bool HB2.out.symm,l5.trans ((K0.below_drewN p7.bel _).mono l5.size)⟩
       ·obtain rfl:k=8:=by omega
        have HS:Hid (sound mem=true):=by
         show sound mem=true
         rw[HZ.out]
         exact TR.treeOk_iff.2 fun i h0 h8=>hall i h0 h8
        have u0:=pr.par (x:=0) (by decide)
        rw[show ((0:Nat):Int)=0 from rfl,par_zero] at u0
        clear hall hLo;go_wp2;go_ret;exact ⟨ret_bool HS.out.symm,l5.trans (pr.bel.mono l5.size)⟩
     ·have hk2':(tK mem 0 != 2)=true:=by simpa using hk2
      rw[show (tK mem 0 == 2)=false by simpa using hk2,Bool.false_and] at hz;rw[hz];clear hno hz hLo;go_enter func33,ntmps33
      go_wp2_with (first
       | (go_at_call 58;refine (hpt.out _).mono ?_;rintro e w1 ⟨rfl,rfl⟩)
       | (go_at_call 47;refine (hzr.out _).mono ?_;rintro e w2 ⟨rfl,rfl⟩)
       | (go_at_call 60;refine (how.out _).mono ?_;rintro e w3 ⟨a3,c3,rfl,hc3,o3,b3⟩)
       | (go_at_call 59;refine (hpg.out _ _ _ hc3 o3.row).mono ?_;rintro e w4 ⟨rfl,n4,rfl⟩;have l4:=K0.below_drewN b3 n4)
       | (go_at_call 61;refine (hL0.out _).mono ?_;rintro e w5 ⟨o5,s5,a5,n5,c5,x5,bb5,rfl,b5⟩;have l5:=((l4.trans (b5.mono l4.size)).alloc (Nat.le_trans l4.size b5.size) (.cells (Iq (tK mem 0) o5 s5 a5 n5 c5) 96));have y5:=(K0.blk_new [Iv (tK mem 0),Iv o5,Iv s5,.slice a5 n5 c5] w5 96))
       | (go_at_call 62;refine (hpa.out _).mono ?_;intro e w6 hans;obtain ⟨a6,c6,a7,c7,rfl,b6,-⟩:=hPA.out _ _ _ hans;clear hans;have y6:=(y5.below b6).c0))
      go_ret;exact ⟨rfl,l5.trans (b6.mono l5.size)⟩
 ·have hz:sound mem=false:=by
   unfold sound;rw[decide_eq_false hm,Bool.false_and]
  have e768:((mem.size:Int) != 768)=true:=by simp;omega
  rw[hz];clear hm hz;go_enter func33,ntmps33;go_wp2;go_ret;exact ⟨rfl,Below.refl _ _⟩
end TS
namespace FI
variable {w W W' : World} {mem : ByteArray}
open TW (tK tZ tE cat nodesOk sound)
structure Fl where
 ino:Int
 path:ByteArray
 kind:Int
 owner:Int
 data:ByteArray
def Fl.vals (f:Fl):List Value:=[.int .i64 f.ino,.string f.path,.int .i64 f.kind,.int .i64 f.owner,.string f.data]
def ffl:List Fl->List Value
 | []=>[]
 | f :: r=>f.vals++ffl r
theorem ffl_length:∀ l:List Fl,(ffl l).length=l.length*5
 | []=>rfl
 | f :: r=>by rw[ffl,List.length_append,ffl_length r];simp[Fl.vals];omega
theorem ffl_append:∀ l m:List Fl,ffl (l++m)=ffl l++ffl m
 | [],m=>rfl
 | f :: r,m=>by rw[List.cons_append,ffl,ffl,ffl_append r m,List.append_assoc]
theorem ffl_snoc (l:List Fl) (f:Fl):ffl (l ++ [f])=ffl l++f.vals:=by rw[ffl_append];simp[ffl]
def zf:Fl:=⟨0,⟨#[]⟩,0,0,⟨#[]⟩⟩
theorem ffl_get:∀ (l:List Fl) (i j:Nat),i<l.length->j<5->(ffl l)[i*5+j]? = (l.getD i zf).vals[j]?
 | [],i,j,h,_=>by simp at h
 | f :: r,i,j,h,hj=>by
  have hl:f.vals.length=5:=rfl;rw[ffl]
  cases i with
  | zero=>
   rw[List.getElem?_append_left (by rw[hl];omega)];simp
  | succ i=>
   rw[List.getElem?_append_right (by rw[hl];omega),hl,show (i+1)*5+j-5=i*5+j by omega,ffl_get r i j (by simpa using h) hj];simp
theorem file_cells {g:Nat} {l:List Fl} (h:K0.Blk g (ffl l) W) {i:Nat} (hi:i<l.length) :
  Ce W g (i*5) (Iv (l.getD i zf).ino)/\Ce W g (i*5+1) (.string (l.getD i zf).path)/\Ce W g (i*5+2) (Iv (l.getD i zf).kind)/\Ce W g (i*5+3) (Iv (l.getD i zf).owner)/\Ce W g (i*5+4) (.string (l.getD i zf).data):=by
 have hl:=ffl_length l
 have key:∀ j (hj:j<5),W.cell? ⟨g,i*5+j,none⟩=(l.getD i zf).vals[j]?:=by
  intro j hj;rw[h.cell (i*5+j) (by omega),<- ffl_get l i j hi hj,List.getElem?_eq_getElem (by omega)]
 exact ⟨key 0 (by decide),key 1 (by decide),key 2 (by decide),key 3 (by decide),key 4 (by decide)⟩
def FBuf (base:Nat) (w:World) (g n cap:Nat) (l:List Fl):Prop:=n=l.length/\w.ownsRow base 164 5 (.slice (some ⟨g,0,none⟩) n cap) n (ffl l)
variable {base g n cap : Nat} {l : List Fl}
theorem FBuf.below (h:FBuf base w g n cap l) (hb:Bq w W):FBuf base W g n cap l:=⟨h.1,F0.owns_below h.2 hb⟩
theorem FBuf.alloc (h:FBuf base w g n cap l) (o:Obj):FBuf base (w.alloc o) g n cap l:=⟨h.1,h.2.alloc o⟩
theorem FBuf.drew (h:FBuf base w g n cap l):FBuf base w.drew g n cap l:=h
theorem FBuf.blk (h:FBuf base w g n cap l):K0.Blk g (ffl l) w:=by
 have hl:=h.2.1;refine ⟨fun j hj=>?_,fun j hj=>h.2.frozenAt j,(h.2.lt g rfl).2⟩;rw[h.2.cellAt j (by omega),List.getElem?_eq_getElem hj]
theorem fbuf_new (w:World) (hb:base<=w.heap.size):FBuf base (w.alloc (.cells #[] 164)) w.heap.size 0 0 []:=⟨rfl,World.ownsRow_made w #[] 0 hb (Nat.zero_le _) rfl⟩
theorem infoFile:(prog.info? 164).map (fun i=>(i.zero,i.size,i.bytes))=some (some (.agg #[Iv 0,.string ⟨#[]⟩,Iv 0,Iv 0,.string ⟨#[]⟩]),5,56):=by kernel_rfl
theorem one_file (f:Fl):∀ x ∈ f.vals,x.oneCell'=true:=by
 intro x h;simp[Fl.vals] at h
 rcases h with rfl | rfl | rfl | rfl | rfl <;> rfl
theorem step_file {ops:Array Oper} {o:Oper} {A:Act} {K:Act->World->Prop} {Q:Exit->Act->World->Prop} {E:Prop} (hgd:o.guard=none) (sl x:Operand)
  (ho:o.op=.call { callee:=.builtin .append,args:=#[sl,x],argTypes:=#[161,161] })
  (hbuf:FBuf base w g n cap l) (f:Fl) (hs:A.eval sl=Sv g n cap) {H:Nat} (hH:w.heap.size=H) (hx:A.eval x=Sv H 1 1) (hlen:n+1<=1048576) (hb:base<=w.heap.size)
  (h:∀ g' cap' w',FBuf base w' g' (n+1) cap' (l ++ [f])->Below base w w'->w.grownBy w' (some g)->(g'=g\/w.heap.size<=g')->K (A.put o.dst (Sv g' (n+1) cap')) w') :
  if Region.wanted o (yielded ops A.tmps)=true then Oper.wp prog o A (w.alloc (.cells #[Iv f.ino,.string f.path,Iv f.kind,Iv f.owner,.string f.data] 164)) K Q else E:=by
 subst hH;obtain ⟨i0,hi,hz0,hz1,hz2⟩:=info_parts infoFile;have hb2:=hbuf.alloc (.cells #[Iv f.ino,.string f.path,Iv f.kind,Iv f.owner,.string f.data] 164);refine step_append_lies _ hgd sl x 161 ho base 164 i0 (.agg #[Iv 0,.string ⟨#[]⟩,Iv 0,Iv 0,.string ⟨#[]⟩]) 5 56 underlying161 hi hz0 hz1 hz2 rfl (by omega) _ n _ hs hb2.2 ⟨w.heap.size,0,none⟩ 1 1 f.vals hx rfl (World.news_of_block (heap_alloc_new w _)) (one_file f) (by omega) (by unfold maxLen;omega) (by omega) (by simp;omega) _ rfl ?_;intro g' cap' w' ho' hg' hl' _;refine h g' cap' w' ⟨by rw[hbuf.1];simp,?_⟩ ?_ ?_ ?_
 ·rw[ffl_snoc]
  exact ho'
 ·exact F0.below_grown ((Below.refl _ _).alloc hb _) hg' (fun k hk=>(hbuf.2.lt k hk).1) (by simp;omega)
 ·exact (World.grownBy_alloc w _ _).trans hg'
 ·rcases hl' with q | q
  ·left
   have e':g=g':=by simpa [Value.ownBlock] using q
   exact e'.symm
  ·right
   rw[q];simp
def upq (p:Int->Int) (nm:Int->ByteArray):Nat->Int->ByteArray->ByteArray
 | 0,_,out=>out
 | n+1,i,out=>if 0<i then upq p nm n (p i) ((⟨#[47]⟩++nm i)++out) else out
def fpath (mem:ByteArray) (i:Nat):ByteArray:=TR.full (upq (TR.par (TR.flat (tE mem) 8)) (TR.nam (TR.flat (tE mem) 8)) 8 (i:Int) ⟨#[]⟩)
theorem up_of {E:Nat->List T0.Ent} {K:Nat->Int} (ht:TR.treeOk E K=true) (hS:TR.Sane E K) {x k:Nat} {q:ByteArray} (h:TR.At2 E x k q):x<8/\∀ m,k<=m->∀ out,upq (TR.par (TR.flat E 8)) (TR.nam (TR.flat E 8)) m (x:Int) out=q++out:=by
 induction h using TR.At2.ind with
 | zero=>
  refine ⟨by decide,fun m _ out=>?_⟩;rw[TR.nil_app]
  cases m with
  | zero=>rfl
  | succ m=>rw[upq,if_neg (by decide)]
 | @down d k q x nm hd hm ih=>
  have hx:=hS.ino _ _ hm;simp only at hx;refine ⟨by omega,fun m hk out=>?_⟩;obtain ⟨m',rfl⟩:∃ m',m=m'+1:=⟨m-1,by omega⟩;obtain ⟨h1,h2⟩:=TR.par_of ht hS ih.1 hm;simp only at h1 h2;rw[upq,if_pos hx.1,h1,h2,ih.2 m' (by omega),TR.app_assoc,TR.app_assoc,TR.app_assoc]
theorem path_eq {F:Nat->Nat} {P:Nat->ByteArray} (h:TR.Inv (tE mem) (tK mem) [] F P) (hK0:tK mem 0=2) (ht:TR.treeOk (tE mem) (tK mem)=true) {x:Nat} (hx:x<8) (hk:tK mem x≠0) :
  P x=fpath mem x/\∃ k q,k<=8/\TR.At2 (tE mem) x k q/\fpath mem x=TR.full q:=by
 obtain ⟨k,hk8,ha⟩:=TR.found_at h (TW.sane_ok mem) hK0 ht hx hk;obtain ⟨q,hq,hp,_,_⟩:=TR.at_two (TW.sane_ok mem) ha;have hu:=(up_of ht (TW.sane_ok mem) hq).2 8 hk8 ⟨#[]⟩
 have hf:fpath mem x=TR.full q:=by rw[fpath,hu,TR.app_nil]
 exact ⟨by rw[hf,hp],k,q,hk8,hq,hf⟩
def flOf (mem:ByteArray) (P:Nat->ByteArray) (i:Nat):Fl:=⟨(i:Int),P i,tK mem i,G0.gO (O0.recd mem (i:Int)),D1.nodeD mem (i:Int)⟩
def filesTo (mem:ByteArray) (P:Nat->ByteArray):Nat->List Fl
 | 0=>[]
 | i+1=>filesTo mem P i++if tK mem i=0 then [] else [flOf mem P i]
theorem filesTo_len (mem:ByteArray) (P:Nat->ByteArray):∀ i,(filesTo mem P i).length<=i
 | 0=>Nat.le_refl _
 | i+1=>by
  have:=filesTo_len mem P i;rw[filesTo,List.length_append]
  split <;> simp <;> omega
theorem filesTo_congr {P P':Nat->ByteArray}:∀ i,(∀ x,x<i->tK mem x≠0->P x=P' x)->filesTo mem P i=filesTo mem P' i
 | 0,_=>rfl
 | i+1,h=>by
  rw[filesTo,filesTo,filesTo_congr i fun x hx hk=>h x (by omega) hk]
  by_cases hk:tK mem i=0
  ·rw[if_pos hk,if_pos hk]
  ·rw[if_neg hk,if_neg hk,flOf,flOf,h i (by omega) hk]
def files (mem:ByteArray):List Fl:=if sound mem=true then filesTo mem (fpath mem) 8 else []
theorem sound_parts (h:sound mem=true):mem.size=768/\nodesOk mem=true/\tK mem 0=2/\TR.treeOk (tE mem) (tK mem)=true:=by
 unfold sound at h;simp only[Bool.and_eq_true,decide_eq_true_eq,beq_iff_eq] at h;exact ⟨h.1,h.2.2.1,h.2.2.2.1,h.2.2.2.2.2⟩
end FI
namespace FI
variable {w W W' : World} {mem : ByteArray} {B : Nat} {N : Nat → TW.Nd} {F : Nat → Nat} {P : Nat → ByteArray}
open TW (tK tZ tE cat nodesOk sound nds run_node)
theorem treeFiles (w:World) (hG:TW.Good mem B N F P w) :
  Calls prog 139 #[Pv B 0] w fun e w'=>∃ g c,e=.returned (Sv g (filesTo mem P 8).length c)/\w.heap.size<=g/\K0.Blk g (ffl (filesTo mem P 8)) w'/\Bq w w':=by
 have hr:=World.rangeAt_alloc hG.tb.range (.cells #[] 164);have hn48:(nds N 8).length=48:=TW.nds_length N 8
 have hix:=fun i hi W=>run_node N i hi W
 obtain ⟨C,hC⟩:∃ C,(nds N 8).toArray=C:=⟨_,rfl⟩;have HC:Hid ((nds N 8).toArray=C):=hC;rw[hC] at hix;have HX:Hid (∀ i:Nat,i<8->∀ W,(Instr.index 216 (.agg C) (Iv (i:Int))).run prog W=.ok (.agg #[Iv (N i).k,Iv (N i).o,Iv (N i).s,.slice (N i).a (N i).n (N i).c,.string (N i).x,.slice (N i).ae (N i).ne (N i).ce]) W):=hix;have b0:=fbuf_new (base:=w.heap.size) w (Nat.le_refl _);have l0:=K0.below_new w (.cells #[] 164);have hlen:=filesTo_len mem P;have HG:Hid (TW.Good mem B N F P w):=hG;clear hC hix hG;go_enter func139,ntmps139
 go_wp2_with (refine wpList_load_mid rfl 216 (.tmp 9) rfl B 0 rfl _ _ hr underlying216 rfl (by rw[TW.infoNodes,hn48]) ?_;rw[HC.out])
 clear hr
 go_loopw [3,11] (fun v i w'=>∃ (k n c g:Nat),k<=8/\i=Iv k/\v=Sv g n c/\FBuf w.heap.size w' g n c (filesTo mem P k)/\Bq w w') (fun _ i _=>8-(intOf i).toNat)
 case atStart=>exact ⟨0,0,0,_,Nat.zero_le _,rfl,rfl,b0,l0⟩
 case round=>
  obtain ⟨k,n,c,g,hk,rfl,rfl,hbuf,hbel⟩:=hrel;clear b0 l0
  by_cases hlt:k<8
  ·have hx:=HX.out k hlt
   have hnd:=HG.out.nd k hlt;have x1:=(HG.out.tb.below hbel HG.out.tb.lt).pth k hlt;have tb1:=(HG.out.tb.below hbel HG.out.tb.lt)
   have e1:(0:Int)<=(k:Int):=by omega
   have e2:(k:Int)<8:=by omega
   have hnl:n<=8:=by
    have:=hlen k;rw[hbuf.1];omega
   have hkk:=hnd.k;have hoo:=hnd.o;have hxx:=hnd.x
   have hst:filesTo mem P (k+1)=filesTo mem P k++if tK mem k=0 then [] else [flOf mem P k]:=rfl
   have hfl:flOf mem P k=⟨(k:Int),P k,tK mem k,G0.gO (O0.recd mem (k:Int)),D1.nodeD mem (k:Int)⟩:=rfl;rw[<- hoo,<- hxx,<- hkk] at hfl;rw[<- hkk] at hst;obtain ⟨d,hd⟩:∃ d,N k=d:=⟨_,rfl⟩;rw[hd] at hx hfl hst;obtain ⟨pk,hpk⟩:∃ pk,P k=pk:=⟨_,rfl⟩;rw[hpk] at x1 hfl;have nl:=K0.below_new wr (.cells #[Iv d.k,Iv d.o,Iv d.s,.slice d.a d.n d.c,.string d.x,.slice d.ae d.ne d.ce] 215);have nb:=K0.blk_new [Iv d.k,Iv d.o,Iv d.s,.slice d.a d.n d.c,.string d.x,.slice d.ae d.ne d.ce] wr 215;have hbuf1:=hbuf.below nl;have hbel1:=hbel.trans (nl.mono hbel.size);have x2:=(nl.cell (p:=⟨B,56+k,none⟩) tb1.lt).trans x1;obtain ⟨c0,c1,c2,c3,c4,c5⟩:=D1.cells6 nb;clear hnd hd hpk tb1 hkk hoo hxx
   by_cases hz:d.k=0
   ·have HS:Hid (filesTo mem P (k+1)=filesTo mem P k):=by
     show _=_
     rw[hst,if_pos hz,List.append_nil]
    have hz':(d.k != 0)=false:=by simpa using hz
    clear hst hfl hz;go_wp2
    go_roundw
    case rel=>exact ⟨k+1,n,c,g,by omega,by go_num,rfl,by rw[HS.out];exact hbuf1,hbel1⟩
    case measure=>simp[intOf];omega
   ·have HS:Hid (filesTo mem P (k+1)=filesTo mem P k ++ [⟨(k:Int),pk,d.k,d.o,d.x⟩]):=by
     show _=_
     rw[hst,if_neg hz,hfl]
    have hz':(d.k != 0)=true:=by simpa using hz
    clear hst hfl hz;go_wp2;have hbuf2:=hbuf1.drew;have hbel2:=hbel1.drew;have HGL:Hid (g<wr.heap.size/\B<wr.heap.size/\B<g):=⟨(hbuf.2.lt g rfl).2,Nat.lt_of_lt_of_le HG.out.tb.lt hbel.size,Nat.lt_of_lt_of_le HG.out.tb.lt (hbuf.2.lt g rfl).1⟩;obtain ⟨W0,hW0⟩:∃ W0,wr.alloc (.cells #[Iv d.k,Iv d.o,Iv d.s,.slice d.a d.n d.c,.string d.x,.slice d.ae d.ne d.ce] 215)=W0:=⟨_,rfl⟩
    have hs0:W0.heap.size=wr.heap.size+1:=by rw[<- hW0];simp
    rw[hW0] at hbuf2 hbel2 c0 c1 c4 x2 ⊢;have hS0:W0.drew.cell? ⟨B,56+k,none⟩=some (.string pk)/\W0.drew.cell? ⟨wr.heap.size,0,none⟩=some (Iv d.k)/\W0.drew.cell? ⟨wr.heap.size,1,none⟩=some (Iv d.o)/\W0.drew.cell? ⟨wr.heap.size,4,none⟩=some (.string d.x):=⟨x2,c0,c1,c4⟩;have hnew:=K0.below_new W0.drew (.cells #[Iv (k:Int),.string pk,Iv d.k,Iv d.o,.string d.x] 164)
    have hS1:(W0.drew.alloc (.cells #[Iv (k:Int),.string pk,Iv d.k,Iv d.o,.string d.x] 164)).cell? ⟨B,56+k,none⟩=some (.string pk)/\(W0.drew.alloc (.cells #[Iv (k:Int),.string pk,Iv d.k,Iv d.o,.string d.x] 164)).cell? ⟨wr.heap.size,0,none⟩=some (Iv d.k)/\(W0.drew.alloc (.cells #[Iv (k:Int),.string pk,Iv d.k,Iv d.o,.string d.x] 164)).cell? ⟨wr.heap.size,1,none⟩=some (Iv d.o)/\(W0.drew.alloc (.cells #[Iv (k:Int),.string pk,Iv d.k,Iv d.o,.string d.x] 164)).cell? ⟨wr.heap.size,4,none⟩=some (.string d.x):=by
     have h1:B<W0.drew.heap.size:=by have:=HGL.out.2.1;show B<W0.heap.size;omega
     have h2:wr.heap.size<W0.drew.heap.size:=by show wr.heap.size<W0.heap.size;omega
     exact ⟨(hnew.cell (p:=⟨B,56+k,none⟩) h1).trans hS0.1,(hnew.cell (p:=⟨wr.heap.size,0,none⟩) h2).trans hS0.2.1,(hnew.cell (p:=⟨wr.heap.size,1,none⟩) h2).trans hS0.2.2.1,(hnew.cell (p:=⟨wr.heap.size,4,none⟩) h2).trans hS0.2.2.2⟩
    clear hW0 hnew nl nb c2 c3 c5 hbuf1 hbel1 hbuf hbel hx x1
    go_region_held3 (fun W=>Ce W B (56+k) (.string pk)/\Ce W wr.heap.size 0 (Iv d.k)/\Ce W wr.heap.size 1 (Iv d.o)/\Ce W wr.heap.size 4 (.string d.x)) (assumption) ((refine step_file rfl (.tmp 19) (.tmp 36) rfl hbuf2 ⟨(k:Int),pk,d.k,d.o,d.x⟩ (by rfl) (H:=wr.heap.size+1) hs0 (by rfl) (by omega) hbel2.size ?_;intro g3 c3' w3 bf3 b3 gr3 _;have hS3:Ce w3 B (56+k) (.string pk)/\Ce w3 wr.heap.size 0 (Iv d.k)/\Ce w3 wr.heap.size 1 (Iv d.o)/\Ce w3 wr.heap.size 4 (.string d.x):=⟨gr3.cell hS0.1 (by have:=HGL.out.2.2;simp;omega),gr3.cell hS0.2.1 (by have:=HGL.out.1;simp;omega),gr3.cell hS0.2.2.1 (by have:=HGL.out.1;simp;omega),gr3.cell hS0.2.2.2 (by have:=HGL.out.1;simp;omega)⟩))
    go_wp2
    go_roundw
    case rel=>exact ⟨k+1,n+1,c3',g3,by omega,by go_num,rfl,by rw[HS.out];exact bf3,hbel2.trans b3⟩
    case measure=>simp[intOf];omega
  ·obtain rfl:k=8:=by omega
   have hn:n=(filesTo mem P 8).length:=hbuf.1;subst hn;have HB:Hid (FBuf w.heap.size wr g (filesTo mem P 8).length c (filesTo mem P 8)):=hbuf;clear hbuf HX HC;go_wp2;go_ret;exact ⟨g,c,rfl,(HB.out.2.lt g rfl).1,HB.out.blk,hbel⟩
end FI
end Go.Proofs.YtlejhfnjmkdobaaGreatDoor
