/- Joined texts. -/
import Derived.Test.YtlejhfnjmkdobaaGreatDoorJtZF
import Derived.Test.YtlejhfnjmkdobaaGreatDoorJtZI
import Derived.Test.YtlejhfnjmkdobaaGreatDoorJtZH
import Derived.Test.YtlejhfnjmkdobaaGreatDoorJtZD
set_option linter.unusedVariables false
set_option linter.unusedSimpArgs false
set_option maxRecDepth 10000
set_option maxHeartbeats 16000000
namespace Go.Proofs.YtlejhfnjmkdobaaGreatDoor
open ChangeShapes WideShapes ChangeAt RowKit
open Go.Proofs.Tryz
namespace US
variable {w W W' : World} {mem : ByteArray}
open J0 (IBuf Own)
open I2 (ints)
open TW (tK tZ tE cat nodesOk sound headOk hd)
def used (mem:ByteArray):List Int:=if sound mem=true then Y6.srt (cat (tZ mem) 8) else []
theorem used_len (mem:ByteArray):(used mem).length<=1048576:=by
 unfold used
 split
 ·rw[Y6.srt_length]
  have:=TW.cat_len (TW.pg_few mem) 8;omega
 ·exact Nat.zero_le _
theorem take_ins (zs:List Int) (k:Nat) (h:k<zs.length):Y6.srt (zs.take (k+1))=Y5.ins (Y6.srt (zs.take k)) (zs.getD k 0):=by
 rw[List.take_succ_eq_append_getElem h,Y6.srt_snoc,P0.getD_get _ _ h]
theorem spec_Used (mem:ByteArray) (w:World) (hms:mem.size<=281474976710656):Calls prog 38 #[.string mem] w fun e w'=>∃ a c,e=.returned (.slice a (used mem).length c)/\J0.Own w.heap.size w' a (used mem)/\Bq w w':=by
 have hS:Hid (∀ W,_):=fun W=>TS.spec_Sound mem W hms
 have how:Hid (∀ W,_):=fun W=>TS.l04Owned mem W hms
 have l0:=K0.below_new w (.cells #[] 3);have b0:=J0.ibuf_made (base:=w.heap.size) w (Nat.le_refl _)
 cases hs:sound mem with
 | false=>
  rw[hs] at hS
  have hu:used mem=[]:=by unfold used;rw[hs];rfl
  rw[hu];clear hs hu how;go_enter func38,ntmps38
  go_wp2_with (go_at_call 33;refine (hS.out _).mono ?_;rintro e w1 ⟨rfl,b1⟩)
  go_ret;exact ⟨_,_,rfl,Or.inl rfl,l0.trans (b1.mono l0.size)⟩
 | true=>
  rw[hs] at hS
  have hu:used mem=Y6.srt (cat (tZ mem) 8):=by unfold used;rw[if_pos hs]
  rw[hu];have hlen:=TW.cat_len (TW.pg_few mem) 8;obtain ⟨zs,hzs⟩:∃ zs,cat (tZ mem) 8=zs:=⟨_,rfl⟩;rw[hzs] at how hlen ⊢;clear hs hu hzs;go_enter func38,ntmps38
  go_wp2_with (first
   | (go_at_call 33;refine (hS.out _).mono ?_;rintro e w1 ⟨rfl,b1⟩;have l1:=l0.trans (b1.mono l0.size))
   | (go_at_call 60;refine (how.out _).mono ?_;rintro e w2 ⟨a2,c2,rfl,hc2,o2,b2⟩))
  have bf:IBuf w.heap.size w2 (some ⟨w.heap.size,0,none⟩) 0 0 []:=(b0.below b1).below b2;have l2:=l1.trans (b2.mono l1.size);have r2:=o2.row;clear b0 l0 l1 b1 b2 hS how
  go_loopw [3,5] (fun v i W=>∃ (k g c:Nat),k<=zs.length/\i=Iv k/\v=Sv g k c/\IBuf w.heap.size W (some ⟨g,0,none⟩) k c (Y6.srt (zs.take k))/\P0.Row W a2 zs/\Bq w W) (fun _ i _=>zs.length-(intOf i).toNat)
  case atStart=>exact ⟨0,_,0,Nat.zero_le _,rfl,rfl,bf,r2,l2⟩
  case round=>
   obtain ⟨k,g,c,hk,rfl,rfl,hbuf,hrow,hbel⟩:=hrel;clear bf r2 l2 o2
   by_cases hlt:k<zs.length
   ·have hrow':=hrow
    obtain ⟨b,off,hab,hbl,hc⟩:=hrow.get hlt;subst hab;have x1:=hc k hlt;have hsl:(Y6.srt (zs.take k)).length=k:=hbuf.1.symm;have hti:=take_ins zs k hlt;obtain ⟨z,ez⟩:∃ z,zs.getD k 0=z:=⟨_,rfl⟩;rw[ez] at x1 hti
    have e1:(0:Int)<=(k:Int):=by omega
    have e2:(k:Int)<(zs.length:Int):=by omega
    have hrw:P0.Row wr (some ⟨g,0,none⟩) (Y6.srt (zs.take k)):=hbuf.own.row;have hadd:=Y5.l04Add g 0 c (Y6.srt (zs.take k)) z wr (by omega) (by rw[hsl];exact hbuf.fits) hrw;rw[hsl,<- hti] at hadd;have HA:Hid (Calls prog 67 #[Sv g k c,Iv z] wr fun e w'=>∃ a' c',e=.returned (.slice a' (k+1) c')/\IBuf wr.heap.size w' a' (k+1) c' (Y6.srt (zs.take (k+1)))/\Bq wr w'):=hadd;clear hadd hti ez hc hrw hsl
    go_wp2_with (go_at_call 67;refine HA.out.mono ?_;rintro e w3 ⟨a3,c3,rfl,bf3,b3⟩)
    have bf3':=Y2.ibuf_mono bf3 hbel.size
    obtain ⟨g3,rfl⟩:∃ g3,a3=some ⟨g3,0,none⟩:=by
     rcases bf3.2.2 with ⟨h1,h2⟩ | ⟨g',cap',cur,h1,_⟩
     ·omega
     ·cases h1
      exact ⟨g',rfl⟩
    go_roundw
    case rel=>exact ⟨k+1,g3,c3,by omega,by go_num,rfl,bf3',hrow'.below b3,hbel.trans (b3.mono hbel.size)⟩
    case measure=>simp[intOf];omega
   ·obtain rfl:k=zs.length:=by omega
    rw[List.take_length] at hbuf;have HB:Hid (IBuf w.heap.size wr (some ⟨g,0,none⟩) zs.length c (Y6.srt zs)):=hbuf;clear hrow hbuf;go_wp2;go_ret;exact ⟨_,c,by rw[Y6.srt_length];rfl,HB.out.own,hbel⟩
structure L (w:World) (aw ag:Option Addr) (Z M:List Int) (W:World):Prop where
 bel:Bq w W
 rows:Z=[]\/∃ g1 g2,aw=some ⟨g1,0,none⟩/\ag=some ⟨g2,0,none⟩/\w.heap.size<=g2/\g1≠g2/\K0.Blk g1 (ints Z) W/\K0.Blk g2 (ints M) W
variable {aw ag : Option Addr} {Z M : List Int} {cw cg : Nat}
theorem L.below (h:L w aw ag Z M W) (hb:Bq W W'):L w aw ag Z M W':=
 ⟨h.bel.trans (hb.mono h.bel.size),h.rows.imp id fun ⟨g1,g2,e1,e2,h1,h2,k1,k2⟩=>⟨g1,g2,e1,e2,h1,h2,k1.below hb,k2.below hb⟩⟩
end US
namespace KV
open N0 (Ln)
open N1 (Sl Lists)
open Z0 (dat Kp Lns kval)
open Z4 (truth)
open J0 (IBuf Own)
open I2 (ints)
open TW (sound)
open US (used)
open FI (files ffl Fl zf)
def fin (mem:ByteArray):List Int:=(files mem).map fun f=>f.ino
theorem fin_len (mem:ByteArray):(fin mem).length=(files mem).length:=List.length_map _
theorem files_len (mem:ByteArray):(files mem).length<=8:=by
 unfold files
 split
 ·exact FI.filesTo_len _ _ _
 ·exact Nat.zero_le _
theorem fin_take (mem:ByteArray) {j:Nat} (h:j<(files mem).length):(fin mem).take (j+1)=(fin mem).take j ++ [((files mem).getD j zf).ino]:=by
 unfold fin
 have h':j<((files mem).map fun f=>f.ino).length:=by rw[List.length_map];exact h
 rw[List.take_succ_eq_append_getElem h',List.getElem_map,List.getD_eq_getElem?_getD,List.getElem?_eq_getElem h];rfl
def Ans (k:Kp) (w:World) (e:Ending) (w':World):Prop:=
 ∃ x a1 n1 c1 a2 n2 c2,e=.returned (.tuple #[.agg #[.string x,.slice a1 n1 c1,.slice a2 n2 c2],.bool (sound (truth k))])/\Bq w w'/\
  (sound (truth k)=true->x=truth k/\n1=(used (truth k)).length/\n2=(fin (truth k)).length/\P0.Row w' a1 (used (truth k))/\P0.Row w' a2 (fin (truth k)))
theorem ibuf_set {base n cap B:Nat} {a:Option Addr} {w:World} {zs:List Int} (h:IBuf base w a n cap zs) (hB:B<base) (j:Nat) (v:Value):IBuf base (w.setCell ⟨B,j,none⟩ v) a n cap zs:=⟨h.1,ownsRow_setCell_below h.2 (a:=⟨B,j,none⟩) hB v⟩
theorem viewOf (k:Kp) (a:Option Addr) (c:Nat) (ss:Nat->Sl) (w:World) (hms:k.mem.size<=281474976710656) (hn:k.ds.length<=1048576) (hF:Z4.Fits k.ds ss) (hR:Lns w a k.ds ss) :
  Calls prog 101 #[kval k a c] w (Ans k w):=by
 have x0:=Z4.bk_new w k a c
 have hts:(truth k).size<=281474976710656:=by
  unfold truth;rw[Z4.unAll_size];exact hms
 have n1:=K0.below_new (w.alloc (.cells #[.string k.mem,.string k.dur,.slice a k.ds.length c,Iv k.ck] 31)) (.cells #[.string ⟨#[]⟩,.slice none 0 0,.slice none 0 0] 139)
 have e0:(w.alloc (.cells #[.string k.mem,.string k.dur,.slice a k.ds.length c,Iv k.ck] 31)).heap.size=w.heap.size+1:=by simp
 have v1:=K0.blk_new [.string ⟨#[]⟩,.slice none 0 0,.slice none 0 0] (w.alloc (.cells #[.string k.mem,.string k.dur,.slice a k.ds.length c,Iv k.ck] 31)) 139;have x1:=x0.below n1;rw[e0] at v1;have L1:=hR.below x1.bel;have c0:=x1.arg.c0;have c1:=x1.arg.c1;have c2:=x1.arg.c2;have c3:=x1.arg.c3
 have HT:Hid (∀ W,Lns W a k.ds ss->_):=fun W h=>Z4.impl_Truth k a c ss W hms hn hF h
 have bel1:=x1.bel;obtain ⟨m,em⟩:∃ m,truth k=m:=⟨_,rfl⟩;unfold Ans;rw[em] at HT hts ⊢
 have hr:Hid (∀ W,_):=fun W=>TW.readTree m W hts
 have hA:Hid (∀ w e w',TW.Ans m w e w'->∃ p,e=.returned (.tuple #[.pointer p,.bool (sound m)])/\Bq w w'/\(sound m=true->∃ B N F P,p=some ⟨B,0,none⟩/\w.heap.size<=B/\TW.Good m B N F P w')):=fun w e w' h=>h
 clear hR x0 n1 e0 x1 hF em hms hn hts
 cases hs:sound m with
 | false=>
  rw[hs] at hA;clear hs;go_enter func101,ntmps101
  go_wp2_with (first
   | (go_at_call 116;refine (HT.out _ L1).mono ?_;rintro e w2 ⟨rfl,b2⟩;have v2:=v1.below b2;have bel2:=bel1.trans (b2.mono bel1.size))
   | (go_at_call 137;refine (hr.out _).mono ?_;intro e w3 hans;obtain ⟨p,rfl,b3,-⟩:=hA.out _ _ _ hans;clear hans;have v3:=v2.below b3;have bel3:=bel2.trans (b3.mono bel2.size);have d0:=v3.c0;have d1:=v3.c1;have d2:=v3.c2;have f0:=v3.f0;have f1:=v3.f1;have f2:=v3.f2))
  have q:=((v3.set 0 (.string ⟨#[]⟩)).set 1 (.slice none 0 0)).set 2 (.slice none 0 0);have MF:=((bel3.setCell (p:=⟨w.heap.size+1,0,none⟩) (Nat.le_add_right _ 1) (.string ⟨#[]⟩)).setCell (p:=⟨w.heap.size+1,1,none⟩) (Nat.le_add_right _ 1) (.slice none 0 0)).setCell (p:=⟨w.heap.size+1,2,none⟩) (Nat.le_add_right _ 1) (.slice none 0 0);simp only[List.set_cons_zero,List.set_cons_succ] at q;exact bodyPost_ret (v:=.tuple #[.agg #[.string ⟨#[]⟩,.slice none 0 0,.slice none 0 0],.bool false]) (by simp[results,results101,go_sem,q.c0,q.c1,q.c2]) rfl ⟨⟨#[]⟩,none,0,0,none,0,0,rfl,MF,fun h=>by cases h⟩
 | true=>
  rw[hs] at hA;obtain ⟨_,_,hK0,ht⟩:=FI.sound_parts hs
  have hu:used m=Y6.srt (TW.cat (TW.tZ m) 8):=by unfold used;rw[if_pos hs]
  have hu2:files m=FI.filesTo m (FI.fpath m) 8:=by unfold files;rw[if_pos hs]
  have hp:Hid (∀ B N F P W,TW.Good m B N F P W->Calls prog 138 #[Pv B 0] W fun e w'=>∃ g c,e=.returned (Sv g (used m).length c)/\W.heap.size<=g/\K0.Blk g (ints (used m)) w'/\Bq W w'):=fun B N F P W h=>
   (TW.pages W h.tb h.ps).mono fun e w' ⟨g,c,he,hc,hg,hk,hb⟩=>⟨g,c,by rw[hu,Y6.srt_length];exact he,hg,by rw[hu,<- Y6.merge_srt];exact hk,hb⟩
  have hf:Hid (∀ B N F P W,TW.Good m B N F P W->Calls prog 139 #[Pv B 0] W fun e w'=>∃ g c,e=.returned (Sv g (files m).length c)/\W.heap.size<=g/\K0.Blk g (ffl (files m)) w'/\Bq W w'):=fun B N F P W h=>by
   rw[hu2,<- FI.filesTo_congr 8 fun x hx hk=>(FI.path_eq h.inv hK0 ht hx hk).1];exact FI.treeFiles W h
  have hfl:=files_len m
  have htk:Hid (∀ j,j<(files m).length->(fin m).take (j+1)=(fin m).take j ++ [((files m).getD j zf).ino]):=fun j h=>fin_take m h
  have hfin:=fin_len m;clear hs hu hu2 hK0 ht;go_enter func101,ntmps101
  go_wp2_with (first
   | (go_at_call 116;refine (HT.out _ L1).mono ?_;rintro e w2 ⟨rfl,b2⟩;have v2:=v1.below b2;have bel2:=bel1.trans (b2.mono bel1.size))
   | (go_at_call 137;refine (hr.out _).mono ?_;intro e w3 hans;obtain ⟨p,rfl,b3,hy⟩:=hA.out _ _ _ hans;clear hans;obtain ⟨B,N,F,P,rfl,hB,hg⟩:=hy (by trivial);clear hy;have v3:=v2.below b3;have bel3:=bel2.trans (b3.mono bel2.size))
   | (go_at_call 138;refine (hp.out _ _ _ _ _ hg).mono ?_;rintro e w4 ⟨g4,c4,rfl,hg4,k4,b4⟩;have v4:=v3.below b4;have hg':=hg.below b4;have bel4:=bel3.trans (b4.mono bel3.size);have nb:=K0.below_new w4 (.cells #[.string m,Sv g4 (used m).length c4,.slice none 0 0] 139);have hv:=K0.blk_new [.string m,Sv g4 (used m).length c4,.slice none 0 0] w4 139;have hg5:=hg'.below nb;have v5:=v4.below nb;have k5:=k4.below nb;have bel5:=bel4.trans (nb.mono bel4.size))
   | (go_at_call 139;refine (hf.out _ _ _ _ _ hg5).mono ?_;rintro e w6 ⟨g6,c6,rfl,hg6,k6,b6⟩;have v6:=v5.below b6;have k46:=k5.below b6;have hv6:=hv.below b6;have bel6:=bel5.trans (b6.mono bel5.size)))
  have s4:=k4.lt
  have s5:(w4.alloc (.cells #[.string m,Sv g4 (used m).length c4,.slice none 0 0] 139)).heap.size=w4.heap.size+1:=by simp
  rw[s5] at hg6;have s6:=k6.lt;have s7:=hv6.lt;have s8:w.heap.size+1<w4.heap.size:=v4.lt;have s9:w.heap.size+1<w3.heap.size:=v3.lt;have HH:Hid (g4<w4.heap.size/\w4.heap.size<g6/\g6<w6.heap.size/\w.heap.size+1<w4.heap.size/\w.heap.size+1<g4):=⟨s4,by omega,s6,s8,by omega⟩;have bf:IBuf w6.heap.size w6 none 0 0 []:=J0.ibuf_nil _;clear v1 v2 v3 v4 v5 hg hg' hg5 nb hv k4 k5 bel1 bel2 bel3 bel4 bel5 b2 b3 b4 b6 hA hp hf hr HT L1 c0 c1 c2 c3 s4 s5 s6 s7 s8 s9 hg4 hg6 hB;obtain ⟨n,en⟩:∃ n,(files m).length=n:=⟨_,rfl⟩;rw[en] at htk hfl hfin ⊢
  go_loopw [27] (fun i W=>∃ (j:Nat) (a':Option Addr) (c':Nat),j<=n/\i=Iv j/\K0.Blk w4.heap.size [.string m,Sv g4 (used m).length c4,.slice a' j c'] W/\IBuf w6.heap.size W a' j c' ((fin m).take j)/\K0.Blk g6 (ffl (files m)) W/\K0.Blk (w.heap.size+1) [.string ⟨#[]⟩,.slice none 0 0,.slice none 0 0] W/\K0.Blk g4 (ints (used m)) W/\w6.heap.size<=W.heap.size/\Bq w W) (fun i _=>n-(intOf i).toNat)
  case atStart=>exact ⟨0,none,0,Nat.zero_le _,rfl,hv6,bf,k6,v6,k46,Nat.le_refl _,bel6⟩
  case round=>
   obtain ⟨j,a7,c7,hj,rfl,hv7,bf7,k67,v7,k47,hs7,bel7⟩:=hrel;clear hv6 bf k6 v6 k46 bel6
   by_cases hlt:j<n
   ·obtain ⟨y0,y1,y2,y3,y4⟩:=FI.file_cells k67 (i:=j) (by omega)
    have HS:Hid ((fin m).take (j+1)=(fin m).take j ++ [((files m).getD j zf).ino]):=htk.out j hlt;obtain ⟨f,ef⟩:∃ f,(files m).getD j zf=f:=⟨_,rfl⟩;rw[ef] at y0 y1 y2 y3 y4 HS
    have e1:(0:Int)<=(j:Int):=by omega
    have e2:(j:Int)<(n:Int):=by omega
    have nl:=K0.below_new wr (.cells #[Iv f.ino,.string f.path,Iv f.kind,Iv f.owner,.string f.data] 164);have nbk:=K0.blk_new [Iv f.ino,.string f.path,Iv f.kind,Iv f.owner,.string f.data] wr 164;have z0:=nbk.c0;have hv8:=hv7.below nl;have bf8:=bf7.below nl;have k68:=k67.below nl;have v8:=v7.below nl;have k48:=k47.below nl;have hs8:=Nat.le_trans hs7 nl.size;have bel8:=bel7.trans (nl.mono bel7.size);have d2:=hv8.c2;clear hv7 bf7 k67 v7 k47 ef htk
    go_wp2_with (at_builtin;refine KO.append_intH rfl (.tmp 32) (.tmp 35) rfl bf8 f.ino (by rfl) (H:=wr.heap.size+1) (by simp) (by rfl) (by omega) hs8 ?_;intro g9 c9 w9 bf9 b9;have hv9:=J0.blk_keep hv8 b9 (by have:=HH.out;omega);have k69:=J0.blk_keep k68 b9 HH.out.2.2.1;have v9:=J0.blk_keep v8 b9 (by have:=HH.out;omega);have k49:=J0.blk_keep k48 b9 (by have:=HH.out;omega);have bel9:=bel8.trans (b9.mono (by have:=HH.out;omega));have g2:=hv9.c2;have h2:=hv9.f2)
    have hne1:w4.heap.size≠g6:=by have:=HH.out;omega
    have hne2:w4.heap.size≠w.heap.size+1:=by have:=HH.out;omega
    have hne3:w4.heap.size≠g4:=by have:=HH.out;omega
    have hle:w.heap.size<=w4.heap.size:=by have:=HH.out;omega
    have q:=hv9.set 2 (Sv g9 (j+1) c9);simp only[List.set_cons_zero,List.set_cons_succ] at q;have bfq:=ibuf_set bf9 (B:=w4.heap.size) (by have:=HH.out;omega) 2 (Sv g9 (j+1) c9);have k6q:=k69.setOther hne1 2 (Sv g9 (j+1) c9);have vq:=v9.setOther hne2 2 (Sv g9 (j+1) c9);have k4q:=k49.setOther hne3 2 (Sv g9 (j+1) c9);have hsq:w6.heap.size<=(w9.setCell ⟨w4.heap.size,2,none⟩ (Sv g9 (j+1) c9)).heap.size:=Nat.le_trans (Nat.le_trans (Nat.le_trans hs8 b9.size) (Nat.le_refl _)) (by simp);have belq:=bel9.setCell (p:=⟨w4.heap.size,2,none⟩) hle (Sv g9 (j+1) c9)
    go_roundw
    case rel=>exact ⟨j+1,some ⟨g9,0,none⟩,c9,by omega,by go_num,q,by rw[HS.out];exact bfq,k6q,vq,k4q,hsq,belq⟩
    case measure=>simp[intOf];omega
   ·obtain rfl:j=n:=by omega
    have htl:(fin m).take j=fin m:=List.take_of_length_le (by omega);rw[htl] at bf7;have d0:=hv7.c0;have d1:=hv7.c1;have d2:=hv7.c2;have f0:=v7.c0;have f1:=v7.c1;have f2:=v7.c2;have g0:=v7.f0;have g1:=v7.f1;have g2:=v7.f2;have HB7:Hid (IBuf w6.heap.size wr a7 j c7 (fin m)):=bf7;clear bf7 htk htl;go_wp2;have hle:w.heap.size<=w.heap.size+1:=Nat.le_add_right _ 1;have q:=((v7.set 0 (.string m)).set 1 (Sv g4 (used m).length c4)).set 2 (.slice a7 j c7);simp only[List.set_cons_zero,List.set_cons_succ] at q
    have hne:w.heap.size+1≠g4:=by have:=HH.out;omega
    have MF:=((bel7.setCell (p:=⟨w.heap.size+1,0,none⟩) hle (.string m)).setCell (p:=⟨w.heap.size+1,1,none⟩) hle (Sv g4 (used m).length c4)).setCell (p:=⟨w.heap.size+1,2,none⟩) hle (.slice a7 j c7);have k4q:=((k47.setOther hne 0 (.string m)).setOther hne 1 (Sv g4 (used m).length c4)).setOther hne 2 (.slice a7 j c7);have ow:=((HB7.out.own.set (B:=w.heap.size+1) (by have:=HH.out;omega) 0 (.string m)).set (B:=w.heap.size+1) (by have:=HH.out;omega) 1 (Sv g4 (used m).length c4)).set (B:=w.heap.size+1) (by have:=HH.out;omega) 2 (.slice a7 j c7);exact bodyPost_ret (v:=.tuple #[.agg #[.string m,Sv g4 (used m).length c4,.slice a7 j c7],.bool true]) (by simp[results,results101,go_sem,q.c0,q.c1,q.c2]) rfl ⟨m,some ⟨g4,0,none⟩,_,c4,a7,j,c7,rfl,MF,fun _=>⟨rfl,rfl,hfin.symm,I2.row_of_blk k4q,ow.row⟩⟩
end KV
namespace KQ
open N0 (Ln)
open N1 (Sl Lists Fit LB lb_new)
open HP (Rg at_)
open WI (rl)
open Z0 (dat Kp Lns kval)
open I2 (ints)
open X0 (mix mix_len)
open F1 (span)
def lay (a b:ByteArray) (r:Rg):ByteArray:=⟨(mix a.data.toList b.data.toList (span (r.1.toNat / 8) ((r.1.toNat+r.2.toNat-1) / 8))).toArray⟩
def layN (a b:ByteArray) (rs:List Rg):Nat->ByteArray
 | 0=>b
 | k+1=>lay a (layN a b rs k) (at_ rs k)
def layS (a b:ByteArray) (ds:List Ln):Nat->ByteArray
 | 0=>b
 | k+1=>layN a (layS a b ds k) (rl (dat ds k)) (rl (dat ds k)).length
theorem lay_size (a b:ByteArray) (r:Rg):(lay a b r).size=768:=by
 show (mix a.data.toList b.data.toList _).toArray.size=768
 rw[List.size_toArray,mix_len]
theorem layN_size (a b:ByteArray) (rs:List Rg) (hb:b.size=768):∀ k,(layN a b rs k).size=768
 | 0=>hb
 | k+1=>lay_size _ _ _
theorem layS_size (a b:ByteArray) (ds:List Ln) (hb:b.size=768):∀ k,(layS a b ds k).size=768
 | 0=>hb
 | k+1=>layN_size _ _ _ (layS_size a b ds hb k) _
theorem rangesLast (a b:ByteArray) (d:Ln) (s:Sl) (w:World) (ha:a.size=768) (hb:b.size=768) (hF:Fit d s) (hpo:d.po.length<=1048576) (hfr:d.fr.length<=1048576) (hR:Lists w d s) :
  Calls prog 90 #[.agg #[.string a,.string b],N1.val d s] w (Rb (.agg #[.string a,.string (layN a b (rl d) (rl d).length)]) w):=by
 have dv:=K0.blk_new [.string a,.string b] w 28;have m0:=K0.below_new w (.cells #[.string a,.string b] 28)
 have e1:(w.alloc (.cells #[.string a,.string b] 28)).heap.size=w.heap.size+1:=by simp
 have m1:=K0.below_new (w.alloc (.cells #[.string a,.string b] 28)) (.cells (N1.Lc d s) 46);have lb:=N1.lb_new d s (w.alloc (.cells #[.string a,.string b] 28)) 46
 have e2:((w.alloc (.cells #[.string a,.string b] 28)).alloc (.cells (N1.Lc d s) 46)).heap.size=w.heap.size+2:=by simp
 have m2:=K0.below_new ((w.alloc (.cells #[.string a,.string b] 28)).alloc (.cells (N1.Lc d s) 46)) (.cells #[.string ⟨#[]⟩,.string ⟨#[]⟩] 28);have rs:=K0.blk_new [.string ⟨#[]⟩,.string ⟨#[]⟩] ((w.alloc (.cells #[.string a,.string b] 28)).alloc (.cells (N1.Lc d s) 46)) 28;have dv3:=(dv.below m1).below m2;have lb3:=lb.below m2;have M3:=(m0.trans (m1.mono m0.size)).trans (m2.mono (Nat.le_trans m0.size m1.size));rw[e1] at lb3;rw[e2] at rs;have L3:=hR.below M3;have c0:=lb3.c0;have c1:=lb3.c1;have c2:=lb3.c2;have c3:=lb3.c3;have c4:=lb3.c4;have c5:=lb3.c5;have c6:=lb3.c6;have c7:=lb3.c7
 have hrg:Hid (∀ W,Lists W d s->_):=fun W h=>R6.impl_Ranges d s W hF hpo hfr h
 have hlt3:w.heap.size+2<(((w.alloc (.cells #[.string a,.string b] 28)).alloc (.cells (N1.Lc d s) 46)).alloc (.cells #[.string ⟨#[]⟩,.string ⟨#[]⟩] 28)).heap.size:=rs.lt;have hnr:(rl d).length=R6.nR d:=WI.rl_len d;obtain ⟨n,hn⟩:∃ n,(rl d).length=n:=⟨_,rfl⟩;rw[hn] at hnr;rw[hn]
 have hn13:n<=13:=by rw[<- hn];exact WI.rl_small d
 have HN:Hid ((rl d).length=n):=hn;clear dv m0 m1 lb m2 e1 e2 hR hF hn;go_enter func90,ntmps90
 go_wp2_with (go_at_call 126;refine (hrg.out _ L3).mono ?_;rintro e w4 ⟨a4,c4',rfl,hq4,hc4,o4,b4⟩;have M4:=M3.trans (b4.mono M3.size);have dv4:=dv3.below b4;have rs4:=rs.below b4;have r4:=WI.row_of o4)
 rw[<- hnr] at *;clear c0 c1 c2 c3 c4 c5 c6 c7 dv3 lb3 rs M3 L3 b4 o4 hrg hq4 hc4;have hlt4:w.heap.size+3<=((((w.alloc (.cells #[.string a,.string b] 28)).alloc (.cells (N1.Lc d s) 46)).alloc (.cells #[.string ⟨#[]⟩,.string ⟨#[]⟩] 28))).heap.size:=hlt3
 have r4':rl d=[]\/∃ G,a4=some ⟨G,0,none⟩/\w.heap.size+3<=G/\K0.Blk G (ints (R6.rg d)) w4:=r4.imp id fun ⟨G,h1,h2,h3⟩=>⟨G,h1,Nat.le_trans hlt4 h2,h3⟩
 clear r4 hlt3 hlt4
 go_loopw [10] (fun i w'=>∃ k:Nat,k<=n/\i=Iv k/\K0.Blk w.heap.size [.string a,.string (layN a b (rl d) k)] w'/\K0.Blk (w.heap.size+2) [.string ⟨#[]⟩,.string ⟨#[]⟩] w'/\(rl d=[]\/∃ G,a4=some ⟨G,0,none⟩/\w.heap.size+3<=G/\K0.Blk G (ints (R6.rg d)) w')/\Bq w w') (fun i _=>n-(intOf i).toNat)
 case atStart=>exact ⟨0,Nat.zero_le _,rfl,dv4,rs4,r4',M4⟩
 case round=>
  obtain ⟨k,hk,rfl,dvk,rsk,rk,hbel⟩:=hrel;clear dv4 rs4 r4' M4
  by_cases hlt:k<n
  ·obtain ⟨G,rfl,hG,kG⟩:∃ G,a4=some ⟨G,0,none⟩/\w.heap.size+3<=G/\K0.Blk G (ints (R6.rg d)) wr:=by
    rcases rk with h0 | h0
    ·rw[h0] at HN
     have:=HN.out;simp at this;omega
    ·exact h0
   have hkl:k<(rl d).length:=by have:=HN.out;omega
   obtain ⟨y1,y2⟩:=WI.row_get kG hkl;obtain ⟨i1,i2,i3⟩:=WI.at_in d hkl;have hsz:=layN_size a b (rl d) hb k;have hu:layN a b (rl d) (k+1)=lay a (layN a b (rl d) k) (at_ (rl d) k):=rfl;obtain ⟨r,er⟩:∃ r,at_ (rl d) k=r:=⟨_,rfl⟩;rw[er] at y1 y2 i1 i2 i3 hu;obtain ⟨u,v⟩:=r;simp only at y1 y2 i1 i2 i3;obtain ⟨cur,ec⟩:∃ cur,layN a b (rl d) k=cur:=⟨_,rfl⟩;rw[ec] at dvk hsz hu;have HU:Hid (layN a b (rl d) (k+1)=lay a cur (u,v)):=hu
   have hfl:Hid (∀ W,_):=fun W=>F1.impl_Flush_main a cur u v W ha hsz i1 (by omega) i3
   have x1:(0:Int)<=(k:Int):=by omega
   have x2:(k:Int)<(n:Int):=by omega
   have nb:=K0.below_new wr (.cells #[Iv u,Iv v] 107);have bx:=K0.blk_new [Iv u,Iv v] wr 107;have z0:=bx.c0;have z1:=bx.c1;have dvb:=dvk.below nb;have d0:=dvb.c0;have d1:=dvb.c1;have Mb:=hbel.trans (nb.mono hbel.size);clear er ec hu rk hb
   go_wp2_with (go_at_call 127;refine (hfl.out _).mono ?_;rintro e w5 ⟨rfl,b5⟩;have dv5:=dvb.below b5;have rs5:=(rsk.below nb).below b5;have k5:=(kG.below nb).below b5;have M5:=Mb.trans (b5.mono Mb.size);have f0:=dv5.c0;have f1:=dv5.c1;have g0:=dv5.f0;have g1:=dv5.f1)
   have q5:=dv5.put2 (.string a) (.string (lay a cur (u,v)));have rs6:=(rs5.setOther (B':=w.heap.size) (by omega) 0 (.string a)).setOther (B':=w.heap.size) (by omega) 1 (.string (lay a cur (u,v)));have k6:=(k5.setOther (B':=w.heap.size) (by omega) 0 (.string a)).setOther (B':=w.heap.size) (by omega) 1 (.string (lay a cur (u,v)));have M6:=(M5.setCell (p:=⟨w.heap.size,0,none⟩) (Nat.le_refl _) (.string a)).setCell (p:=⟨w.heap.size,1,none⟩) (Nat.le_refl _) (.string (lay a cur (u,v)))
   go_roundw
   case rel=>exact ⟨k+1,by omega,by go_num,by rw[HU.out];exact q5,rs6,Or.inr ⟨G,rfl,hG,k6⟩,M6⟩
   case measure=>simp[intOf];omega
  ·obtain rfl:k=n:=by omega
   have d0:=dvk.c0;have d1:=dvk.c1;have f0:=rsk.c0;have f1:=rsk.c1;have g0:=rsk.f0;have g1:=rsk.f1;have q:=rsk.put2 (.string a) (.string (layN a b (rl d) k));have MF:=(hbel.setCell (p:=⟨w.heap.size+2,0,none⟩) (Nat.le_add_right _ 2) (.string a)).setCell (p:=⟨w.heap.size+2,1,none⟩) (Nat.le_add_right _ 2) (.string (layN a b (rl d) k));clear rk;go_wp2;exact bodyPost_ret (v:=.agg #[.string a,.string (layN a b (rl d) k)]) (by simp[results,results90,go_sem,q.c0,q.c1]) rfl ⟨rfl,MF⟩
theorem restLasts (k:Kp) (a:Option Addr) (c:Nat) (ss:Nat->Sl) (w:World) (h1:k.mem.size=768) (h2:k.dur.size=768) (hn:k.ds.length<=1048576) (hF:Z4.Fits k.ds ss) (hR:Lns w a k.ds ss) :
  Calls prog 107 #[kval k a c] w (Rb (.bool (k.mem.toList == (layS k.mem k.dur k.ds k.ds.length).toList)) w):=by
 have x0:=Z4.bk_new w k a c;have m1:=K0.below_new (w.alloc (.cells #[.string k.mem,.string k.dur,.slice a k.ds.length c,Iv k.ck] 31)) (.cells #[.string k.mem,.string k.dur] 28)
 have e1:(w.alloc (.cells #[.string k.mem,.string k.dur,.slice a k.ds.length c,Iv k.ck] 31)).heap.size=w.heap.size+1:=by simp
 have dv:=K0.blk_new [.string k.mem,.string k.dur] (w.alloc (.cells #[.string k.mem,.string k.dur,.slice a k.ds.length c,Iv k.ck] 31)) 28;have M1:=x0.bel.trans (m1.mono x0.bel.size);have kb1:=x0.arg.below m1;rw[e1] at dv;have c0:=kb1.c0;have c1:=kb1.c1;have c2:=kb1.c2
 have HL:Hid (∀ W,Bq w W->Lns W a k.ds ss):=fun W hb=>hR.below hb
 have HF:Hid (Z4.Fits k.ds ss):=hF;clear x0 m1 e1 hR hF;go_enter func107,ntmps107;go_wp2
 go_loopw [11] (fun i w'=>∃ j:Nat,j<=k.ds.length/\i=Iv j/\K0.Blk (w.heap.size+1) [.string k.mem,.string (layS k.mem k.dur k.ds j)] w'/\Bq w w') (fun i _=>k.ds.length-(intOf i).toNat)
 case atStart=>exact ⟨0,Nat.zero_le _,rfl,dv,M1⟩
 case round=>
  obtain ⟨j,hj,rfl,dvk,hbel⟩:=hrel;clear dv M1 kb1 c0 c1 c2
  by_cases hlt:j<k.ds.length
  ·have ls:=(HL.out _ hbel).sub j hlt
   obtain ⟨hf,hpo,hfr⟩:=HF.out j hlt;obtain ⟨b,off,hab,hlt0,hc⟩:=(HL.out _ hbel).row.get hlt;subst hab;obtain ⟨y0,y1,y2,y3,y4,y5,y6,y7⟩:=hc j hlt;have hsz:=layS_size k.mem k.dur k.ds h2 j;have hu:layS k.mem k.dur k.ds (j+1)=layN k.mem (layS k.mem k.dur k.ds j) (rl (dat k.ds j)) (rl (dat k.ds j)).length:=rfl;obtain ⟨d,ed⟩:∃ d,dat k.ds j=d:=⟨_,rfl⟩;obtain ⟨s,es⟩:∃ s,ss j=s:=⟨_,rfl⟩;rw[ed,es] at ls hf;rw[ed] at y0 y1 y2 y3 y4 y5 y6 y7 hpo hfr hu;rw[es] at y4 y6 y7;obtain ⟨cur,ec⟩:∃ cur,layS k.mem k.dur k.ds j=cur:=⟨_,rfl⟩;rw[ec] at dvk hsz hu;have HU:Hid (layS k.mem k.dur k.ds (j+1)=layN k.mem cur (rl d) (rl d).length):=hu
   have hrl:Hid (∀ W,Bq wr W->_):=fun W hb=>rangesLast k.mem cur d s W h1 hsz hf hpo hfr (ls.below hb)
   obtain ⟨nxt,en⟩:∃ nxt,layN k.mem cur (rl d) (rl d).length=nxt:=⟨_,rfl⟩;rw[en] at hrl HU
   have x1:(0:Int)<=(j:Int):=by omega
   have x2:(j:Int)<(k.ds.length:Int):=by omega
   have nb:=K0.below_new wr (.cells (N1.Lc d s) 46);have dvb:=dvk.below nb;have d0:=dvb.c0;have d1:=dvb.c1;have Mb:=hbel.trans (nb.mono hbel.size);clear ed es ec en hu hc ls hf
   go_wp2_with (go_at_call 90;refine (hrl.out _ nb).mono ?_;rintro e w5 ⟨rfl,b5⟩;have dv5:=dvb.below b5;have M5:=Mb.trans (b5.mono Mb.size);have f0:=dv5.c0;have f1:=dv5.c1;have g0:=dv5.f0;have g1:=dv5.f1)
   have q5:=dv5.put2 (.string k.mem) (.string nxt);have M6:=(M5.setCell (p:=⟨w.heap.size+1,0,none⟩) (Nat.le_succ _) (.string k.mem)).setCell (p:=⟨w.heap.size+1,1,none⟩) (Nat.le_succ _) (.string nxt)
   go_roundw
   case rel=>exact ⟨j+1,by omega,by go_num,by rw[HU.out];exact q5,M6⟩
   case measure=>simp[intOf];omega
  ·obtain rfl:j=k.ds.length:=by omega
   have d0:=dvk.c0;have d1:=dvk.c1;clear HL HF;go_wp2;go_ret;exact ⟨rfl,hbel⟩
end KQ
namespace KT
open N0 (Ln)
open N1 (Sl Lists Fit)
open HP (Rg at_)
open WI (rl)
open Z0 (dat Kp Lns kval)
open Z4 (Bk bk_new)
open I2 (ints)
open N13 (laid_size)
def outN (a:ByteArray) (rs:List Rg):Nat->ByteArray
 | 0=>a
 | k+1=>B5.laid (outN a rs k) (at_ rs k).1 (B4.zeros (at_ rs k).2)
def outS (a:ByteArray) (ds:List Ln):Nat->ByteArray
 | 0=>a
 | k+1=>outN (outS a ds k) (rl (dat ds k)) (rl (dat ds k)).length
theorem outN_size (a:ByteArray) (rs:List Rg):∀ k,(outN a rs k).size=a.size
 | 0=>rfl
 | k+1=>by rw[outN,laid_size,outN_size a rs k]
theorem outS_size (a:ByteArray) (ds:List Ln):∀ k,(outS a ds k).size=a.size
 | 0=>rfl
 | k+1=>by rw[outS,outN_size,outS_size a ds k]
theorem zeros_small (v:Int):(B4.zeros v).size<=281474976710656:=by
 unfold B4.zeros
 split
 ·rename_i h
  rw[B4.nulls_size];omega
 ·exact Nat.zero_le _
theorem l06Outside (k:Kp) (a:Option Addr) (c:Nat) (ss:Nat->Sl) (w:World) (hm1:k.mem.size<=281474976710656) (hm2:k.dur.size<=281474976710656) (hn:k.ds.length<=1048576) (hF:Z4.Fits k.ds ss) (hR:Lns w a k.ds ss) :
  Calls prog 37 #[kval k a c] w (Rb (.bool ((outS k.mem k.ds k.ds.length).toList == (outS k.dur k.ds k.ds.length).toList)) w):=by
 have x0:=bk_new w k a c
 have HL:Hid (∀ W,Bq w W->Lns W a k.ds ss):=fun W hb=>hR.below hb
 have HF:Hid (Z4.Fits k.ds ss):=hF;have x1:Bk w k a c (w.alloc (.cells #[.string k.mem,.string k.dur,.slice a k.ds.length c,Iv k.ck] 31)).drew:=x0.below ((Below.refl _ _).drew);have c0:=x0.arg.c0;have c1:=x0.arg.c1;clear hR hF;go_enter func37,ntmps37;go_wp2
 go_quiet (fail)
 have x2:=x0.below (K0.below_drewN (Below.refl _ _) nq);clear c0 c1 x1 x0;go_wp2
 go_loopw [3,4,5] (fun p q i w'=>∃ j:Nat,j<=k.ds.length/\i=Iv j/\p=.string (outS k.mem k.ds j)/\q=.string (outS k.dur k.ds j)/\Bk w k a c w') (fun _ _ i _=>k.ds.length-(intOf i).toNat)
 case atStart=>exact ⟨0,Nat.zero_le _,rfl,rfl,rfl,x2⟩
 case round=>
  obtain ⟨j,hj,rfl,rfl,rfl,xr⟩:=hrel;clear x2;have c2:=xr.arg.c2
  by_cases hlt:j<k.ds.length
  ·have ls:=(HL.out _ xr.bel).sub j hlt
   obtain ⟨hf,hpo,hfr⟩:=HF.out j hlt;obtain ⟨b,off,hab,hlt0,hc⟩:=(HL.out _ xr.bel).row.get hlt;obtain ⟨y0,y1,y2,y3,y4,y5,y6,y7⟩:=hc j hlt;have s1:=outS_size k.mem k.ds j;have s2:=outS_size k.dur k.ds j;have hs1:outS k.mem k.ds (j+1)=outN (outS k.mem k.ds j) (rl (dat k.ds j)) (rl (dat k.ds j)).length:=rfl;have hs2:outS k.dur k.ds (j+1)=outN (outS k.dur k.ds j) (rl (dat k.ds j)) (rl (dat k.ds j)).length:=rfl;obtain ⟨d,ed⟩:∃ d,dat k.ds j=d:=⟨_,rfl⟩;obtain ⟨s,es⟩:∃ s,ss j=s:=⟨_,rfl⟩;rw[ed,es] at ls hf;rw[ed] at y0 y1 y2 y3 y4 y5 y6 y7 hs1 hs2 hpo hfr;rw[es] at y4 y6 y7;rw[hab] at c2;obtain ⟨A,eA⟩:∃ A,outS k.mem k.ds j=A:=⟨_,rfl⟩;obtain ⟨B,eB⟩:∃ B,outS k.dur k.ds j=B:=⟨_,rfl⟩;rw[eA] at hs1 s1;rw[eB] at hs2 s2;rw[eA,eB];have HS1:Hid (outS k.mem k.ds (j+1)=outN A (rl d) (rl d).length):=hs1;have HS2:Hid (outS k.dur k.ds (j+1)=outN B (rl d) (rl d).length):=hs2
   have e1:(0:Int)<=(j:Int):=by omega
   have e2:(j:Int)<(k.ds.length:Int):=by omega
   have HRg:Hid (Calls prog 65 #[N1.val d s] wr (R6.Ans d wr)):=R6.spec_Ranges d s wr hf hpo hfr ls;have hnr:(rl d).length=R6.nR d:=WI.rl_len d;obtain ⟨n,hnn⟩:∃ n,(rl d).length=n:=⟨_,rfl⟩;rw[hnn] at hnr
   have hn13:n<=13:=by rw[<- hnn];exact WI.rl_small d
   have HN:Hid ((rl d).length=n):=hnn;clear hab ed es hc ls hf eA eB hs1 hs2 hnn
   go_wp2_with (go_at_call 65;refine HRg.out.mono ?_;rintro e w4 ⟨a4,c4',rfl,hq4,hc4,o4,b4⟩;have x4:=xr.below b4;have r4:=WI.row_of o4)
   rw[<- hnr] at *
   have r4':rl d=[]\/∃ G,a4=some ⟨G,0,none⟩/\K0.Blk G (ints (R6.rg d)) w4:=r4.imp id fun ⟨G,h1,h2,h3⟩=>⟨G,h1,h3⟩
   clear r4 hq4 hc4 o4 b4 HRg y0 y1 y2 y3 y4 y5 y6 y7 c2 xr
   go_loopw [3,4,7] (fun p q i w'=>∃ t:Nat,t<=n/\i=Iv t/\p=.string (outN A (rl d) t)/\q=.string (outN B (rl d) t)/\Bk w k a c w'/\(rl d=[]\/∃ G,a4=some ⟨G,0,none⟩/\K0.Blk G (ints (R6.rg d)) w')) (fun _ _ i _=>n-(intOf i).toNat)
   case atStart=>exact ⟨0,Nat.zero_le _,rfl,rfl,rfl,x4,r4'⟩
   case round=>
    obtain ⟨t,ht,rfl,rfl,rfl,xq,rk⟩:=hrel;clear x4 r4'
    by_cases hlt2:t<n
    ·obtain ⟨G,rfl,kG⟩:∃ G,a4=some ⟨G,0,none⟩/\K0.Blk G (ints (R6.rg d)) wr:=by
      rcases rk with h0 | h0
      ·rw[h0] at HN
       have:=HN.out;simp at this;omega
      ·exact h0
     have hkl:t<(rl d).length:=by have:=HN.out;omega
     obtain ⟨y1,y2⟩:=WI.row_get kG hkl;have z1:=outN_size A (rl d) t;have z2:=outN_size B (rl d) t;have h1:outN A (rl d) (t+1)=B5.laid (outN A (rl d) t) (at_ (rl d) t).1 (B4.zeros (at_ (rl d) t).2):=rfl;have h2:outN B (rl d) (t+1)=B5.laid (outN B (rl d) t) (at_ (rl d) t).1 (B4.zeros (at_ (rl d) t).2):=rfl;obtain ⟨r,er⟩:∃ r,at_ (rl d) t=r:=⟨_,rfl⟩;rw[er] at y1 y2 h1 h2;obtain ⟨u,v⟩:=r;simp only at y1 y2 h1 h2;obtain ⟨A',eA⟩:∃ A',outN A (rl d) t=A':=⟨_,rfl⟩;obtain ⟨B',eB⟩:∃ B',outN B (rl d) t=B':=⟨_,rfl⟩;rw[eA] at h1 z1;rw[eB] at h2 z2;rw[eA,eB];have H1:Hid (outN A (rl d) (t+1)=B5.laid A' u (B4.zeros v)):=h1;have H2:Hid (outN B (rl d) (t+1)=B5.laid B' u (B4.zeros v)):=h2
     have hwa:Hid (∀ W,Calls prog 66 #[.string A',Iv u,.string (B4.zeros v)] W fun e w'=>e=.returned (.string (B5.laid A' u (B4.zeros v)))/\∃ n,w'=W.drewN n):=fun W=>B5.spec_With _ _ _ _ (by omega) (zeros_small v)
     have hwb:Hid (∀ W,Calls prog 66 #[.string B',Iv u,.string (B4.zeros v)] W fun e w'=>e=.returned (.string (B5.laid B' u (B4.zeros v)))/\∃ n,w'=W.drewN n):=fun W=>B5.spec_With _ _ _ _ (by omega) (zeros_small v)
     have q1:(0:Int)<=(t:Int):=by omega
     have q2:(t:Int)<(n:Int):=by omega
     clear eA eB h1 h2 rk;go_wp2
     go_quiet ((first
      | (go_at_call 47;exact Calls.quiet_of_same (B4.spec_Zeros _ _))
      | (go_at_call 66;exact Calls.quiet_of (hwa.out _))))
     have xs:=xq.below (K0.below_drewN (Below.refl _ _) nq);have kH:=kG.drewN nq;obtain ⟨w5,hw5⟩:∃ w5,wr.drewN nq=w5:=⟨_,rfl⟩;rw[hw5] at xs kH ⊢;obtain ⟨y1',y2'⟩:=WI.row_get kH hkl;rw[er] at y1' y2';simp only at y1' y2';clear hw5 er;go_wp2
     go_quiet ((first
      | (go_at_call 47;exact Calls.quiet_of_same (B4.spec_Zeros _ _))
      | (go_at_call 66;exact Calls.quiet_of (hwb.out _))))
     have xs2:=xs.below (K0.below_drewN (Below.refl _ _) nq);have kH2:=kH.drewN nq;go_wp2
     go_roundw
     case rel=>exact ⟨t+1,by omega,by go_num,by rw[H1.out],by rw[H2.out],xs2,Or.inr ⟨G,rfl,kH2⟩⟩
     case measure=>simp[intOf];omega
    ·obtain rfl:t=n:=by omega
     have e9:decide ((t:Int)<(t:Int))=false:=by simp
     have HN2:=HN.out;go_wp2
     go_roundw
     case rel=>exact ⟨j+1,by omega,by go_num,by rw[HS1.out,HN2],by rw[HS2.out,HN2],xq⟩
     case measure=>simp[intOf];omega
  ·obtain rfl:j=k.ds.length:=by omega
   have e9:decide ((k.ds.length:Int)<(k.ds.length:Int))=false:=by simp
   clear HL HF;go_wp2;go_ret;exact ⟨rfl,xr.bel⟩
end KT
namespace KI
open N0 (Ln)
open N1 (Sl Lists Fit LB)
open Z0 (dat Kp Lns kval)
open Z4 (Bk bk_new truth)
open KO (gath Out)
open KP (once)
open KQ (layS)
open US (used)
open TW (sound)
open KV (fin)
def hAt (k:Kp) (j:Nat):Bool:=KH.has (truth k) (used (truth k)) (fin (truth k)) (dat k.ds j)
abbrev ginos (ds:List Ln):List Int:=gath (fun d:Ln=>[d.ino]) ds ds.length
abbrev gfr (ds:List Ln):List Int:=gath (fun d:Ln=>d.fr) ds ds.length
abbrev gpo (ds:List Ln):List Int:=gath (fun d:Ln=>d.po) ds ds.length
def lasts (k:Kp):Bool:=k.mem.toList == (layS k.mem k.dur k.ds k.ds.length).toList
def iK (k:Kp):Bool:=D1.ok k.mem k.dur && (!decide (k.ck<0) && (!decide (999999<k.ck) && (N0.asc (ginos k.ds) && (sound (truth k) && (N0.to (hAt k) k.ds.length && (once (ginos k.ds++gfr k.ds) && (once (gpo k.ds) && lasts k)))))))
theorem gath_le (f:Ln->List Int) (ds:List Ln) (b n:Nat) (h:∀ j,j<n->(f (dat ds j)).length<=b):∀ k,k<=n->(gath f ds k).length<=k*b
 | 0,_=>by simp[gath]
 | k+1,hk=>by
  have h1:=gath_le f ds b n h k (by omega);have h2:=h k (by omega);rw[gath,List.length_append,Nat.succ_mul];omega
theorem gi_len (ds:List Ln):∀ k,(gath (fun d:Ln=>[d.ino]) ds k).length=k
 | 0=>rfl
 | k+1=>by rw[gath,List.length_append,gi_len ds k];rfl
theorem gi_get (ds:List Ln):∀ k i,i<k->(gath (fun d:Ln=>[d.ino]) ds k).getD i 0=(dat ds i).ino
 | 0,i,h=>by omega
 | k+1,i,h=>by
  rw[gath];have hl:=gi_len ds k
  by_cases hi:i<k
  ·have h1:=gi_get ds k i hi
   rw[List.getD_eq_getElem?_getD] at h1 ⊢;rw[List.getElem?_append_left (by omega)];exact h1
  ·obtain rfl:i=k:=by omega
   rw[List.getD_eq_getElem?_getD,List.getElem?_append_right (by omega),hl];simp
theorem asc_up {zs:List Int} (h:N0.asc zs=true) (h0:∀ i,i<zs.length->0<=zs.getD i 0):∀ i,i<zs.length->(i:Int)<=zs.getD i 0
 | 0,hi=>h0 0 hi
 | i+1,hi=>by
  have h1:=asc_up h h0 i (by omega);have h2:=N0.to_iff.1 h (i+1) hi;simp only[N0.ascAt,Bool.or_eq_true,decide_eq_true_eq,Nat.add_sub_cancel] at h2;omega
theorem few {k:Kp} (h1:N0.asc (ginos k.ds)=true) (h2:N0.to (hAt k) k.ds.length=true):k.ds.length<=8/\∀ j,j<k.ds.length->N0.loanOk (dat k.ds j)=true:=by
 have hok:∀ j,j<k.ds.length->N0.loanOk (dat k.ds j)=true:=fun j hj=>by
  have h:=N0.to_iff.1 h2 j hj;simp only[hAt,KH.has,Bool.and_eq_true] at h;exact h.1
 refine ⟨?_,hok⟩;have hl:=gi_len k.ds k.ds.length
 have hio:∀ i,i<k.ds.length->0<=(dat k.ds i).ino/\(dat k.ds i).ino<=7:=fun i hi=>(N0.loanOk_is (hok i hi)).2.2.2.2.1
 by_cases h:k.ds.length<=8
 ·exact h
 ·have h3:=asc_up h1 (fun i hi=>by
   have hi':i<k.ds.length:=by rw[<- hl];exact hi
   show 0<=(gath (fun d:Ln=>[d.ino]) k.ds k.ds.length).getD i 0
   rw[gi_get k.ds k.ds.length i hi']
   exact (hio i hi').1) 8 (by show 8<(gath (fun d:Ln=>[d.ino]) k.ds k.ds.length).length;omega)
  have h4:=(hio 8 (by omega)).2;have h5:(ginos k.ds).getD 8 0=(dat k.ds 8).ino:=gi_get k.ds k.ds.length 8 (by omega);omega
theorem few_len {k:Kp} (h1:N0.asc (ginos k.ds)=true) (h2:N0.to (hAt k) k.ds.length=true):(ginos k.ds++gfr k.ds).length<=1000/\(gpo k.ds).length<=1000:=by
 obtain ⟨h8,hok⟩:=few h1 h2;have a1:=gi_len k.ds k.ds.length;have a2:=gath_le (fun d:Ln=>d.fr) k.ds 2 k.ds.length (fun j hj=>(N0.loanOk_is (hok j hj)).2.2.2.2.2.2.2.2.1) k.ds.length (Nat.le_refl _);have a3:=gath_le (fun d:Ln=>d.po) k.ds 4 k.ds.length (fun j hj=>(N0.loanOk_is (hok j hj)).2.2.2.2.2.2.2.1) k.ds.length (Nat.le_refl _);refine ⟨?_,by show (gath (fun d:Ln=>d.po) k.ds k.ds.length).length<=1000;omega⟩;rw[List.length_append]
 show (gath (fun d:Ln=>[d.ino]) k.ds k.ds.length).length+(gath (fun d:Ln=>d.fr) k.ds k.ds.length).length<=1000
 omega
theorem impl_KeeperOk (k:Kp) (a:Option Addr) (c:Nat) (ss:Nat->Sl) (w:World) (hm1:k.mem.size<=1048576) (hm2:k.dur.size<=1048576) (ht:k.ds.length+Z1.tot k.ds k.ds.length<=1048576) (hF:Z4.Fits k.ds ss) (hR:Lns w a k.ds ss) :
  Calls prog 78 #[kval k a c] w (Rb (.bool (iK k)) w):=by
 have xc:=bk_new w k a c
 have hn:k.ds.length<=1048576:=by omega
 have hgi:(ginos k.ds).length<=1048576:=by
  have h1:=gi_len k.ds k.ds.length
  show (gath (fun d:Ln=>[d.ino]) k.ds k.ds.length).length<=1048576
  omega
 have hgf:(gfr k.ds).length<=1048576:=by
  have h1:=KO.gath_len (fun d:Ln=>d.fr) k.ds 0 (fun d=>by unfold N3.total;omega) k.ds.length
  show (gath (fun d:Ln=>d.fr) k.ds k.ds.length).length<=1048576
  omega
 have HL:Hid (∀ W,Bq w W->Lns W a k.ds ss):=fun W hb=>hR.below hb
 have HIn:Hid (∀ W,Bq w W->Calls prog 98 #[.slice a k.ds.length c] W fun e w'=>∃ a c,e=.returned (.slice a (ginos k.ds).length c)/\P0.Row w' a (ginos k.ds)/\Bq W w'):=fun W hb=>(KO.lentInos a c k.ds ss W hn ht (hR.below hb)).mono fun e w' ⟨a,c,he,ho,_,hb⟩=>⟨a,c,he,ho.row,hb⟩
 have HFr:Hid (∀ W,Bq w W->Calls prog 105 #[.slice a k.ds.length c] W fun e w'=>∃ a c,e=.returned (.slice a (gfr k.ds).length c)/\P0.Row w' a (gfr k.ds)/\Bq W w'):=fun W hb=>(KO.lentFresh a c k.ds ss W hn ht (hR.below hb)).mono fun e w' ⟨a,c,he,ho,_,hb⟩=>⟨a,c,he,ho.row,hb⟩
 have HPo:Hid (∀ W,Bq w W->Calls prog 106 #[.slice a k.ds.length c] W fun e w'=>∃ a c,e=.returned (.slice a (gpo k.ds).length c)/\P0.Row w' a (gpo k.ds)/\Bq W w'):=fun W hb=>(KO.lentPool a c k.ds ss W hn ht (hR.below hb)).mono fun e w' ⟨a,c,he,ho,_,hb⟩=>⟨a,c,he,ho.row,hb⟩
 have HDv:Hid (∀ W,Calls prog 99 #[.agg #[.string k.mem,.string k.dur]] W (Rb (.bool (D1.ok k.mem k.dur)) W)):=fun W=>(D1.impl_DevOk k.mem k.dur W (by unfold maxLen;omega) (by unfold maxLen;omega)).mono fun e w' ⟨he,hw⟩=>⟨he,by rw[hw];exact K0.below_new _ _⟩
 have HAs:Hid (∀ a c W,P0.Row W a (ginos k.ds)->Calls prog 100 #[.slice a (ginos k.ds).length c] W fun e w'=>e=.returned (.bool (N0.asc (ginos k.ds)))/\∃ n,w'=W.drewN n):=fun a c W h=>N2.ascends a c _ W (by omega) h
 have HVi:Hid (∀ W,Bq w W->_):=fun W hb=>KV.viewOf k a c ss W (by omega) hn hF (hR.below hb)
 have HAn:Hid (∀ W e w',KV.Ans k W e w'->∃ x a1 n1 c1 a2 n2 c2,e=.returned (.tuple #[.agg #[.string x,.slice a1 n1 c1,.slice a2 n2 c2],.bool (sound (truth k))])/\Bq W w'/\(sound (truth k)=true->x=truth k/\n1=(used (truth k)).length/\n2=(fin (truth k)).length/\P0.Row w' a1 (used (truth k))/\P0.Row w' a2 (fin (truth k)))):=fun W e w' h=>h
 have HHa:Hid (∀ (j:Nat) (a1 a2:Option Addr) (c1 c2:Nat) W,(truth k).size=768->Bq w W->P0.Row W a1 (used (truth k))->P0.Row W a2 (fin (truth k))->j<k.ds.length->Calls prog 102 #[.agg #[.string (truth k),.slice a1 (used (truth k)).length c1,.slice a2 (fin (truth k)).length c2],N1.val (dat k.ds j) (ss j)] W (Rb (.bool (hAt k j)) W)):=fun j a1 a2 c1 c2 W h1 hb r1 r2 hj=>by
  obtain ⟨f1,f2,f3⟩:=hF j hj;have hfl:=KV.files_len (truth k);exact KH.view_has (truth k) a1 a2 c1 c2 (used (truth k)) (fin (truth k)) (dat k.ds j) (ss j) W h1 f1 f2 f3 (US.used_len _) (by rw[KV.fin_len];omega) ((hR.below hb).sub j hj) r1 r2
 have HCo:Hid (∀ (ia fa:Option Addr) (ic fc:Nat) W,P0.Row W ia (ginos k.ds)->P0.Row W fa (gfr k.ds)->Calls prog 104 #[Sv W.heap.size 2 2] (W.alloc (.cells #[.slice ia (ginos k.ds).length ic,.slice fa (gfr k.ds).length fc] 32)) fun e w'=>∃ a c,e=.returned (.slice a (ginos k.ds++gfr k.ds).length c)/\P0.Row w' a (ginos k.ds++gfr k.ds)/\Bq W w'):=fun ia fa ic fc W r1 r2=>by
  have nb:=K0.below_new W (.cells #[.slice ia (ginos k.ds).length ic,.slice fa (gfr k.ds).length fc] 32);have bk:=K0.blk_new [.slice ia (ginos k.ds).length ic,.slice fa (gfr k.ds).length fc] W 32
  exact (Q1.concat W.heap.size ia fa ic fc (ginos k.ds) (gfr k.ds) _ bk.c0 bk.c1 bk.lt (r1.below nb) (r2.below nb) hgi hgf).mono fun e w' ⟨a,c,he,ho,_,hb⟩=>⟨a,c,he,ho.row,nb.trans (hb.mono nb.size)⟩
 have HA1:Hid (N0.asc (ginos k.ds)=true->N0.to (hAt k) k.ds.length=true->∀ a c W,P0.Row W a (ginos k.ds++gfr k.ds)->Calls prog 103 #[.slice a (ginos k.ds++gfr k.ds).length c] W (Rb (.bool (once (ginos k.ds++gfr k.ds))) W)):=fun h1 h2 a c W h=>KP.allApart a c _ W (few_len h1 h2).1 h
 have HA2:Hid (N0.asc (ginos k.ds)=true->N0.to (hAt k) k.ds.length=true->∀ a c W,P0.Row W a (gpo k.ds)->Calls prog 103 #[.slice a (gpo k.ds).length c] W (Rb (.bool (once (gpo k.ds))) W)):=fun h1 h2 a c W h=>KP.allApart a c _ W (few_len h1 h2).2 h
 have HRe:Hid (D1.ok k.mem k.dur=true->∀ W,Bq w W->Calls prog 107 #[kval k a c] W (Rb (.bool (lasts k)) W)):=fun h W hb=>KQ.restLasts k a c ss W (D1.ok_true h).1 (D1.ok_true h).2 hn hF (hR.below hb)
 have HD:Hid (D1.ok k.mem k.dur=true->(truth k).size=768):=fun h=>by rw[show (truth k).size=k.mem.size from Z4.unAll_size _ _ _];exact (D1.ok_true h).1
 have c0:=xc.arg.c0;have c1:=xc.arg.c1;have c2:=xc.arg.c2;have c3:=xc.arg.c3;clear hR hF;unfold iK;obtain ⟨m,em⟩:∃ m,truth k=m:=⟨_,rfl⟩;obtain ⟨us,eu⟩:∃ us,used m=us:=⟨_,rfl⟩;obtain ⟨fs,ef⟩:∃ fs,fin m=fs:=⟨_,rfl⟩;rw[em,eu,ef] at HHa HAn;rw[em] at HD ⊢;obtain ⟨gi,egi⟩:∃ g,ginos k.ds=g:=⟨_,rfl⟩;obtain ⟨gf,egf⟩:∃ g,gfr k.ds=g:=⟨_,rfl⟩;obtain ⟨gp,egp⟩:∃ g,gpo k.ds=g:=⟨_,rfl⟩;rw[egi] at HIn HAs HCo HA1 HA2 ⊢;rw[egf] at HFr HCo HA1 ⊢;rw[egp] at HPo HA2 ⊢;obtain ⟨gq,egq⟩:∃ g,gi++gf=g:=⟨_,rfl⟩;rw[egq] at HCo HA1 ⊢;clear em eu ef egi egf egp egq hgi hgf
 cases hc0:D1.ok k.mem k.dur with
 | false=>
  rw[hc0] at HDv;go_enter func78,ntmps78
  go_wp2_with (first
   | (go_at_call 98;refine (HIn.out _ xc.bel).mono ?_;rintro e w1 ⟨ia,ic,rfl,ir,b1⟩;replace xc:=xc.below b1;replace c0:=xc.arg.c0;replace c1:=xc.arg.c1;replace c2:=xc.arg.c2;replace c3:=xc.arg.c3)
   | (go_at_call 99;refine (HDv.out _).mono ?_;rintro e w1 ⟨rfl,b1⟩;replace xc:=xc.below b1;replace c0:=xc.arg.c0;replace c1:=xc.arg.c1;replace c2:=xc.arg.c2;replace c3:=xc.arg.c3;replace ir:=ir.below b1))
  go_ret;exact ⟨rfl,xc.bel⟩
 | true=>
  have hm:m.size=768:=HD.out hc0;replace HRe:Hid (∀ W,Bq w W->Calls prog 107 #[kval k a c] W (Rb (.bool (lasts k)) W)):=HRe.out hc0;rw[hc0] at HDv
  by_cases hq4:k.ck<0
  ·rw[decide_eq_true hq4]
   go_enter func78,ntmps78
   go_wp2_with (first
    | (go_at_call 98;refine (HIn.out _ xc.bel).mono ?_;rintro e w1 ⟨ia,ic,rfl,ir,b1⟩;replace xc:=xc.below b1;replace c0:=xc.arg.c0;replace c1:=xc.arg.c1;replace c2:=xc.arg.c2;replace c3:=xc.arg.c3)
    | (go_at_call 99;refine (HDv.out _).mono ?_;rintro e w1 ⟨rfl,b1⟩;replace xc:=xc.below b1;replace c0:=xc.arg.c0;replace c1:=xc.arg.c1;replace c2:=xc.arg.c2;replace c3:=xc.arg.c3;replace ir:=ir.below b1))
   go_ret;exact ⟨rfl,xc.bel⟩
  ·rw[decide_eq_false hq4]
   have hr4:decide (k.ck<0)=false:=decide_eq_false hq4
   by_cases hq6:999999<k.ck
   ·rw[decide_eq_true hq6]
    go_enter func78,ntmps78
    go_wp2_with (first
     | (go_at_call 98;refine (HIn.out _ xc.bel).mono ?_;rintro e w1 ⟨ia,ic,rfl,ir,b1⟩;replace xc:=xc.below b1;replace c0:=xc.arg.c0;replace c1:=xc.arg.c1;replace c2:=xc.arg.c2;replace c3:=xc.arg.c3)
     | (go_at_call 99;refine (HDv.out _).mono ?_;rintro e w1 ⟨rfl,b1⟩;replace xc:=xc.below b1;replace c0:=xc.arg.c0;replace c1:=xc.arg.c1;replace c2:=xc.arg.c2;replace c3:=xc.arg.c3;replace ir:=ir.below b1))
    go_ret;exact ⟨rfl,xc.bel⟩
   ·rw[decide_eq_false hq6]
    have hr6:decide (999999<k.ck)=false:=decide_eq_false hq6
    cases hc3:N0.asc gi with
    | false=>
     rw[hc3] at HAs;go_enter func78,ntmps78
     go_wp2_with (first
      | (go_at_call 98;refine (HIn.out _ xc.bel).mono ?_;rintro e w1 ⟨ia,ic,rfl,ir,b1⟩;replace xc:=xc.below b1;replace c0:=xc.arg.c0;replace c1:=xc.arg.c1;replace c2:=xc.arg.c2;replace c3:=xc.arg.c3)
      | (go_at_call 99;refine (HDv.out _).mono ?_;rintro e w1 ⟨rfl,b1⟩;replace xc:=xc.below b1;replace c0:=xc.arg.c0;replace c1:=xc.arg.c1;replace c2:=xc.arg.c2;replace c3:=xc.arg.c3;replace ir:=ir.below b1)
      | (go_at_call 100;refine (HAs.out _ _ _ ir).mono ?_;rintro e w1 ⟨rfl,n1,rfl⟩;replace xc:=xc.below (K0.below_drewN (Below.refl _ _) n1);replace c0:=xc.arg.c0;replace c1:=xc.arg.c1;replace c2:=xc.arg.c2;replace c3:=xc.arg.c3;replace ir:=ir.below (K0.below_drewN (Below.refl _ _) n1)))
     go_ret;exact ⟨rfl,xc.bel⟩
    | true=>
     replace HA1:=HA1.out hc3;replace HA2:=HA2.out hc3;have HA1:Hid _:=HA1;have HA2:Hid _:=HA2;rw[hc3] at HAs
     cases hc4:sound m with
     | false=>
      rw[hc4] at HAn;go_enter func78,ntmps78
      go_wp2_with (first
       | (go_at_call 98;refine (HIn.out _ xc.bel).mono ?_;rintro e w1 ⟨ia,ic,rfl,ir,b1⟩;replace xc:=xc.below b1;replace c0:=xc.arg.c0;replace c1:=xc.arg.c1;replace c2:=xc.arg.c2;replace c3:=xc.arg.c3)
       | (go_at_call 99;refine (HDv.out _).mono ?_;rintro e w1 ⟨rfl,b1⟩;replace xc:=xc.below b1;replace c0:=xc.arg.c0;replace c1:=xc.arg.c1;replace c2:=xc.arg.c2;replace c3:=xc.arg.c3;replace ir:=ir.below b1)
       | (go_at_call 100;refine (HAs.out _ _ _ ir).mono ?_;rintro e w1 ⟨rfl,n1,rfl⟩;replace xc:=xc.below (K0.below_drewN (Below.refl _ _) n1);replace c0:=xc.arg.c0;replace c1:=xc.arg.c1;replace c2:=xc.arg.c2;replace c3:=xc.arg.c3;replace ir:=ir.below (K0.below_drewN (Below.refl _ _) n1))
       | (go_at_call 101;refine (HVi.out _ xc.bel).mono ?_;intro e w1 hans;obtain ⟨vx,va1,vn1,vc1,va2,vn2,vc2,rfl,b1,hy⟩:=HAn.out _ _ _ hans;clear hans;clear hy;replace xc:=xc.below b1;replace c0:=xc.arg.c0;replace c1:=xc.arg.c1;replace c2:=xc.arg.c2;replace c3:=xc.arg.c3;replace ir:=ir.below b1))
      go_ret;exact ⟨rfl,xc.bel.alloc xc.bel.size _⟩
     | true=>
      rw[hc4] at HAn;go_enter func78,ntmps78
      go_wp2_with (first
       | (go_at_call 98;refine (HIn.out _ xc.bel).mono ?_;rintro e w1 ⟨ia,ic,rfl,ir,b1⟩;replace xc:=xc.below b1;replace c0:=xc.arg.c0;replace c1:=xc.arg.c1;replace c2:=xc.arg.c2;replace c3:=xc.arg.c3)
       | (go_at_call 99;refine (HDv.out _).mono ?_;rintro e w1 ⟨rfl,b1⟩;replace xc:=xc.below b1;replace c0:=xc.arg.c0;replace c1:=xc.arg.c1;replace c2:=xc.arg.c2;replace c3:=xc.arg.c3;replace ir:=ir.below b1)
       | (go_at_call 100;refine (HAs.out _ _ _ ir).mono ?_;rintro e w1 ⟨rfl,n1,rfl⟩;replace xc:=xc.below (K0.below_drewN (Below.refl _ _) n1);replace c0:=xc.arg.c0;replace c1:=xc.arg.c1;replace c2:=xc.arg.c2;replace c3:=xc.arg.c3;replace ir:=ir.below (K0.below_drewN (Below.refl _ _) n1))
       | (go_at_call 101;refine (HVi.out _ xc.bel).mono ?_;intro e w1 hans;obtain ⟨vx,va1,vn1,vc1,va2,vn2,vc2,rfl,b1,hy⟩:=HAn.out _ _ _ hans;clear hans;obtain ⟨vq1,vq2,vq3,vr1,vr2⟩:=hy (by trivial);clear hy;subst vq1;subst vq2;subst vq3;replace xc:=xc.below b1;replace c0:=xc.arg.c0;replace c1:=xc.arg.c1;replace c2:=xc.arg.c2;replace c3:=xc.arg.c3;replace ir:=ir.below b1;have nb:=K0.below_new w1 (.cells #[.string vx,.slice va1 us.length vc1,.slice va2 fs.length vc2] 139);have vb:=K0.blk_new [.string vx,.slice va1 us.length vc1,.slice va2 fs.length vc2] w1 139;have xd:=xc.below nb;have cd2:=xd.arg.c2))
      have rd1:=vr1.below nb;have rd2:=vr2.below nb;have ird:=ir.below nb;obtain ⟨VB,hVB⟩:∃ VB,w1.heap.size=VB:=⟨_,rfl⟩;rw[hVB] at vb
      try simp only[hVB]
      clear c0 c1 c2 c3 cd2 xc vr1 vr2 ir nb HIn HDv HAs HVi HAn HD hVB
      go_loopw [40] (fun i w'=>∃ j:Nat,j<=k.ds.length/\N0.to (hAt k) j=true/\i=Iv j/\Bk w k a c w'/\K0.Blk VB [.string vx,.slice va1 us.length vc1,.slice va2 fs.length vc2] w'/\P0.Row w' va1 us/\P0.Row w' va2 fs/\P0.Row w' ia gi) (fun i _=>k.ds.length-(intOf i).toNat)
      case atStart=>exact ⟨0,Nat.zero_le _,rfl,rfl,xd,vb,rd1,rd2,ird⟩
      case round=>
       obtain ⟨j,hj,hto,rfl,xr,vbr,rr1,rr2,irr⟩:=hrel;clear xd vb rd1 rd2 ird
       by_cases hlt:j<k.ds.length
       ·obtain ⟨b,off,hab,hlt0,hc⟩:=(HL.out _ xr.bel).row.get hlt
        obtain ⟨y0,y1,y2,y3,y4,y5,y6,y7⟩:=hc j hlt
        have HC:Hid (∀ W,Bq w W->P0.Row W va1 us->P0.Row W va2 fs->_):=fun W h1 h2 h3=>HHa.out j va1 va2 vc1 vc2 W hm h1 h2 h3 hlt
        obtain ⟨d,ed⟩:∃ d,dat k.ds j=d:=⟨_,rfl⟩;obtain ⟨s,es⟩:∃ s,ss j=s:=⟨_,rfl⟩;rw[ed,es] at HC;rw[ed] at y0 y1 y2 y3 y4 y5 y6 y7;rw[es] at y4 y6 y7
        have e1:(0:Int)<=(j:Int):=by omega
        have e2:(j:Int)<(k.ds.length:Int):=by omega
        have nb:=K0.below_new wr (.cells (N1.Lc d s) 46);have bx:=N1.lb_new d s wr 46;have z0:=bx.c0;have z1:=bx.c1;have z2:=bx.c2;have z3:=bx.c3;have z4:=bx.c4;have z5:=bx.c5;have z6:=bx.c6;have z7:=bx.c7;have x2:=xr.below nb;have vb2:=vbr.below nb;have p1:=rr1.below nb;have p2:=rr2.below nb;have p3:=irr.below nb;have v0:=vb2.c0;have v1:=vb2.c1;have v2:=vb2.c2;subst hab;clear ed es hc HL HHa
        cases hat:hAt k j with
        | false=>
         rw[hat] at HC;have HT:Hid (N0.to (hAt k) k.ds.length=false):=N0.to_bad hlt hat;clear hat
         go_wp2_with (go_at_call 102;refine (HC.out _ x2.bel p1 p2).mono ?_;rintro e w3 ⟨rfl,b3⟩;have x3:=x2.below b3)
         go_ret;exact ⟨by rw[HT.out];rfl,x3.bel⟩
        | true=>
         rw[hat] at HC;have HT:Hid (N0.to (hAt k) (j+1)=true):=N0.to_step hto hat;clear hat
         go_wp2_with (go_at_call 102;refine (HC.out _ x2.bel p1 p2).mono ?_;rintro e w3 ⟨rfl,b3⟩;have x3:=x2.below b3;have vb3:=vb2.below b3;have t1:=p1.below b3;have t2:=p2.below b3;have t3:=p3.below b3)
         go_roundw
         case rel=>exact ⟨j+1,by omega,HT.out,by go_num,x3,vb3,t1,t2,t3⟩
         case measure=>simp[intOf];omega
       ·obtain rfl:j=k.ds.length:=by omega
        have HT:Hid (N0.to (hAt k) k.ds.length=true):=hto;replace HA1:Hid (∀ a c W,P0.Row W a gq->Calls prog 103 #[.slice a gq.length c] W (Rb (.bool (once gq)) W)):=HA1.out hto;replace HA2:Hid (∀ a c W,P0.Row W a gp->Calls prog 103 #[.slice a gp.length c] W (Rb (.bool (once gp)) W)):=HA2.out hto;have xc:=xr;have ir:=irr;have c0:=xc.arg.c0;have c1:=xc.arg.c1;have c2:=xc.arg.c2;have c3:=xc.arg.c3;clear HL HHa hto rr1 rr2 vbr irr xr;cases ho1:once gq
        ·rw[ho1] at HA1
         have HO:Hid (once gq=false):=ho1;clear ho1
         go_wp2_with (first
          | (go_at_call 105;refine (HFr.out _ xc.bel).mono ?_;rintro e w1 ⟨fa,fc,rfl,fr,b1⟩;replace xc:=xc.below b1;replace c0:=xc.arg.c0;replace c1:=xc.arg.c1;replace c2:=xc.arg.c2;replace c3:=xc.arg.c3;replace ir:=ir.below b1)
          | (go_at_call 104;refine (HCo.out _ _ _ _ _ ir fr).mono ?_;rintro e w2 ⟨qa,qc,rfl,qr,b2⟩;replace xc:=xc.below b2;replace c0:=xc.arg.c0;replace c1:=xc.arg.c1;replace c2:=xc.arg.c2;replace c3:=xc.arg.c3)
          | (go_at_call 103;refine (HA1.out _ _ _ qr).mono ?_;rintro e w3 ⟨rfl,b3⟩;replace xc:=xc.below b3;replace c0:=xc.arg.c0;replace c1:=xc.arg.c1;replace c2:=xc.arg.c2;replace c3:=xc.arg.c3;clear HA1))
         go_ret;exact ⟨by rw[HT.out,HO.out];rfl,xc.bel⟩
        ·rw[ho1] at HA1
         cases ho2:once gp
         ·rw[ho2] at HA2
          have HO:Hid (once gq=true/\once gp=false):=⟨ho1,ho2⟩;clear ho1 ho2
          go_wp2_with (first
           | (go_at_call 105;refine (HFr.out _ xc.bel).mono ?_;rintro e w1 ⟨fa,fc,rfl,fr,b1⟩;replace xc:=xc.below b1;replace c0:=xc.arg.c0;replace c1:=xc.arg.c1;replace c2:=xc.arg.c2;replace c3:=xc.arg.c3;replace ir:=ir.below b1)
           | (go_at_call 104;refine (HCo.out _ _ _ _ _ ir fr).mono ?_;rintro e w2 ⟨qa,qc,rfl,qr,b2⟩;replace xc:=xc.below b2;replace c0:=xc.arg.c0;replace c1:=xc.arg.c1;replace c2:=xc.arg.c2;replace c3:=xc.arg.c3)
           | (go_at_call 103;refine (HA1.out _ _ _ qr).mono ?_;rintro e w3 ⟨rfl,b3⟩;replace xc:=xc.below b3;replace c0:=xc.arg.c0;replace c1:=xc.arg.c1;replace c2:=xc.arg.c2;replace c3:=xc.arg.c3;clear HA1)
           | (go_at_call 106;refine (HPo.out _ xc.bel).mono ?_;rintro e w4 ⟨pa,pc,rfl,pr,b4⟩;replace xc:=xc.below b4;replace c0:=xc.arg.c0;replace c1:=xc.arg.c1;replace c2:=xc.arg.c2;replace c3:=xc.arg.c3)
           | (go_at_call 103;refine (HA2.out _ _ _ pr).mono ?_;rintro e w5 ⟨rfl,b5⟩;replace xc:=xc.below b5;replace c0:=xc.arg.c0;replace c1:=xc.arg.c1;replace c2:=xc.arg.c2;replace c3:=xc.arg.c3))
          go_ret;exact ⟨by rw[HT.out,HO.out.1,HO.out.2];rfl,xc.bel⟩
         ·rw[ho2] at HA2
          have HO:Hid (once gq=true/\once gp=true):=⟨ho1,ho2⟩;clear ho1 ho2
          go_wp2_with (first
           | (go_at_call 105;refine (HFr.out _ xc.bel).mono ?_;rintro e w1 ⟨fa,fc,rfl,fr,b1⟩;replace xc:=xc.below b1;replace c0:=xc.arg.c0;replace c1:=xc.arg.c1;replace c2:=xc.arg.c2;replace c3:=xc.arg.c3;replace ir:=ir.below b1)
           | (go_at_call 104;refine (HCo.out _ _ _ _ _ ir fr).mono ?_;rintro e w2 ⟨qa,qc,rfl,qr,b2⟩;replace xc:=xc.below b2;replace c0:=xc.arg.c0;replace c1:=xc.arg.c1;replace c2:=xc.arg.c2;replace c3:=xc.arg.c3)
           | (go_at_call 103;refine (HA1.out _ _ _ qr).mono ?_;rintro e w3 ⟨rfl,b3⟩;replace xc:=xc.below b3;replace c0:=xc.arg.c0;replace c1:=xc.arg.c1;replace c2:=xc.arg.c2;replace c3:=xc.arg.c3;clear HA1)
           | (go_at_call 106;refine (HPo.out _ xc.bel).mono ?_;rintro e w4 ⟨pa,pc,rfl,pr,b4⟩;replace xc:=xc.below b4;replace c0:=xc.arg.c0;replace c1:=xc.arg.c1;replace c2:=xc.arg.c2;replace c3:=xc.arg.c3)
           | (go_at_call 103;refine (HA2.out _ _ _ pr).mono ?_;rintro e w5 ⟨rfl,b5⟩;replace xc:=xc.below b5;replace c0:=xc.arg.c0;replace c1:=xc.arg.c1;replace c2:=xc.arg.c2;replace c3:=xc.arg.c3)
           | (go_at_call 107;refine (HRe.out _ xc.bel).mono ?_;rintro e w6 ⟨rfl,b6⟩;replace xc:=xc.below b6;replace c0:=xc.arg.c0;replace c1:=xc.arg.c1;replace c2:=xc.arg.c2;replace c3:=xc.arg.c3))
          go_ret;exact ⟨by rw[HT.out,HO.out.1,HO.out.2];rfl,xc.bel⟩
end KI
end Go.Proofs.YtlejhfnjmkdobaaGreatDoor
