/- Joined texts. -/
import Derived.Test.YtlejhfnjmkdobaaGreatDoorJtF
set_option linter.unusedVariables false
set_option linter.unusedSimpArgs false
set_option maxRecDepth 10000
set_option maxHeartbeats 16000000
namespace Go.Proofs.YtlejhfnjmkdobaaGreatDoor
open ChangeShapes WideShapes ChangeAt RowKit
open Go.Proofs.Tryz
namespace O1
open I0 (val vals)
theorem wf_recAt (i:Int):(Lit.int .i64 (L1.recAt i)).wf=true:=by
 refine E4.wf_of _ ?_ ?_
 all_goals
  unfold L1.recAt
  split
  ·rename_i h
   have:=B1.inB_true h;omega
  ·omega
theorem l03Rec (mem:ByteArray) (i:Int) (w:World) (hs:mem.size<=281474976710656) :
  Calls prog 69 #[.string mem,Iv i] w (Rw (.string (O0.recd mem i)) w):=by
 have hm:mem.size<=maxLen:=by unfold maxLen;omega
 have e:O0.recd mem i=B2.part mem (L1.recAt i) 16:=rfl;rw[e];go_enter func69,ntmps69
 go_wp2_with (first
  | (go_at_call 46;refine (L1.spec_RecAt _ _).mono ?_;rintro e w' ⟨rfl,rfl⟩)
  | (go_at_call 58;refine (B2.spec_Part _ _ _ _ hm (wf_recAt i) (by decide)).mono ?_;rintro e w' ⟨rfl,rfl⟩))
 go_ret;exact ⟨rfl,rfl⟩
theorem l03Page (mem:ByteArray) (z:Int) (w:World) (hs:mem.size<=281474976710656) (h0:5<=z) (h1:z<=23) :
  Calls prog 71 #[.string mem,Iv z] w (Rw (.string (B2.part mem (z*32) 32)) w):=by
 have hm:mem.size<=maxLen:=by unfold maxLen;omega
 have hw:=E4.wf_of (z*32) (by omega) (by omega);go_enter func71,ntmps71
 go_wp2_with (go_at_call 58;refine (B2.spec_Part _ _ _ _ hm hw (by decide)).mono ?_;rintro e w' ⟨rfl,rfl⟩)
 go_ret;exact ⟨rfl,rfl⟩
theorem make192:∃ C:Array Value,C.size=192/\∀ W:World,(Instr.makeSlice 126 (Iv 0) (Iv 192)).run prog W=.ok (Sv W.heap.size 0 192) (W.alloc (.cells C 5)):=by
 obtain ⟨i0,hi,hz0,hz1,hz2⟩:=info_parts F0.info5;refine ⟨madeCells (Value.int .u8 0).cells (192*i0.size),?_,fun W=>?_⟩
 ·have:(madeCells (Value.int .u8 0).cells (192*i0.size)).toList.length=192:=by
   rw[show (Value.int .u8 0).cells=#[Value.int .u8 0] from rfl,toList_madeCells_one,hz1]
   simp
  simpa using this
 ·exact run_make (P:=prog) W 126 5 i0 (.int .u8 0) underlying126 hi hz0 .i64 .i64 0 192 (by omega) (by omega) (by rw[hz2];omega) (by omega)
theorem pagesText (mem:ByteArray) (a:Option Addr) (c:Nat) (zs:List Int) (w:World) (hm:mem.size=768) (hp:P0.pagesOk zs=true) (hl:zs.length<=6) (hR1:P0.Row w a zs) :
  Calls prog 140 #[.string mem,.slice a zs.length c] w (Rb (.string (O0.joined mem zs zs.length)) w):=by
 obtain ⟨C,hC,hmk⟩:=make192;have hbuf0:=F0.buf_none (base:=w.heap.size) w C 192 hC (by unfold maxLen;omega) (Nat.le_refl _);have bel0:=K0.below_new w (.cells C 5)
 have hms:mem.size<=281474976710656:=by omega
 go_enter func140,ntmps140;go_wp2
 go_loopw [5,11] (fun r i w'=>∃ (j g cap:Nat),j<=zs.length/\i=Iv j/\r=Sv g (32*j) cap/\F0.Buf w.heap.size w' g (32*j) cap (O0.joined mem zs j)/\Bq w w') (fun _ i _=>zs.length-(intOf i).toNat)
 case atStart=>exact ⟨0,w.heap.size,192,Nat.zero_le _,rfl,rfl,hbuf0,bel0⟩
 case round=>
  obtain ⟨j,g,cap,hj,rfl,rfl,hbuf,hbel⟩:=hrel;clear hbuf0 bel0 hmk
  by_cases hlt:j<zs.length
  ·obtain ⟨b,off,rfl,hb,hc⟩:=(hR1.below hbel).get hlt
   have x1:=hc j hlt;have hz:=R0.pages_bounds hp hlt;have hu:O0.joined mem zs (j+1)=O0.joined mem zs j++B2.part mem (zs.getD j 0*32) 32:=rfl;obtain ⟨z,ez⟩:∃ z,zs.getD j 0=z:=⟨_,rfl⟩;rw[ez] at x1 hz hu;have hps:=O0.page_size hm hz.1 hz.2
   have z0:0<=z:=by omega
   have z1:z<=23:=hz.2
   have e1:(0:Int)<=(j:Int):=by omega
   have e2:(j:Int)<(zs.length:Int):=by omega
   have HU:Hid (O0.joined mem zs (j+1)=O0.joined mem zs j++B2.part mem (z*32) 32):=hu;clear hu ez hc hz
   go_wp2_with (first
    | (go_at_call 124;refine (B2.impl_Part _ _ _ _ hms).mono ?_;rintro e w2 ⟨rfl,b2⟩;have hbuf2:=hbuf.below b2;have bel2:=hbel.trans (b2.mono hbel.size))
    | (at_builtin;refine F0.append_text rfl (.tmp 15) (.tmp 19) rfl hbuf2 (B2.part mem (z*32) 32) (by rfl) (by rfl) (by omega) bel2.size ?_;intro g1 cap1 w3 hbuf3 bel3))
   go_roundw
   case rel=>
    rw[hps] at hbuf3;exact ⟨j+1,g1,cap1,by omega,by go_num,rfl,by rw[HU.out];exact hbuf3,bel2.trans bel3⟩
   case measure=>simp[intOf];omega
  ·obtain rfl:j=zs.length:=by omega
   have hcv:=hbuf.conv;clear hbuf hR1;go_wp2;go_ret;exact ⟨rfl,hbel⟩
theorem part_front (u:ByteArray) (n:Int) (h0:0<=n) (h1:n<=(u.size:Int)):B2.part u 0 n=u.extract 0 n.toNat:=by
 rw[B2.part,if_pos]
 ·simp
 ·unfold B2.lies
  simp;omega
theorem dataOf (mem:ByteArray) (k o s:Int) (a:Option Addr) (c:Nat) (zs:List Int) (w:World) (hm:mem.size=768) (hp:P0.pagesOk zs=true) (hl:zs.length<=6) (hs0:0<=s) (hs1:s<=32*(zs.length:Int)) (hR:P0.Row w a zs) :
  Calls prog 158 #[.string mem,val k o s a zs.length c] w (Rb (.string ((O0.joined mem zs zs.length).extract 0 s.toNat)) w):=by
 have hbox:=K0.blk_new (vals k o s a zs.length c) w 96;have hl0:=K0.below_new w (.cells (Iq k o s a zs.length c) 96)
 have HT:Hid (∀ W,Bq w W->_):=fun W hb=>pagesText mem a c zs W hm hp hl (hR.below hb)
 have hsz:=O0.joined_size hm hp zs.length (Nat.le_refl _);rw[<- part_front _ _ hs0 (by omega)];obtain ⟨u,hu⟩:∃ u,O0.joined mem zs zs.length=u:=⟨_,rfl⟩;rw[hu] at HT hsz ⊢
 have hus:u.size<=281474976710656:=by omega
 have s1:(w.alloc (.cells (Iq k o s a zs.length c) 96)).drew.cell? ⟨w.heap.size,2,none⟩=some (Iv s)/\(w.alloc (.cells (Iq k o s a zs.length c) 96)).drew.cell? ⟨w.heap.size,3,none⟩=some (.slice a zs.length c):=⟨hbox.drew.c2,hbox.drew.c3⟩;clear hR hu hsz;go_enter func158,ntmps158;go_wp2
 go_region_held3 (fun W=>Ce W w.heap.size 2 (Iv s)/\Ce W w.heap.size 3 (.slice a zs.length c)) (assumption) ((first
  | (go_at_call 140;refine (HT.out _ hl0.drew).mono ?_;rintro e w2 ⟨rfl,b2⟩;have hb2:=hbox.drew.below b2;have l2:=hl0.drew.trans (b2.mono hl0.drew.size);have s2:Ce w2 w.heap.size 2 (Iv s)/\Ce w2 w.heap.size 3 (.slice a zs.length c):=⟨hb2.c2,hb2.c3⟩)
  | (go_at_call 124;refine (B2.impl_Part _ _ _ _ hus).mono ?_;rintro e w3 ⟨rfl,b3⟩;have hb3:=hb2.below b3;have l3:=l2.trans (b3.mono l2.size);have s3:Ce w3 w.heap.size 2 (Iv s)/\Ce w3 w.heap.size 3 (.slice a zs.length c):=⟨hb3.c2,hb3.c3⟩)))
 all_goals
  go_wp2;go_ret;exact ⟨rfl,l3⟩
end O1
end Go.Proofs.YtlejhfnjmkdobaaGreatDoor
