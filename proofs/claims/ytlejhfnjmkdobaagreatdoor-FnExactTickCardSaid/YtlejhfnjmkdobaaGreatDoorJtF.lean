/- Joined texts. -/
import Derived.Test.YtlejhfnjmkdobaaGreatDoorJtE
import Derived.Deep.RegionHeld3
set_option linter.unusedVariables false
set_option linter.unusedSimpArgs false
set_option maxRecDepth 10000
set_option maxHeartbeats 16000000
namespace Go.Proofs.YtlejhfnjmkdobaaGreatDoor
open ChangeShapes WideShapes ChangeAt RowKit
open Go.Proofs.Tryz
namespace G1
open I0 (val vals)
theorem readPages (s:ByteArray) (w:World) (h16:s.size=16) :
  Calls prog 187 #[.string s,Iv (P0.need (B6.pairAt s 2))] w fun e w'=>∃ a c,e=.returned (.slice a (G0.pgs s (G0.cnt s)).length c)/\J0.IBuf w.heap.size w' a (G0.pgs s (G0.cnt s)).length c (G0.pgs s (G0.cnt s))/\Bq w w':=by
 rw[G0.pgs_length]
 have hm:s.size<=maxLen:=by unfold maxLen;omega
 have hz:(s.size:Int)=16:=by omega
 have b0:=J0.ibuf_made w (Nat.le_refl _);have l0:=K0.below_new w (.cells #[] 3);have hcl:=G0.cnt_le s;have hct:=G0.cnt_lt s;obtain ⟨N,hN⟩:∃ N,P0.need (B6.pairAt s 2)=N:=⟨_,rfl⟩;rw[hN] at hct ⊢;obtain ⟨C,hC⟩:∃ C,G0.cnt s=C:=⟨_,rfl⟩;rw[hC] at hct hcl ⊢;clear hN hC;go_enter func187,ntmps187;go_wp2
 go_loopw [5,6] (fun v i w'=>∃ (k c:Nat) (a:Option Addr),k<=C/\i=Iv (4+(k:Int))/\v=.slice a k c/\J0.IBuf w.heap.size w' a k c (G0.pgs s k)/\Bq w w') (fun _ i _=>16-(intOf i).toNat)
 case atStart=>exact ⟨0,0,_,Nat.zero_le _,rfl,rfl,b0,l0⟩
 case round=>
  obtain ⟨k,c,a,hk,rfl,rfl,hbuf,hbel⟩:=hrel;clear b0 l0
  by_cases hlt:k<C
  ·obtain ⟨h1,h2⟩:=(hct k).1 hlt
   have e1:4+(k:Int)<16:=by omega
   have HS:Hid (G0.pgs s k ++ [B1.byteAt s (4+(k:Int))]=G0.pgs s (k+1)):=G0.pgs_succ s k
   go_wp2_with (first
    | (go_at_call 186;refine (B1.impl_ByteAt _ _ _ hm).mono ?_;rintro e w' ⟨rfl,rfl⟩)
    | (at_builtin;refine J0.append_int rfl (.tmp 20) (.tmp 24) rfl hbuf _ (by rfl) (by rfl) (by omega) hbel.size ?_;intro g1 cap1 w1 hbuf1 bel1))
   go_roundw
   case rel=>exact ⟨k+1,cap1,_,by omega,by go_num,rfl,by rw[<- HS.out];exact hbuf1,hbel.trans bel1⟩
   case measure=>simp[intOf];omega
  ·obtain rfl:k=C:=by omega
   by_cases h12:k<12
   ·have e1:4+(k:Int)<16:=by omega
    have e2:¬ (k:Int)<N:=fun h=>hlt ((hct k).2 ⟨h,h12⟩)
    have e3:decide ((k:Int)<N)=false:=by simpa using e2
    go_wp2;go_ret;exact ⟨a,c,rfl,hbuf,hbel⟩
   ·have e1:¬ 4+(k:Int)<16:=by omega
    have e3:decide (4+(k:Int)<16)=false:=by simpa using e1
    go_wp2;go_ret;exact ⟨a,c,rfl,hbuf,hbel⟩
theorem as00 (v:Value) (w:World):(Instr.typeAssert (.iface 234 v) 194 234 true).run prog w=.ok (.tuple #[v,.bool true]) w:=by kernel_rfl
theorem as10 (v:Value) (w:World):(Instr.typeAssert (.iface 236 v) 194 234 true).run prog w=.ok (.tuple #[val 0 0 0 none 0 0,.bool false]) w:=by kernel_rfl
theorem as20 (v:Value) (w:World):(Instr.typeAssert (.iface 238 v) 194 234 true).run prog w=.ok (.tuple #[val 0 0 0 none 0 0,.bool false]) w:=by kernel_rfl
theorem as11 (v:Value) (w:World):(Instr.typeAssert (.iface 236 v) 194 236 true).run prog w=.ok (.tuple #[v,.bool true]) w:=by kernel_rfl
theorem as21 (v:Value) (w:World):(Instr.typeAssert (.iface 238 v) 194 236 true).run prog w=.ok (.tuple #[val 0 0 0 none 0 0,.bool false]) w:=by kernel_rfl
theorem as22 (v:Value) (w:World):(Instr.typeAssert (.iface 238 v) 194 238 false).run prog w=.ok v w:=by kernel_rfl
theorem isFree0 (v:Value) (k o s:Int) (a:Option Addr) (n c:Nat) (hv:v=val k o s a n c) (w:World) :
  Calls prog 156 #[.iface 234 v] w (Rb (.bool true) w):=by
 have ha:=as00;subst hv;go_enter func156,ntmps156;go_wp2;go_ret;exact ⟨rfl,K0.below_new _ _⟩
theorem isFree1 (v:Value) (k o s:Int) (a:Option Addr) (n c:Nat) (hv:v=val k o s a n c) (w:World) :
  Calls prog 156 #[.iface 236 v] w (Rb (.bool false) w):=by
 have ha:=as10;subst hv;go_enter func156,ntmps156;go_wp2;go_ret;exact ⟨rfl,K0.below_new _ _⟩
theorem isFree2 (v:Value) (k o s:Int) (a:Option Addr) (n c:Nat) (hv:v=val k o s a n c) (w:World) :
  Calls prog 156 #[.iface 238 v] w (Rb (.bool false) w):=by
 have ha:=as20;subst hv;go_enter func156,ntmps156;go_wp2;go_ret;exact ⟨rfl,K0.below_new _ _⟩
theorem inodeOf0 (k o s:Int) (a:Option Addr) (n c:Nat) (w:World) :
  Calls prog 157 #[.iface 234 (val k o s a n c)] w (Rb (val 0 0 0 none 0 0) w):=by
 have n0:=K0.blk_new (vals 0 0 0 none 0 0) w 96;have l0:=K0.below_new w (.cells (Iq 0 0 0 none 0 0) 96);go_enter func157,ntmps157
 go_wp2_with (go_at_call 156;refine (isFree0 _ k o s a n c rfl _).mono ?_;rintro e w1 ⟨rfl,b1⟩;have n1:=n0.below b1;have l1:=l0.trans (b1.mono l0.size);have c0:=n1.c0;have c1:=n1.c1;have c2:=n1.c2;have c3:=n1.c3;have f0:=n1.f0;have f1:=n1.f1;have f2:=n1.f2;have f3:=n1.f3)
 have q:=n1.put4 (Iv 0) (Iv 0) (Iv 0) (.slice none 0 0);refine bodyPost_ret (v:=val 0 0 0 none 0 0) (by simp[results,results157,go_sem,q.c0,q.c1,q.c2,q.c3]) rfl ⟨rfl,?_⟩;exact (((l1.setCell (p:=⟨w.heap.size,0,none⟩) (Nat.le_refl _) _).setCell (p:=⟨w.heap.size,1,none⟩) (Nat.le_refl _) _).setCell (p:=⟨w.heap.size,2,none⟩) (Nat.le_refl _) _).setCell (p:=⟨w.heap.size,3,none⟩) (Nat.le_refl _) _
theorem inodeOf1 (k o s:Int) (a:Option Addr) (n c:Nat) (w:World) :
  Calls prog 157 #[.iface 236 (val k o s a n c)] w (Rb (val k o s a n c) w):=by
 have ha:=as11;have n0:=K0.blk_new (vals 0 0 0 none 0 0) w 96;have l0:=K0.below_new w (.cells (Iq 0 0 0 none 0 0) 96);go_enter func157,ntmps157
 go_wp2_with (go_at_call 156;refine (isFree1 _ k o s a n c rfl _).mono ?_;rintro e w1 ⟨rfl,b1⟩;have n1:=(n0.below b1).alloc (.cells (Iq k o s a n c) 236);have l1:=(l0.trans (b1.mono l0.size)).alloc (Nat.le_trans l0.size b1.size) (.cells (Iq k o s a n c) 236);have c0:=n1.c0;have c1:=n1.c1;have c2:=n1.c2;have c3:=n1.c3;have f0:=n1.f0;have f1:=n1.f1;have f2:=n1.f2;have f3:=n1.f3)
 have q:=n1.put4 (Iv k) (Iv o) (Iv s) (.slice a n c);refine bodyPost_ret (v:=val k o s a n c) (by simp[results,results157,go_sem,q.c0,q.c1,q.c2,q.c3]) rfl ⟨rfl,?_⟩;exact (((l1.setCell (p:=⟨w.heap.size,0,none⟩) (Nat.le_refl _) _).setCell (p:=⟨w.heap.size,1,none⟩) (Nat.le_refl _) _).setCell (p:=⟨w.heap.size,2,none⟩) (Nat.le_refl _) _).setCell (p:=⟨w.heap.size,3,none⟩) (Nat.le_refl _) _
theorem inodeOf2 (k o s:Int) (a:Option Addr) (n c:Nat) (w:World) :
  Calls prog 157 #[.iface 238 (val k o s a n c)] w (Rb (val k o s a n c) w):=by
 have ha:=as21;have hb:=as22;have n0:=K0.blk_new (vals 0 0 0 none 0 0) w 96;have l0:=K0.below_new w (.cells (Iq 0 0 0 none 0 0) 96);go_enter func157,ntmps157
 go_wp2_with (go_at_call 156;refine (isFree2 _ k o s a n c rfl _).mono ?_;rintro e w1 ⟨rfl,b1⟩;have n1:=(n0.below b1).alloc (.cells (Iq 0 0 0 none 0 0) 236);have l1:=(l0.trans (b1.mono l0.size)).alloc (Nat.le_trans l0.size b1.size) (.cells (Iq 0 0 0 none 0 0) 236);have c0:=n1.c0;have c1:=n1.c1;have c2:=n1.c2;have c3:=n1.c3;have f0:=n1.f0;have f1:=n1.f1;have f2:=n1.f2;have f3:=n1.f3)
 have q:=n1.put4 (Iv k) (Iv o) (Iv s) (.slice a n c);refine bodyPost_ret (v:=val k o s a n c) (by simp[results,results157,go_sem,q.c0,q.c1,q.c2,q.c3]) rfl ⟨rfl,?_⟩;exact (((l1.setCell (p:=⟨w.heap.size,0,none⟩) (Nat.le_refl _) _).setCell (p:=⟨w.heap.size,1,none⟩) (Nat.le_refl _) _).setCell (p:=⟨w.heap.size,2,none⟩) (Nat.le_refl _) _).setCell (p:=⟨w.heap.size,3,none⟩) (Nat.le_refl _) _
end G1
namespace G2
open I0 (val vals)
theorem below_of_drew {w w1:World} {n:Nat} (h:Bq (w.drewN n) w1):Bq w w1:=⟨h.os,h.tape,h.output,h.size,h.block⟩
structure Nd (w:World) (B:Nat) (k o s:Int) (a:Option Addr) (zs:List Int) (c:Nat) (W:World):Prop where
 box:K0.Blk B (vals k o s a zs.length c) W
 own:J0.Own w.heap.size W a zs
 fits:zs.length<=c
 bel:Bq w W
variable {w W W' : World} {B : Nat} {k o s : Int} {a : Option Addr} {zs : List Int} {c : Nat}
theorem Nd.below (h:Nd w B k o s a zs c W) (hb:Bq W W'):Nd w B k o s a zs c W':=⟨h.box.below hb,h.own.below hb,h.fits,h.bel.trans (hb.mono h.bel.size)⟩
theorem nd_new (hb:Bq w W) (hi:J0.IBuf w.heap.size W a zs.length c zs):Nd w W.heap.size k o s a zs c (W.alloc (.cells (Iq k o s a zs.length c) 96)):=
 ⟨K0.blk_new (vals k o s a zs.length c) W 96,hi.own.alloc _,hi.fits,hb.alloc hb.size _⟩
def Ans (s:ByteArray) (w:World) (e:Ending) (w':World):Prop:=
 Bq w w'/\((G0.isI s=false/\e=.returned (.tuple #[.nilIface,.bool false]))\/
  (G0.isI s=true/\∃ a c,e=.returned (.tuple #[I1.rec (B1.byteAt s 0) (val (B1.byteAt s 0) (B1.byteAt s 1) (B6.pairAt s 2) a (G0.pgs s (G0.cnt s)).length c),.bool true])/\J0.Own w.heap.size w' a (G0.pgs s (G0.cnt s))/\(G0.pgs s (G0.cnt s)).length<=c))
theorem ans_no {s:ByteArray} {w w':World} (h:G0.isI s=false) (hb:Bq w w'):Ans s w (.returned (.tuple #[.nilIface,.bool false])) w':=⟨hb,Or.inl ⟨h,rfl⟩⟩
theorem readRecord (s:ByteArray) (w:World) (hs:s.size<=281474976710656) :
  Calls prog 155 #[.string s] w (Ans s w):=by
 have hm:s.size<=maxLen:=by unfold maxLen;omega
 by_cases h16:s.size=16
 ·have g16:((s.size:Int) != 16)=false:=by simp;omega
  have hpa:=G0.pairAt_lt s 2;have hbad:=@G0.isI_bad s;have hof:=@G0.isI_of s h16;have hnot:=@G0.isI_not s
  have hans:Ans s w=fun e w'=>Bq w w'/\((G0.isI s=false/\e=.returned (.tuple #[.nilIface,.bool false]))\/
   (G0.isI s=true/\∃ a c,e=.returned (.tuple #[I1.rec (B1.byteAt s 0) (val (B1.byteAt s 0) (B1.byteAt s 1) (B6.pairAt s 2) a (G0.pgs s (G0.cnt s)).length c),.bool true])/\J0.Own w.heap.size w' a (G0.pgs s (G0.cnt s))/\(G0.pgs s (G0.cnt s)).length<=c)):=rfl
  rw[hans];clear hans
  have hrp:Hid (∀ W,_):=fun W=>G1.readPages s W h16
  have hlen:(G0.pgs s (G0.cnt s)).length<=281474976710656:=by rw[G0.pgs_length];have:=G0.cnt_le s;omega
  unfold G0.txt at hof hnot;obtain ⟨Z,hZ⟩:∃ Z,G0.pgs s (G0.cnt s)=Z:=⟨_,rfl⟩;rw[hZ] at hbad hof hnot hrp hlen ⊢;clear hZ
  by_cases hok:I0.ok (B1.byteAt s 0) (B1.byteAt s 1) (B6.pairAt s 2) Z=true
  ·by_cases htx:((R0.putI (B1.byteAt s 0) (B1.byteAt s 1) (B6.pairAt s 2) Z).toList == s.toList)=true
   ·have HI:Hid (G0.isI s=true):=hof htx
    clear hbad hof hnot;go_enter func155,ntmps155
    go_wp2_with (first
     | (go_at_call 185;refine (B6.impl_PairAt _ _ _ hs).mono ?_;rintro e w0 ⟨rfl,m0,rfl⟩)
     | (go_at_call 186;refine (B1.impl_ByteAt _ _ _ hm).mono ?_;rintro e w' ⟨rfl,rfl⟩)
     | (go_at_call 188;refine (P1.pagesFor _ _ hpa.1 hpa.2).mono ?_;rintro e w' ⟨rfl,rfl⟩)
     | (go_at_call 187;refine (hrp.out _).mono ?_;rintro e w1 ⟨a,c,rfl,hib,b1⟩;have n1:=nd_new (w:=w) (k:=B1.byteAt s 0) (o:=B1.byteAt s 1) (s:=B6.pairAt s 2) (below_of_drew b1) hib)
     | (go_at_call 189;refine (I1.recordOf _ _ _ _ _ Z _ hlen n1.fits n1.own.row).mono ?_;rintro e w2 ⟨rfl,b2⟩;have n2:=n1.below b2;have c0:=n2.box.c0;have c1:=n2.box.c1;have c2:=n2.box.c2;have c3:=n2.box.c3)
     | (go_at_call 190;refine (R1.recordText _ _ _ _ _ Z _ hok n2.own.row).mono ?_;rintro e w3 ⟨rfl,b3⟩;have n3:=n2.below b3))
    go_ret2
    exact ⟨n3.bel,Or.inr ⟨HI.out,a,c,rfl,n3.own,n3.fits⟩⟩
   ·have htx':((R0.putI (B1.byteAt s 0) (B1.byteAt s 1) (B6.pairAt s 2) Z).toList == s.toList)=false:=by simpa using htx
    have HI:Hid (G0.isI s=false):=hnot htx';clear hbad hof hnot htx;go_enter func155,ntmps155
    go_wp2_with (first
     | (go_at_call 185;refine (B6.impl_PairAt _ _ _ hs).mono ?_;rintro e w0 ⟨rfl,m0,rfl⟩)
     | (go_at_call 186;refine (B1.impl_ByteAt _ _ _ hm).mono ?_;rintro e w' ⟨rfl,rfl⟩)
     | (go_at_call 188;refine (P1.pagesFor _ _ hpa.1 hpa.2).mono ?_;rintro e w' ⟨rfl,rfl⟩)
     | (go_at_call 187;refine (hrp.out _).mono ?_;rintro e w1 ⟨a,c,rfl,hib,b1⟩;have n1:=nd_new (w:=w) (k:=B1.byteAt s 0) (o:=B1.byteAt s 1) (s:=B6.pairAt s 2) (below_of_drew b1) hib)
     | (go_at_call 189;refine (I1.recordOf _ _ _ _ _ Z _ hlen n1.fits n1.own.row).mono ?_;rintro e w2 ⟨rfl,b2⟩;have n2:=n1.below b2;have c0:=n2.box.c0;have c1:=n2.box.c1;have c2:=n2.box.c2;have c3:=n2.box.c3)
     | (go_at_call 190;refine (R1.recordText _ _ _ _ _ Z _ hok n2.own.row).mono ?_;rintro e w3 ⟨rfl,b3⟩;have n3:=n2.below b3))
    go_ret2
    exact ⟨n3.bel,Or.inl ⟨HI.out,rfl⟩⟩
  ·have hok':I0.ok (B1.byteAt s 0) (B1.byteAt s 1) (B6.pairAt s 2) Z=false:=by simpa using hok
   have HI:Hid (G0.isI s=false):=hbad hok';clear hbad hof hnot hok;go_enter func155,ntmps155
   go_wp2_with (first
    | (go_at_call 185;refine (B6.impl_PairAt _ _ _ hs).mono ?_;rintro e w0 ⟨rfl,m0,rfl⟩)
    | (go_at_call 186;refine (B1.impl_ByteAt _ _ _ hm).mono ?_;rintro e w' ⟨rfl,rfl⟩)
    | (go_at_call 188;refine (P1.pagesFor _ _ hpa.1 hpa.2).mono ?_;rintro e w' ⟨rfl,rfl⟩)
    | (go_at_call 187;refine (hrp.out _).mono ?_;rintro e w1 ⟨a,c,rfl,hib,b1⟩;have n1:=nd_new (w:=w) (k:=B1.byteAt s 0) (o:=B1.byteAt s 1) (s:=B6.pairAt s 2) (below_of_drew b1) hib)
    | (go_at_call 189;refine (I1.recordOf _ _ _ _ _ Z _ hlen n1.fits n1.own.row).mono ?_;rintro e w2 ⟨rfl,b2⟩;have n2:=n1.below b2))
   go_ret2
   exact ⟨n2.bel,Or.inl ⟨HI.out,rfl⟩⟩
 ·have g16:((s.size:Int) != 16)=true:=by simp;omega
  have HI:Hid (G0.isI s=false):=G0.isI_no h16;go_enter func155,ntmps155;go_wp2
  go_ret2
  exact ans_no HI.out (Below.refl _ _)
end G2
namespace G3
open I0 (val vals)
def Ans (s:ByteArray) (w:World) (e:Ending) (w':World):Prop:=
 ∃ a c,e=.returned (.tuple #[val (G0.gK s) (G0.gO s) (G0.gS s) a (G0.gZ s).length c,.bool (G0.isI s)])/\J0.Own w.heap.size w' a (G0.gZ s)/\(G0.gZ s).length<=c/\Bq w w'
theorem ans_no {s:ByteArray} {w w':World} (h:G0.isI s=false) (hb:Bq w w'):Ans s w (.returned (.tuple #[val 0 0 0 none 0 0,.bool false])) w':=by
 obtain ⟨h1,h2,h3,h4⟩:=G0.g_no h;exact ⟨none,0,by rw[h1,h2,h3,h4,h];rfl,by rw[h4];exact Or.inl rfl,by rw[h4];exact Nat.le_refl _,hb⟩
theorem ans_yes {s:ByteArray} {w w':World} {a:Option Addr} {c:Nat} (h:G0.isI s=true) (ho:J0.Own w.heap.size w' a (G0.pgs s (G0.cnt s))) (hc:(G0.pgs s (G0.cnt s)).length<=c) (hb:Bq w w') :
  Ans s w (.returned (.tuple #[val (B1.byteAt s 0) (B1.byteAt s 1) (B6.pairAt s 2) a (G0.pgs s (G0.cnt s)).length c,.bool true])) w':=by
 obtain ⟨h1,h2,h3,h4⟩:=G0.g_yes h;exact ⟨a,c,by rw[h1,h2,h3,h4,h],by rw[h4];exact ho,by rw[h4];exact hc,hb⟩
theorem ans_free {s:ByteArray} {w w':World} (h:G0.isI s=true) (hk:B1.byteAt s 0=0) (hb:Bq w w'):Ans s w (.returned (.tuple #[val 0 0 0 none 0 0,.bool true])) w':=by
 have hok:=(G0.isI_ok h).2.2;rw[I0.ok,if_pos hk] at hok;simp only[I0.free,Bool.and_eq_true,decide_eq_true_eq] at hok;have hz:G0.pgs s (G0.cnt s)=[]:=List.eq_nil_of_length_eq_zero hok.2.2;have:=ans_yes (a:=none) (c:=0) h (by rw[hz];exact Or.inl rfl) (by rw[hz];exact Nat.le_refl _) hb
 rwa [hk,hok.1,hok.2.1,hz] at this
variable {w W W' : World}
theorem read_no {s:ByteArray} (hs:s.size<=281474976710656) (h:G0.isI s=false) :
  Calls prog 155 #[.string s] W (Rb (.tuple #[.nilIface,.bool false]) W):=
 (G2.readRecord s W hs).mono fun e w' ⟨hb,hc⟩=>by
  rcases hc with ⟨_,he⟩ | ⟨h2,_⟩
  ·exact ⟨he,hb⟩
  ·rw[h] at h2;cases h2
theorem read_yes {s:ByteArray} (hs:s.size<=281474976710656) (h:G0.isI s=true) {v:Value->Value} (hv:∀ x,I1.rec (B1.byteAt s 0) x=v x) :
  Calls prog 155 #[.string s] W fun e w'=>∃ a c,e=.returned (.tuple #[v (val (B1.byteAt s 0) (B1.byteAt s 1) (B6.pairAt s 2) a (G0.pgs s (G0.cnt s)).length c),.bool true])/\J0.Own W.heap.size w' a (G0.pgs s (G0.cnt s))/\(G0.pgs s (G0.cnt s)).length<=c/\Bq W w':=
 (G2.readRecord s W hs).mono fun e w' ⟨hb,hc⟩=>by
  rcases hc with ⟨h2,_⟩ | ⟨_,a,c,he,ho,hl⟩
  ·rw[h] at h2;cases h2
  ·exact ⟨a,c,by rw[he,hv],ho,hl,hb⟩
structure Rs (w:World) (a:Option Addr) (zs:List Int) (W:World):Prop where
 res:K0.Blk w.heap.size (vals 0 0 0 none 0 0) W
 own:J0.Own (w.heap.size+1) W a zs
 bel:Bq w W
theorem Rs.below {a:Option Addr} {zs:List Int} (h:Rs w a zs W) (hb:Bq W W'):Rs w a zs W':=⟨h.res.below hb,h.own.below hb,h.bel.trans (hb.mono h.bel.size)⟩
theorem rs_new {a:Option Addr} {zs:List Int} (hb:Bq (w.alloc (.cells (Iq 0 0 0 none 0 0) 96)) W)
  (ho:J0.Own (w.alloc (.cells (Iq 0 0 0 none 0 0) 96)).heap.size W a zs):Rs w a zs W:=
 ⟨(K0.blk_new (vals 0 0 0 none 0 0) w 96).below hb,ho.mono (by simp),(K0.below_new w _).trans (hb.mono (by simp))⟩
theorem Rs.done {a:Option Addr} {zs:List Int} (h:Rs w a zs W) (x y z u:Value):J0.Own w.heap.size ((((W.setCell ⟨w.heap.size,0,none⟩ x).setCell ⟨w.heap.size,1,none⟩ y).setCell ⟨w.heap.size,2,none⟩ z).setCell ⟨w.heap.size,3,none⟩ u) a zs/\
    Bq w ((((W.setCell ⟨w.heap.size,0,none⟩ x).setCell ⟨w.heap.size,1,none⟩ y).setCell ⟨w.heap.size,2,none⟩ z).setCell ⟨w.heap.size,3,none⟩ u):=
  ⟨((((h.own.set (Nat.lt_succ_self _) 0 x).set (Nat.lt_succ_self _) 1 y).set (Nat.lt_succ_self _) 2 z).set (Nat.lt_succ_self _) 3 u).mono (Nat.le_succ _),
   (((h.bel.setCell (p:=⟨w.heap.size,0,none⟩) (Nat.le_refl _) _).setCell (p:=⟨w.heap.size,1,none⟩) (Nat.le_refl _) _).setCell (p:=⟨w.heap.size,2,none⟩) (Nat.le_refl _) _).setCell (p:=⟨w.heap.size,3,none⟩) (Nat.le_refl _) _⟩
theorem impl_GetInode (s:ByteArray) (w:World) (hs:s.size<=281474976710656):Calls prog 197 #[.string s] w (Ans s w):=by
 by_cases hI:G0.isI s=true
 ·have hok:=R0.ok_bounds (G0.isI_ok hI).2.2
  by_cases h0:B1.byteAt s 0=0
  ·have hv:∀ x,I1.rec (B1.byteAt s 0) x=.iface 234 x:=fun x=>by rw[I1.rec,if_pos h0]
   have HF:Hid (∀ w',Bq w w'->Ans s w (.returned (.tuple #[val 0 0 0 none 0 0,.bool true])) w'):=fun w' hb=>ans_free hI h0 hb
   have hr:Hid (∀ W,Calls prog 155 #[.string s] W fun e w'=>∃ a c,e=.returned (.tuple #[.iface 234 (val (B1.byteAt s 0) (B1.byteAt s 1) (B6.pairAt s 2) a (G0.pgs s (G0.cnt s)).length c),.bool true])/\J0.Own W.heap.size w' a (G0.pgs s (G0.cnt s))/\(G0.pgs s (G0.cnt s)).length<=c/\Bq W w'):=fun W=>read_yes hs hI hv
   clear hok hv h0 hI;go_enter func197,ntmps197
   go_wp2_with (first
    | (go_at_call 155;refine (hr.out _).mono ?_;rintro e w1 ⟨a,c,rfl,ho,hl,b1⟩;have r1:=rs_new b1 ho)
    | (go_at_call 157;refine (G1.inodeOf0 _ _ _ _ _ _ _).mono ?_;rintro e w2 ⟨rfl,b2⟩;have r2:=r1.below b2;have c0:=r2.res.c0;have c1:=r2.res.c1;have c2:=r2.res.c2;have c3:=r2.res.c3;have f0:=r2.res.f0;have f1:=r2.res.f1;have f2:=r2.res.f2;have f3:=r2.res.f3))
   have q:=r2.res.put4 (Iv 0) (Iv 0) (Iv 0) (.slice none 0 0);have d:=r2.done (Iv 0) (Iv 0) (Iv 0) (.slice none 0 0);exact bodyPost_ret (v:=.tuple #[val 0 0 0 none 0 0,.bool true]) (by simp[results,results197,go_sem,q.c0,q.c1,q.c2,q.c3]) rfl (HF.out _ d.2)
  ·have HF:Hid (∀ a c w',J0.Own w.heap.size w' a (G0.pgs s (G0.cnt s))->(G0.pgs s (G0.cnt s)).length<=c->Bq w w'->Ans s w (.returned (.tuple #[val (B1.byteAt s 0) (B1.byteAt s 1) (B6.pairAt s 2) a (G0.pgs s (G0.cnt s)).length c,.bool true])) w'):=fun a c w' ho hl hb=>ans_yes hI ho hl hb
   by_cases h1:B1.byteAt s 0=1
   ·have hv:∀ x,I1.rec (B1.byteAt s 0) x=.iface 236 x:=fun x=>by rw[I1.rec,if_neg h0,if_pos h1]
    have hr:Hid (∀ W,Calls prog 155 #[.string s] W fun e w'=>∃ a c,e=.returned (.tuple #[.iface 236 (val (B1.byteAt s 0) (B1.byteAt s 1) (B6.pairAt s 2) a (G0.pgs s (G0.cnt s)).length c),.bool true])/\J0.Own W.heap.size w' a (G0.pgs s (G0.cnt s))/\(G0.pgs s (G0.cnt s)).length<=c/\Bq W w'):=fun W=>read_yes hs hI hv
    clear hok hv h0 h1 hI;go_enter func197,ntmps197
    go_wp2_with (first
     | (go_at_call 155;refine (hr.out _).mono ?_;rintro e w1 ⟨a,c,rfl,ho,hl,b1⟩;have r1:=rs_new b1 ho)
     | (go_at_call 157;refine (G1.inodeOf1 _ _ _ _ _ _ _).mono ?_;rintro e w2 ⟨rfl,b2⟩;have r2:=r1.below b2;have c0:=r2.res.c0;have c1:=r2.res.c1;have c2:=r2.res.c2;have c3:=r2.res.c3;have f0:=r2.res.f0;have f1:=r2.res.f1;have f2:=r2.res.f2;have f3:=r2.res.f3))
    have q:=r2.res.put4 (Iv (B1.byteAt s 0)) (Iv (B1.byteAt s 1)) (Iv (B6.pairAt s 2)) (.slice a (G0.pgs s (G0.cnt s)).length c);have d:=r2.done (Iv (B1.byteAt s 0)) (Iv (B1.byteAt s 1)) (Iv (B6.pairAt s 2)) (.slice a (G0.pgs s (G0.cnt s)).length c);exact bodyPost_ret (v:=.tuple #[val (B1.byteAt s 0) (B1.byteAt s 1) (B6.pairAt s 2) a (G0.pgs s (G0.cnt s)).length c,.bool true]) (by simp[results,results197,go_sem,q.c0,q.c1,q.c2,q.c3]) rfl (HF.out _ _ _ d.1 hl d.2)
   ·have h2:B1.byteAt s 0=2:=by omega
    have hv:∀ x,I1.rec (B1.byteAt s 0) x=.iface 238 x:=fun x=>by rw[I1.rec,if_neg h0,if_neg h1,if_pos h2]
    have hr:Hid (∀ W,Calls prog 155 #[.string s] W fun e w'=>∃ a c,e=.returned (.tuple #[.iface 238 (val (B1.byteAt s 0) (B1.byteAt s 1) (B6.pairAt s 2) a (G0.pgs s (G0.cnt s)).length c),.bool true])/\J0.Own W.heap.size w' a (G0.pgs s (G0.cnt s))/\(G0.pgs s (G0.cnt s)).length<=c/\Bq W w'):=fun W=>read_yes hs hI hv
    clear hok hv h0 h1 h2 hI;go_enter func197,ntmps197
    go_wp2_with (first
     | (go_at_call 155;refine (hr.out _).mono ?_;rintro e w1 ⟨a,c,rfl,ho,hl,b1⟩;have r1:=rs_new b1 ho)
     | (go_at_call 157;refine (G1.inodeOf2 _ _ _ _ _ _ _).mono ?_;rintro e w2 ⟨rfl,b2⟩;have r2:=r1.below b2;have c0:=r2.res.c0;have c1:=r2.res.c1;have c2:=r2.res.c2;have c3:=r2.res.c3;have f0:=r2.res.f0;have f1:=r2.res.f1;have f2:=r2.res.f2;have f3:=r2.res.f3))
    have q:=r2.res.put4 (Iv (B1.byteAt s 0)) (Iv (B1.byteAt s 1)) (Iv (B6.pairAt s 2)) (.slice a (G0.pgs s (G0.cnt s)).length c);have d:=r2.done (Iv (B1.byteAt s 0)) (Iv (B1.byteAt s 1)) (Iv (B6.pairAt s 2)) (.slice a (G0.pgs s (G0.cnt s)).length c);exact bodyPost_ret (v:=.tuple #[val (B1.byteAt s 0) (B1.byteAt s 1) (B6.pairAt s 2) a (G0.pgs s (G0.cnt s)).length c,.bool true]) (by simp[results,results197,go_sem,q.c0,q.c1,q.c2,q.c3]) rfl (HF.out _ _ _ d.1 hl d.2)
 ·have hI':G0.isI s=false:=by simpa using hI
  have HF:Hid (∀ w',Bq w w'->Ans s w (.returned (.tuple #[val 0 0 0 none 0 0,.bool false])) w'):=fun w' hb=>ans_no hI' hb
  have hr:Hid (∀ W,Calls prog 155 #[.string s] W (Rb (.tuple #[.nilIface,.bool false]) W)):=fun W=>read_no hs hI'
  clear hI hI';go_enter func197,ntmps197
  go_wp2_with (go_at_call 155;refine (hr.out _).mono ?_;rintro e w1 ⟨rfl,b1⟩;have r1:=rs_new (a:=none) (zs:=[]) b1 (Or.inl rfl);have c0:=r1.res.c0;have c1:=r1.res.c1;have c2:=r1.res.c2;have c3:=r1.res.c3;have f0:=r1.res.f0;have f1:=r1.res.f1;have f2:=r1.res.f2;have f3:=r1.res.f3)
  have q:=r1.res.put4 (Iv 0) (Iv 0) (Iv 0) (.slice none 0 0);have d:=r1.done (Iv 0) (Iv 0) (Iv 0) (.slice none 0 0);exact bodyPost_ret (v:=.tuple #[val 0 0 0 none 0 0,.bool false]) (by simp[results,results197,go_sem,q.c0,q.c1,q.c2,q.c3]) rfl (HF.out _ d.2)
end G3
namespace R2
open I0 (val vals)
open R1 (ret_str St)
def upto (k o:Int) (zs:List Int) (j:Nat):ByteArray:=R0.two k o++R0.pg (zs.take j)
theorem upto_zero (k o:Int) (zs:List Int):upto k o zs 0=R0.two k o:=by
 apply ByteArray.ext
 simp[upto,R0.pg]
theorem upto_succ (k o:Int) (zs:List Int) (j:Nat) (h:j<zs.length):upto k o zs j ++ ⟨#[UInt8.ofNat (zs.getD j 0).toNat]⟩=upto k o zs (j+1):=by
 rw[upto,upto,ByteArray.append_assoc,R0.pg_snoc zs j h]
theorem upto_all (k o:Int) (zs:List Int):upto k o zs zs.length=R0.two k o++R0.pg zs:=by rw[upto,List.take_length]
variable {base g n cap : Nat} {w W1 W W' : World} {t u : ByteArray}
theorem conv_front (h:F0.Buf base W g n cap (t++u)) (m:Nat) (hm:m=t.size):(convert 126 9 (Sv g m cap)).run prog W=.ok (.string t) W:=by
 have hh:=h.holds
 have:=B0.conv_back (P:=prog) W 126 9 5 g 0 cap t.data.toList underlying126 underlying5 underlying9 (fun j hj=>by
  have h2:=hh j (by simp[ByteArray.data_append] at hj ⊢;omega);rw[h2]
  congr 2
  simp only[ByteArray.data_append,Array.toList_append]
  rw[List.getElem_append_left hj]) m (by rw[hm,Lib.size_eq])
 rwa [Lib.mk_data] at this
theorem conv_rest (h:F0.Buf base W g n cap (t++u)) (m:Nat) (hm:m=t.size) (r:Nat) (hr:r=u.size) (c:Nat):(convert 126 9 (.slice (some ⟨g,m,none⟩) r c)).run prog W=.ok (.string u) W:=by
 have hh:=h.holds
 have:=B0.conv_back (P:=prog) W 126 9 5 g m c u.data.toList underlying126 underlying5 underlying9 (fun j hj=>by
  have hts:t.data.toList.length=m:=by rw[hm,Lib.size_eq]
  have h2:=hh (m+j) (by simp only[ByteArray.data_append,Array.toList_append,List.length_append];omega);rw[Nat.zero_add] at h2;rw[h2]
  congr 2
  simp only[ByteArray.data_append,Array.toList_append];rw[List.getElem_append_right (by omega)]
  simp[hts]) r (by rw[hr,Lib.size_eq])
 rwa [Lib.mk_data] at this
theorem conv_none (W:World) (b o c:Nat):(convert 126 9 (.slice (some ⟨b,o,none⟩) 0 c)).run prog W=.ok (.string ⟨#[]⟩) W:=
 B0.conv_back (P:=prog) W 126 9 5 b o c [] underlying126 underlying5 underlying9 (fun j hj=>by simp at hj) 0 rfl
abbrev conA (k o:Int) (g cap:Nat) (W:World):Prop:=(convert 126 9 (.slice (some ⟨g,0,none⟩) 2 cap)).run prog W=.ok (.string (R0.two k o)) W
abbrev conB (zs:List Int) (g cap:Nat) (W:World):Prop:=(convert 126 9 (.slice (some ⟨g,2,none⟩) zs.length (cap-2))).run prog W=.ok (.string (R0.pg zs)) W
theorem all_of {k o s:Int} {zs:List Int} (h:St w W1 g (2+zs.length) cap (R0.two k o++R0.pg zs) W) (hc:Ce W w.heap.size 2 (Iv s)) :
  conA k o g cap W/\conB zs g cap W/\Ce W w.heap.size 2 (Iv s)/\St w W1 g (2+zs.length) cap (R0.two k o++R0.pg zs) W:=
 ⟨conv_front h.buf 2 rfl,conv_rest h.buf 2 rfl zs.length (R0.pg_size zs).symm (cap-2),hc,h⟩
theorem pair_all {k o s:Int} {zs:List Int} (h:conA k o g cap W/\conB zs g cap W/\W.cell? ⟨w.heap.size,2,none⟩=some (.int .i64 s)/\St w W1 g (2+zs.length) cap (R0.two k o++R0.pg zs) W) :
  Calls prog 167 #[.int .i64 s] W fun e w'=>e=.returned (.string (B3.pair s))/\(conA k o g cap w'/\conB zs g cap w'/\w'.cell? ⟨w.heap.size,2,none⟩=some (.int .i64 s)/\St w W1 g (2+zs.length) cap (R0.two k o++R0.pg zs) w'):=
 (B3.spec_Pair s W).mono fun _ w' ⟨he,hb⟩=>⟨he,all_of (h.2.2.2.below hb) ((hb.cell (p:=⟨w.heap.size,2,none⟩) (by
  have:=h.2.2.1;unfold World.cell? at this
  cases hq:W.heap[w.heap.size]? with
  | none=>simp[hq] at this
  | some o=>exact (Array.getElem?_eq_some_iff.1 hq).1)).trans h.2.2.1)⟩
theorem inodeOk_at (k o s:Int) (a:Option Addr) (c:Nat) (zs:List Int) (W:World) (hbig:zs.length<=281474976710656) (hcap:zs.length<=c) (hR:P0.Row W a zs) (hbox:K0.Blk w.heap.size (vals k o s a zs.length c) W) (hl:Bq w W) :
  Calls prog 166 #[val k o s a zs.length c] W fun e w'=>e=.returned (.bool (I0.ok k o s zs))/\K0.Blk w.heap.size (vals k o s a zs.length c) w'/\P0.Row w' a zs/\Bq w w':=
 (I1.spec_InodeOk k o s a c zs W hbig hcap hR).mono fun _ _ ⟨he,hb⟩=>⟨he,hbox.below hb,hR.below hb,hl.trans (hb.mono hl.size)⟩
theorem spec_PutInode (k o s:Int) (a:Option Addr) (c:Nat) (zs:List Int) (w:World) (hbig:zs.length<=281474976710656) (hcap:zs.length<=c) (hR:P0.Row w a zs) :
  Calls prog 134 #[val k o s a zs.length c] w (Rb (.string (R0.putI k o s zs)) w):=by
 have hbox:=K0.blk_new (vals k o s a zs.length c) w 96;have hl0:=K0.below_new w (.cells (Iq k o s a zs.length c) 96);have hR0:=hR.below hl0;clear hR
 by_cases hok:I0.ok k o s zs=true
 ·obtain ⟨hk,ho,hs,hl,-,hp⟩:=R0.ok_bounds hok
  have hP2:=R0.pair_size s (by omega) (by omega);have hs0:0<=s:=hs.1;have hk0:0<=k:=hk.1;have hk1:k<=2:=hk.2;have ho0:0<=o:=ho.1;have ho1:o<=9:=ho.2
  have HT:Hid (R0.putI k o s zs=(R0.two k o++B3.pair s++R0.pg zs)++B4.zeros (16-(4+(zs.length:Int)))):=by
   rw[R0.putI,if_pos hok,R0.head,B4.zeros,if_pos (by omega),show (16-(4+(zs.length:Int))).toNat=12-zs.length by omega];rfl
  go_enter func134,ntmps134
  go_wp2_with (go_at_call 166;refine (inodeOk_at k o s a c zs _ hbig hcap hR0 hbox hl0).mono ?_;rintro e w1 ⟨rfl,hbox1,hR1,hl1⟩;have c0:=hbox1.c0;have c1:=hbox1.c1;have c2:=hbox1.c2;have c3:=hbox1.c3;have hbuf0:=F0.buf_two (base:=w1.heap.size) w1 k o (by omega) (by omega) (Nat.le_refl _);have bel0:=K0.below_new w1 (.cells #[.int .u8 k,.int .u8 o] 5))
  go_loopw [3,4] (fun r i w'=>∃ (j g cap:Nat),j<=zs.length/\i=Iv j/\r=Sv g (2+j) cap/\F0.Buf w1.heap.size w' g (2+j) cap (upto k o zs j)/\Bq w1 w') (fun _ i _=>zs.length-(intOf i).toNat)
  case atStart=>exact ⟨0,_,_,Nat.zero_le _,rfl,rfl,by rw[upto_zero];exact hbuf0,bel0⟩
  case round=>
   obtain ⟨j,g,cap,hj,rfl,rfl,hbuf,hbel⟩:=hrel;have hboxr:=hbox1.below hbel;have r2:=hboxr.c2;have r3:=hboxr.c3;clear hbuf0 bel0 c0 c1 c2 c3 hbox hl0 hR0
   by_cases hlt:j<zs.length
   ·obtain ⟨b,off,rfl,hb,hc⟩:=(hR1.below hbel).get hlt
    have x1:=hc j hlt;have hz:=R0.pages_bounds hp hlt;have hu:=upto_succ k o zs j hlt;obtain ⟨z,ez⟩:∃ z,zs.getD j 0=z:=⟨_,rfl⟩;rw[ez] at x1 hz hu
    have z0:0<=z:=by omega
    have z1:z<=23:=hz.2
    have e1:(0:Int)<=(j:Int):=by omega
    have e2:(j:Int)<(zs.length:Int):=by omega
    have HU:Hid (upto k o zs j ++ ⟨#[UInt8.ofNat z.toNat]⟩=upto k o zs (j+1)):=hu;clear hu ez hc hz
    go_wp2_with (at_builtin;refine F0.append_byte rfl (.tmp 23) (.tmp 30) rfl hbuf z (by omega) (by rfl) (by rfl) (by omega) hbel.size ?_;intro g1 cap1 w2 hbuf1 bel1)
    go_roundw
    case rel=>exact ⟨j+1,g1,cap1,by omega,by go_num,rfl,by rw[<- HU.out];exact hbuf1,hbel.trans bel1⟩
    case measure=>simp[intOf];omega
   ·obtain rfl:j=zs.length:=by omega
    rw[upto_all] at hbuf;have st:St w w1 g (2+zs.length) cap (R0.two k o++R0.pg zs) wr:=⟨hbuf,hbel⟩
    have hfin:Hid (∀ W,St w w1 g (2+zs.length) cap (R0.two k o++R0.pg zs) W->Bq w W):=fun W h=>hl1.trans (h.bel.mono hl1.size)
    have hcp:2+zs.length<=cap:=by
     rcases hbuf.2.2 with ⟨h0,_⟩ | ⟨g',cap',cur,hv,_,_,hle,_⟩
     ·cases h0
     ·simp at hv;omega
    clear hR1 hbuf hbel hbox1 hl1
    have z1:(R0.two k o).size+(B3.pair s).size<=9223372036854775807:=by rw[R0.two_size,hP2];omega
    have z2:(R0.two k o++B3.pair s).size+(R0.pg zs).size<=9223372036854775807:=by rw[ByteArray.size_append,R0.two_size,hP2,R0.pg_size];omega
    have h2s:=R0.two_size k o;have hps:=R0.pg_size zs
    have z3:4+zs.length+(B4.zeros (16-(4+(zs.length:Int)))).size<=9223372036854775807:=by rw[B4.zeros,if_pos (by omega),B4.nulls_size];omega
    have hSd:conA k o g cap wr.drew/\conB zs g cap wr.drew/\wr.drew.cell? ⟨w.heap.size,2,none⟩=some (Iv s)/\St w w1 g (2+zs.length) cap (R0.two k o++R0.pg zs) wr.drew:=all_of st.drew r2
    by_cases hc2:cap=2
    ·subst hc2
     obtain rfl:zs=[]:=List.eq_nil_of_length_eq_zero (by omega);have hcn:=conv_none;have HE:Hid (R0.putI k o s []=(R0.two k o++B3.pair s ++ ⟨#[]⟩)++B4.zeros 12):=HT.out;have z5:4+(B4.zeros 12).size<=9223372036854775807:=z3;clear HT z3;go_wp2
     go_region_held3 (fun W=>(convert 126 9 (Sv g 2 2)).run prog W=.ok (.string (R0.two k o)) W/\(convert 126 9 (.slice (some ⟨g,2,none⟩) ([]:List Int).length (2-2))).run prog W=.ok (.string (R0.pg [])) W/\Ce W w.heap.size 2 (Iv s)/\St w w1 g (2+([]:List Int).length) 2 (R0.two k o++R0.pg []) W) (assumption) ((go_at_call 167;refine (pair_all (by assumption)).mono ?_;rintro e w4 ⟨rfl,h4⟩))
     all_goals
      go_wp2_with (go_at_call 47;refine (B4.spec_Zeros _ _).mono ?_;rintro e w2 ⟨rfl,rfl⟩)
      go_ret;exact ⟨ret_str HE.out.symm,hfin.out _ h4.2.2.2⟩
    ·have i1:(2:Int)<=(cap:Int):=by omega
     have i2:(2:Int)<=2+(zs.length:Int):=by omega
     have i3:2+(zs.length:Int)<=(cap:Int):=by omega
     have i5:2+2+zs.length<=9223372036854775807:=by omega
     have i6:4+zs.length<=9223372036854775807:=by omega
     have i7:¬ 9223372036854775807<4+zs.length:=by omega
     have i4:(2:Int)<=((2+zs.length:Nat):Int):=by omega
     go_wp2
     go_region_held3 (fun W=>(convert 126 9 (Sv g 2 cap)).run prog W=.ok (.string (R0.two k o)) W/\(convert 126 9 (.slice (some ⟨g,2,none⟩) zs.length (cap-2))).run prog W=.ok (.string (R0.pg zs)) W/\Ce W w.heap.size 2 (Iv s)/\St w w1 g (2+zs.length) cap (R0.two k o++R0.pg zs) W) (assumption) ((go_at_call 167;refine (pair_all (by assumption)).mono ?_;rintro e w4 ⟨rfl,h4⟩))
     all_goals
      go_wp2_with (go_at_call 47;refine (B4.spec_Zeros _ _).mono ?_;rintro e w2 ⟨rfl,rfl⟩)
      go_ret;exact ⟨ret_str HT.out.symm,hfin.out _ h4.2.2.2⟩
 ·have hok':I0.ok k o s zs=false:=by simpa using hok
  have HR:Hid (R0.putI k o s zs=⟨#[]⟩):=by rw[R0.putI,if_neg hok];rfl
  go_enter func134,ntmps134
  go_wp2_with (go_at_call 166;refine (inodeOk_at k o s a c zs _ hbig hcap hR0 hbox hl0).mono ?_;rintro e w1 ⟨rfl,hbox1,hR1,hl1⟩)
  go_ret;exact ⟨ret_str HR.out.symm,hl1⟩
end R2
namespace G4
open I0 (val vals)
open G3 (Ans ans_no ans_yes)
theorem step_call2 {P:Program} {ops:Array Oper} {o:Oper} {A:Act} {W:World} {K:Act->World->Prop} {Q:Exit->Act->World->Prop} {E:Prop} {f:Nat} (hgd:o.guard=none) (x y:Operand) (ts:Array TypeId)
  (hop:o.op=.call { callee:=.value (.func f),args:=#[x,y],argTypes:=ts }) (eg:∀ args w,(callFunc f args).run P w=.ok (.enter f args) w) (vx vy:Value) (hx:A.eval x=vx) (hy:A.eval y=vy)
  (hc:Calls P f #[vx,vy] W fun e w'=>∃ u,e=.returned u/\K (A.put o.dst u) w'):if Region.wanted o (yielded ops A.tmps)=true then Oper.wp P o A W K Q else E:=by
 have hw:Region.wanted o (yielded ops A.tmps)=true:=by simp[Region.wanted,hgd]
 rw[if_pos hw]
 have he:(execOp A.eval o).run P W=.ok (.enter f #[vx,vy]) W:=by
  subst hx;subst hy;simp[execOp,hop,resolve,go_sem,invoke,eg]
 unfold Oper.wp;rw[he];refine Calls.mono hc ?_;rintro e w' ⟨u,rfl,h⟩;exact h
structure Sp (w:World) (k o s:Int) (a:Option Addr) (n c:Nat) (zs:List Int) (W:World):Prop where
 res:K0.Blk w.heap.size (vals 0 0 0 none 0 0) W
 nd:K0.Blk (w.heap.size+1) (vals k o s a n c) W
 buf:J0.IBuf (w.heap.size+2) W a n c zs
 lt:w.heap.size+2<=W.heap.size
 bel:Bq w W
variable {w W W' : World} {k o s : Int} {a : Option Addr} {n c : Nat} {zs : List Int}
theorem Sp.below (h:Sp w k o s a n c zs W) (hb:Bq W W'):Sp w k o s a n c zs W':=⟨h.res.below hb,h.nd.below hb,h.buf.below hb,Nat.le_trans h.lt hb.size,h.bel.trans (hb.mono h.bel.size)⟩
theorem Sp.drewN (h:Sp w k o s a n c zs W) (m:Nat):Sp w k o s a n c zs (W.drewN m):=⟨h.res.drewN m,h.nd.drewN m,h.buf.drewN m,h.lt,K0.below_drewN h.bel m⟩
theorem sp_new (w:World) (k o s:Int) (m:Nat):Sp w k o s none 0 0 [] (((w.alloc (.cells (Iq 0 0 0 none 0 0) 96)).drewN m).alloc (.cells (Iq k o s none 0 0) 96)):=
 ⟨((K0.blk_new (vals 0 0 0 none 0 0) w 96).drewN m).alloc _,K0.blk_at (vals k o s none 0 0) ((w.alloc _).drewN m) 96 (by simp),J0.ibuf_nil _,by simp,(K0.below_drewN ((Below.refl _ _).alloc (Nat.le_refl _) _) m).alloc (by simp) _⟩
theorem Sp.step (h:Sp w k o s a n c zs W) {g' c':Nat} {z:Int} (hb:J0.IBuf (w.heap.size+2) W' (some ⟨g',0,none⟩) (n+1) c' (zs ++ [z])) (hl:Below (w.heap.size+2) W W') :
  Sp w k o s (some ⟨g',0,none⟩) (n+1) c' (zs ++ [z]) (W'.setCell ⟨w.heap.size+1,3,none⟩ (Sv g' (n+1) c')):=by
 have r1:=J0.blk_keep h.res hl (by omega);have n1:=J0.blk_keep h.nd hl (by omega);refine ⟨r1.setOther (by omega) 3 _,n1.set 3 _,⟨hb.1,hb.2.1,?_⟩,?_,(h.bel.trans (hl.mono (by omega))).setCell (p:=⟨w.heap.size+1,3,none⟩) (by simp) _⟩
 ·rcases hb.2.2 with h0 | ⟨g,cap,cur,hv,hg,hc,r⟩
  ·exact Or.inl h0
  ·refine Or.inr ⟨g,cap,cur,hv,hg,?_,r⟩
   rw[Below.heap_setCell W' ⟨w.heap.size+1,3,none⟩ _ g (by show g≠w.heap.size+1;omega)];exact hc
 ·have:=Nat.le_trans h.lt hl.size
  simpa [World.setCell] using this
theorem Sp.at3 (h:Sp w k o s a n c zs W) (hl:Below (w.heap.size+2) W W'):Ce W' (w.heap.size+1) 3 (.slice a n c)/\W'.frozen? ⟨w.heap.size+1,3,none⟩=false:=by
 have n1:=J0.blk_keep h.nd hl (by omega);exact ⟨n1.c3,n1.f3⟩
theorem Sp.done (h:Sp w k o s a n c zs W) (x y z u:Value):J0.Own w.heap.size ((((W.setCell ⟨w.heap.size,0,none⟩ x).setCell ⟨w.heap.size,1,none⟩ y).setCell ⟨w.heap.size,2,none⟩ z).setCell ⟨w.heap.size,3,none⟩ u) a zs/\
    Bq w ((((W.setCell ⟨w.heap.size,0,none⟩ x).setCell ⟨w.heap.size,1,none⟩ y).setCell ⟨w.heap.size,2,none⟩ z).setCell ⟨w.heap.size,3,none⟩ u):=
  ⟨((((h.buf.own.set (by omega) 0 x).set (by omega) 1 y).set (by omega) 2 z).set (by omega) 3 u).mono (by omega),
   (((h.bel.setCell (p:=⟨w.heap.size,0,none⟩) (Nat.le_refl _) _).setCell (p:=⟨w.heap.size,1,none⟩) (Nat.le_refl _) _).setCell (p:=⟨w.heap.size,2,none⟩) (Nat.le_refl _) _).setCell (p:=⟨w.heap.size,3,none⟩) (Nat.le_refl _) _⟩
theorem spec_GetInode (s:ByteArray) (w:World) (hs:s.size<=281474976710656):Calls prog 92 #[.string s] w (Ans s w):=by
 have hm:s.size<=maxLen:=by unfold maxLen;omega
 have hpa:=G0.pairAt_lt s 2;have hcl:=G0.cnt_le s;have hct:=G0.cnt_lt s;have sp0:=sp_new w (B1.byteAt s 0) (B1.byteAt s 1) (B6.pairAt s 2);have heg:∀ args w,(callFunc 131 args).run prog w=.ok (.enter 131 args) w:=enters_of func131 (by kernel_rfl) rfl
 have HY:Hid (∀ a c w',s.size=16->((R0.putI (B1.byteAt s 0) (B1.byteAt s 1) (B6.pairAt s 2) (G0.pgs s (G0.cnt s))).toList == s.toList)=true->J0.Own w.heap.size w' a (G0.pgs s (G0.cnt s))->(G0.pgs s (G0.cnt s)).length<=c->Bq w w'->Ans s w (.returned (.tuple #[val (B1.byteAt s 0) (B1.byteAt s 1) (B6.pairAt s 2) a (G0.pgs s (G0.cnt s)).length c,.bool true])) w'):=fun a c w' h16 htx ho hl hb=>ans_yes (G0.isI_of h16 htx) ho hl hb
 have HN:Hid (∀ w',((R0.putI (B1.byteAt s 0) (B1.byteAt s 1) (B6.pairAt s 2) (G0.pgs s (G0.cnt s))).toList == s.toList)=false->Bq w w'->Ans s w (.returned (.tuple #[val 0 0 0 none 0 0,.bool false])) w'):=fun w' htx hb=>ans_no (G0.isI_not htx) hb
 have HZ:Hid (∀ w',¬ s.size=16->Bq w w'->Ans s w (.returned (.tuple #[val 0 0 0 none 0 0,.bool false])) w'):=fun w' h16 hb=>ans_no (G0.isI_no h16) hb
 have hlen:(G0.pgs s (G0.cnt s)).length=G0.cnt s:=G0.pgs_length _ _;obtain ⟨R,hR⟩:∃ R,Ans s w=R:=⟨_,rfl⟩;rw[hR] at HY HN HZ ⊢;clear hR;go_enter func92,ntmps92
 go_wp2_with (first
  | (go_at_call 131;refine (B1.spec_ByteAt _ _ _ hm).mono ?_;rintro e w' ⟨rfl,rfl⟩)
  | (go_at_call 132;refine (B6.spec_PairAt _ _ _ hs).mono ?_;rintro e w0 ⟨rfl,m0,rfl⟩))
 go_loopw [5] (fun i w'=>∃ (k c:Nat) (a:Option Addr),k<=G0.cnt s/\i=Iv (k:Int)/\Sp w (B1.byteAt s 0) (B1.byteAt s 1) (B6.pairAt s 2) a k c (G0.pgs s k) w') (fun i _=>12-(intOf i).toNat)
 case atStart=>exact ⟨0,0,none,Nat.zero_le _,rfl,sp0 m0⟩
 case round=>
  obtain ⟨k,c,a,hk,rfl,sp⟩:=hrel;clear sp0;have x0:=sp.nd.c0;have x1:=sp.nd.c1;have x2:=sp.nd.c2;have x3:=sp.nd.c3;have x4:=sp.nd.f3
  have hnd:Hid (∀ W,Calls prog 133 #[Iv (B6.pairAt s 2)] W fun e w'=>e=.returned (Iv (P0.need (B6.pairAt s 2)))/\W=w'):=fun W=>(P1.l03Need _ _ hpa.1 hpa.2).mono fun _ _ h=>⟨h.1,h.2.symm⟩
  by_cases hlt:k<G0.cnt s
  ·obtain ⟨h1,h2⟩:=(hct k).1 hlt
   have h2':(k:Int)<12:=by omega
   have hwr:IntKind.i64.wrap (4+(k:Int))=4+(k:Int):=by rw[IntKind.wrap_i64];omega
   have HS:Hid (G0.pgs s k ++ [B1.byteAt s (4+(k:Int))]=G0.pgs s (k+1)):=G0.pgs_succ s k;have xa:=(sp.nd.alloc (.cells #[Iv (B1.byteAt s (4+(k:Int)))] 3)).c3
   have hby:Hid (∀ W,Calls prog 131 #[.string s,Iv (4+(k:Int))] W fun e w'=>e=.returned (Iv (B1.byteAt s (4+(k:Int))))/\W=w'):=fun W=>(B1.spec_ByteAt _ _ _ hm).mono fun _ _ h=>⟨h.1,h.2.symm⟩
   clear hct HY HN HZ
   go_wp2_with (go_at_call 133;refine (hnd.out _).mono ?_;rintro e w' ⟨rfl,rfl⟩)
   go_region_law (first
    | (refine step_call2 rfl (.tmp 26) (.tmp 28) _ rfl heg (.string s) (Iv (4+(k:Int))) (by simp[Act.eval,Act.put]) (by simp[Act.eval,Act.put]) ((hby.out _).mono ?_);rintro e w' ⟨rfl,rfl⟩;refine ⟨_,rfl,?_⟩)
    | (refine J0.step_int (w:=wr.drew) rfl (.tmp 25) (.tmp 30) rfl sp.buf.drew _ (by simp[Act.eval,Act.put]) (by simp[Act.eval,Act.put]) (by omega) sp.lt ?_;intro g1 cap1 w1 hbuf1 bel1;have y3:=(sp.drewN 1).at3 bel1;have y4:=y3.2;have y3:=y3.1))
   all_goals
    go_wp2
    go_roundw
    case rel=>exact ⟨k+1,cap1,some ⟨g1,0,none⟩,by omega,by go_num,by rw[<- HS.out];exact (sp.drewN 1).step hbuf1 bel1⟩
    case measure=>simp[intOf];omega
  ·obtain rfl:k=G0.cnt s:=by omega
   have hpi:Hid (Calls prog 134 #[val (B1.byteAt s 0) (B1.byteAt s 1) (B6.pairAt s 2) a (G0.cnt s) c] wr (Rb (.string (R0.putI (B1.byteAt s 0) (B1.byteAt s 1) (B6.pairAt s 2) (G0.pgs s (G0.cnt s)))) wr)):=by
    have:=R2.spec_PutInode (B1.byteAt s 0) (B1.byteAt s 1) (B6.pairAt s 2) a c (G0.pgs s (G0.cnt s)) wr (by omega) (by rw[hlen];exact sp.buf.fits) sp.buf.own.row;rw[hlen] at this;exact this
   rw[hlen] at HY
   have HE:Hid (((G0.cnt s:Int)<P0.need (B6.pairAt s 2)/\¬ (G0.cnt s:Int)<12)\/¬ (G0.cnt s:Int)<P0.need (B6.pairAt s 2)):=by
    show _\/_
    by_cases h:(G0.cnt s:Int)<P0.need (B6.pairAt s 2)
    ·left
     refine ⟨h,fun h2=>?_⟩;exact hlt ((hct _).2 ⟨h,by omega⟩)
    ·exact Or.inr h
   have hfit:=sp.buf.fits;have r0:=sp.res.c0;have r1:=sp.res.c1;have r2:=sp.res.c2;have r3:=sp.res.c3;have q0:=sp.res.f0;have q1:=sp.res.f1;have q2:=sp.res.f2;have q3:=sp.res.f3;clear hct hlt hk hlen
   have e3:decide ((G0.cnt s:Int)<P0.need (B6.pairAt s 2))=false\/((G0.cnt s:Int)<P0.need (B6.pairAt s 2)/\decide ((G0.cnt s:Int)<12)=false):=by
    rcases HE.out with ⟨h1,h2⟩ | h1
    ·exact Or.inr ⟨h1,by simpa using h2⟩
    ·exact Or.inl (by simpa using h1)
   clear HE
   rcases e3 with e3 | ⟨e4,e3⟩
   all_goals
    by_cases h16:s.size=16
    ·have g16:((s.size:Int) != 16)=false:=by simp;omega
     by_cases htx:((R0.putI (B1.byteAt s 0) (B1.byteAt s 1) (B6.pairAt s 2) (G0.pgs s (G0.cnt s))).toList == s.toList)=true
     ·go_wp2_with (first
       | (go_at_call 133;refine (hnd.out _).mono ?_;rintro e w' ⟨rfl,rfl⟩)
       | (go_at_call 134;refine hpi.out.mono ?_;rintro e w2 ⟨rfl,b2⟩;have sp2:=sp.below b2;have y0:=sp2.nd.c0;have y1:=sp2.nd.c1;have y2:=sp2.nd.c2;have y3:=sp2.nd.c3;have r0:=sp2.res.c0;have r1:=sp2.res.c1;have r2:=sp2.res.c2;have r3:=sp2.res.c3;have q0:=sp2.res.f0;have q1:=sp2.res.f1;have q2:=sp2.res.f2;have q3:=sp2.res.f3))
      have q:=sp2.res.put4 (Iv (B1.byteAt s 0)) (Iv (B1.byteAt s 1)) (Iv (B6.pairAt s 2)) (.slice a (G0.cnt s) c);have d:=sp2.done (Iv (B1.byteAt s 0)) (Iv (B1.byteAt s 1)) (Iv (B6.pairAt s 2)) (.slice a (G0.cnt s) c);exact bodyPost_ret (v:=.tuple #[val (B1.byteAt s 0) (B1.byteAt s 1) (B6.pairAt s 2) a (G0.cnt s) c,.bool true]) (by simp[results,results92,go_sem,q.c0,q.c1,q.c2,q.c3]) rfl (HY.out _ _ _ h16 htx d.1 hfit d.2)
     ·have htx':((R0.putI (B1.byteAt s 0) (B1.byteAt s 1) (B6.pairAt s 2) (G0.pgs s (G0.cnt s))).toList == s.toList)=false:=by simpa using htx
      go_wp2_with (first
       | (go_at_call 133;refine (hnd.out _).mono ?_;rintro e w' ⟨rfl,rfl⟩)
       | (go_at_call 134;refine hpi.out.mono ?_;rintro e w2 ⟨rfl,b2⟩;have sp2:=sp.below b2;have r0:=sp2.res.c0;have r1:=sp2.res.c1;have r2:=sp2.res.c2;have r3:=sp2.res.c3;have q0:=sp2.res.f0;have q1:=sp2.res.f1;have q2:=sp2.res.f2;have q3:=sp2.res.f3))
      have q:=sp2.res.put4 (Iv 0) (Iv 0) (Iv 0) (.slice none 0 0);have d:=sp2.done (Iv 0) (Iv 0) (Iv 0) (.slice none 0 0);exact bodyPost_ret (v:=.tuple #[val 0 0 0 none 0 0,.bool false]) (by simp[results,results92,go_sem,q.c0,q.c1,q.c2,q.c3]) rfl (HN.out _ htx' d.2)
    ·have g16:((s.size:Int) != 16)=true:=by simp;omega
     go_wp2_with (go_at_call 133;refine (hnd.out _).mono ?_;rintro e w' ⟨rfl,rfl⟩)
     have q:=sp.res.put4 (Iv 0) (Iv 0) (Iv 0) (.slice none 0 0);have d:=sp.done (Iv 0) (Iv 0) (Iv 0) (.slice none 0 0);exact bodyPost_ret (v:=.tuple #[val 0 0 0 none 0 0,.bool false]) (by simp[results,results92,go_sem,q.c0,q.c1,q.c2,q.c3]) rfl (HZ.out _ h16 d.2)
end G4
end Go.Proofs.YtlejhfnjmkdobaaGreatDoor
