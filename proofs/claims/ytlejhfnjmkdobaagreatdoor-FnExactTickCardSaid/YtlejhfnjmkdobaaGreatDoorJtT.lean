/- Joined texts. -/
import Derived.Test.YtlejhfnjmkdobaaGreatDoorJtQ
import Derived.Test.YtlejhfnjmkdobaaGreatDoorJtL
import Derived.Lib.ItoaLen
set_option linter.unusedVariables false
set_option linter.unusedSimpArgs false
set_option maxRecDepth 10000
set_option maxHeartbeats 16000000
namespace Go.Proofs.YtlejhfnjmkdobaaGreatDoor
open Go.Proofs.Tryz
namespace N12
open ChangeShapes WideShapes ChangeAt RowKit
open N0 (Ln)
open N1 (Sl Lists Fit FitM LB lb_new)
open N4 (at3 Cp)
structure A (w:World) (d:Ln) (s:Sl) (W:World):Prop where
 b:LB w.heap.size d s W
 l:Lists W d s
 bel:Bq w W
variable {w W W' : World} {d : Ln} {s : Sl} {g1 g2 g3 B : Nat}
theorem A.below (h:A w d s W) (hb:Bq W W'):A w d s W':=⟨h.b.below hb,h.l.below hb,h.bel.trans (hb.mono h.bel.size)⟩
theorem A.drew (h:A w d s W):A w d s W.drew:=h.below ((Below.refl _ _).drew)
structure U (w:World) (d:Ln) (s:Sl) (g1 g2 g3 B:Nat) (W:World):Prop where
 t:A w d s W
 n:LB B d (at3 d g1 g2 g3) W
 cp:Cp w.heap.size d g1 g2 g3 W
theorem U.below (h:U w d s g1 g2 g3 B W) (hb:Bq W W'):U w d s g1 g2 g3 B W':=⟨h.t.below hb,h.n.below hb,h.cp.below hb⟩
theorem U.drew (h:U w d s g1 g2 g3 B W):U w d s g1 g2 g3 B W.drew:=h.below ((Below.refl _ _).drew)
theorem cp_mono {b b':Nat} (h:Cp b d g1 g2 g3 W) (hb:b'<=b):Cp b' d g1 g2 g3 W:=⟨Nat.le_trans hb h.h1,Nat.le_trans hb h.h2,Nat.le_trans hb h.h3,h.k1,h.k2,h.k3⟩
theorem sizes (h:N3.total d<=1048576):d.pg.length<=1048576/\d.po.length<=1048576/\d.fr.length<=1048576/\d.rc.size<=1048576/\d.sav.size<=1048576:=by
 unfold N3.total at h;omega
end N12
namespace Z1
open ChangeShapes WideShapes ChangeAt RowKit
open N0 (Ln)
open N1 (Sl val vals Lists FitM LB lb_new)
open N3 (total szOk szNo)
open Z0 (dat Row Lns Kp kval kvals FitK)
def leftL (d:Ln) (l:Int):Int:=if (total d:Int)<=l then l-(total d:Int) else -1
theorem ret_int {k:IntKind} {a b:Int} (h:a=b):Ending.returned (.int k a)=.returned (.int k b):=by rw[h]
theorem szLoan (d:Ln) (s:Sl) (l:Int) (w:World) (hF:FitM d s) (h0:0<=l) (hl:l<=1048576) :
  Calls prog 28 #[val d s,Iv l] w (Rb (Iv (leftL d l)) w):=by
 have hB:=K0.below_new w (.cells (N1.Lc d s) 70);have l1:=hF.l1;have l2:=hF.l2;have l3:=hF.l3;have l4:=hF.m4;have l5:=hF.m5;have l4':d.rc.size<=9223372036854775807:=l4;have l5':d.sav.size<=9223372036854775807:=l5
 by_cases h:(total d:Int)<=l
 ·have HR:Hid (leftL d l=l-(d.rc.size:Int)-(d.pg.length:Int)-(d.sav.size:Int)-(d.po.length:Int)-(d.fr.length:Int)):=by
   show leftL d l=_
   rw[leftL,if_pos h,total];omega
  unfold total at h
  have e1:(0:Int)<=l-(d.rc.size:Int):=by omega
  have g1:¬ (l-(d.rc.size:Int)<0):=by omega
  have g2:¬ (l-(d.rc.size:Int)-(d.pg.length:Int)<0):=by omega
  have g3:¬ (l-(d.rc.size:Int)-(d.pg.length:Int)-(d.sav.size:Int)<0):=by omega
  have g4:¬ (l-(d.rc.size:Int)-(d.pg.length:Int)-(d.sav.size:Int)-(d.po.length:Int)<0):=by omega
  have g5:¬ (l-(d.rc.size:Int)-(d.pg.length:Int)-(d.sav.size:Int)-(d.po.length:Int)-(d.fr.length:Int)<0):=by omega
  go_enter func28,ntmps28
  go_wp2_with (go_at_call 57;refine (szOk _ _ _ _ _ (by assumption) (by omega) (by omega)).mono ?_;rintro e w' ⟨rfl,rfl⟩)
  go_ret;exact ⟨ret_int HR.out.symm,hB⟩
 ·have HR:Hid (leftL d l = -1):=if_neg h
  rw[HR.out];unfold total at h
  by_cases g1:l-(d.rc.size:Int)<0
  ·go_enter func28,ntmps28
   go_wp2;go_ret;exact ⟨rfl,hB⟩
  ·by_cases g2:l-(d.rc.size:Int)-(d.pg.length:Int)<0
   ·go_enter func28,ntmps28
    go_wp2_with (go_at_call 57;refine (szNo _ _ _ _ _ (by assumption) (by omega) (by omega) (by omega)).mono ?_;rintro e w' ⟨rfl,rfl⟩)
    go_ret;exact ⟨rfl,hB⟩
   ·by_cases g3:l-(d.rc.size:Int)-(d.pg.length:Int)-(d.sav.size:Int)<0
    ·go_enter func28,ntmps28
     go_wp2_with (go_at_call 57;refine (szOk _ _ _ _ _ (by assumption) (by omega) (by omega)).mono ?_;rintro e w' ⟨rfl,rfl⟩)
     go_ret;exact ⟨rfl,hB⟩
    ·by_cases g4:l-(d.rc.size:Int)-(d.pg.length:Int)-(d.sav.size:Int)-(d.po.length:Int)<0
     ·go_enter func28,ntmps28
      go_wp2_with (first
       | (go_at_call 57;refine (szOk _ _ _ _ _ (by assumption) (by omega) (by omega)).mono ?_;rintro e w' ⟨rfl,rfl⟩)
       | (go_at_call 57;refine (szNo _ _ _ _ _ (by assumption) (by omega) (by omega) (by omega)).mono ?_;rintro e w' ⟨rfl,rfl⟩))
      go_ret;exact ⟨rfl,hB⟩
     ·go_enter func28,ntmps28
      go_wp2_with (first
       | (go_at_call 57;refine (szOk _ _ _ _ _ (by assumption) (by omega) (by omega)).mono ?_;rintro e w' ⟨rfl,rfl⟩)
       | (go_at_call 57;refine (szNo _ _ _ _ _ (by assumption) (by omega) (by omega) (by omega)).mono ?_;rintro e w' ⟨rfl,rfl⟩))
      go_ret;exact ⟨rfl,hB⟩
def tot (ds:List Ln):Nat->Nat
 | 0=>0
 | k+1=>tot ds k+total (dat ds k)
theorem tot_mono (ds:List Ln) (k:Nat):∀ m,tot ds k<=tot ds (k+m)
 | 0=>Nat.le_refl _
 | m+1=>Nat.le_trans (tot_mono ds k m) (Nat.le_add_right _ _)
theorem tot_le {ds:List Ln} {k n:Nat} (h:k<=n):tot ds k<=tot ds n:=by
 have:=tot_mono ds k (n-k)
 rwa [show k+(n-k)=n by omega] at this
theorem tot_one {ds:List Ln} {j:Nat} (hj:j<ds.length):total (dat ds j)<=tot ds ds.length:=by
 have h1:=tot_le (ds:=ds) (k:=j+1) (n:=ds.length) (by omega);have h2:tot ds (j+1)=tot ds j+total (dat ds j):=rfl;omega
def leftS (ds:List Ln) (l:Int):Int:=if ((ds.length+tot ds ds.length:Nat):Int)<=l then l-(ds.length:Int)-(tot ds ds.length:Int) else -1
theorem szLoanS (a:Option Addr) (c:Nat) (ds:List Ln) (ss:Nat->Sl) (l:Int) (w:World) (hn:ds.length<=maxLen) (hF:∀ j,j<ds.length->FitM (dat ds j) (ss j)) (h0:0<=l) (hl:l<=1048576) (hR:Row w a ds ss) :
  Calls prog 15 #[.slice a ds.length c,Iv l] w (Rb (Iv (leftS ds l)) w):=by
 unfold maxLen at hn
 by_cases h1:l-(ds.length:Int)<0
 ·have HR:Hid (leftS ds l = -1):=if_neg (by omega)
  go_enter func15,ntmps15;go_wp2;go_ret;exact ⟨ret_int HR.out.symm,Below.refl _ _⟩
 ·go_enter func15,ntmps15
  go_wp2
  go_loopw [1,5] (fun q i w'=>∃ k:Nat,k<=ds.length/\i=Iv k/\q=Iv (l-(ds.length:Int)-(tot ds k:Int))/\((ds.length+tot ds k:Nat):Int)<=l/\Bq w w') (fun _ i _=>ds.length-(intOf i).toNat)
  case atStart=>exact ⟨0,Nat.zero_le _,rfl,by simp[tot],by simp[tot];omega,Below.refl _ _⟩
  case round=>
   obtain ⟨k,hk,rfl,rfl,hs,hbel⟩:=hrel;have hB:=hbel.size
   by_cases hlt:k<ds.length
   ·obtain ⟨b,off,rfl,hlt0,hc⟩:=(hR.below hbel).get hlt
    obtain ⟨y0,y1,y2,y3,y4,y5,y6,y7⟩:=hc k hlt;have hf:=hF k hlt;have hsum:tot ds (k+1)=tot ds k+total (dat ds k):=rfl;obtain ⟨d,ed⟩:∃ d,dat ds k=d:=⟨_,rfl⟩;obtain ⟨s,es⟩:∃ s,ss k=s:=⟨_,rfl⟩;rw[ed,es] at hf;rw[ed] at hsum y0 y1 y2 y3 y4 y5 y6 y7;rw[es] at y4 y6 y7
    have e1:(0:Int)<=(k:Int):=by omega
    have e2:(k:Int)<(ds.length:Int):=by omega
    have hsz:Hid (∀ W,Calls prog 28 #[val d s,Iv (l-(ds.length:Int)-(tot ds k:Int))] W (Rb (Iv (leftL d (l-(ds.length:Int)-(tot ds k:Int)))) W)):=fun W=>szLoan d s _ W hf (by omega) (by omega)
    clear ed es hc hF hR hf
    by_cases h2:((ds.length+tot ds (k+1):Nat):Int)<=l
    ·have hz:leftL d (l-(ds.length:Int)-(tot ds k:Int))=l-(ds.length:Int)-(tot ds (k+1):Int):=by rw[leftL,if_pos (by omega)];omega
     rw[hz] at hsz
     have h3:¬ l-(ds.length:Int)-(tot ds (k+1):Int)<0:=by omega
     clear hz hsum
     go_wp2_with (go_at_call 28;refine (hsz.out _).mono ?_;rintro e w1 ⟨rfl,b1⟩)
     go_roundw
     case rel=>exact ⟨k+1,by omega,by go_num,rfl,h2,hbel.trans (b1.mono hB)⟩
     case measure=>simp[intOf];omega
    ·have hz:leftL d (l-(ds.length:Int)-(tot ds k:Int)) = -1:=by rw[leftL,if_neg (by omega)]
     rw[hz] at hsz
     have HR:Hid (leftS ds l = -1):=by
      refine if_neg ?_;have:=tot_le (ds:=ds) (k:=k+1) (n:=ds.length) (by omega);omega
     clear hz hsum
     go_wp2_with (go_at_call 28;refine (hsz.out _).mono ?_;rintro e w1 ⟨rfl,b1⟩)
     go_ret;exact ⟨ret_int HR.out.symm,hbel.trans (b1.mono hB)⟩
   ·obtain rfl:k=ds.length:=by omega
    have HR:Hid (leftS ds l=l-(ds.length:Int)-(tot ds ds.length:Int)):=if_pos hs;clear hR hF;go_wp2;go_ret;exact ⟨ret_int HR.out.symm,hbel⟩
def small (k:Kp):Prop:=k.mem.size+k.dur.size+k.ds.length+tot k.ds k.ds.length<=1048576
theorem szFit (k:Kp) (a:Option Addr) (c:Nat) (ss:Nat->Sl) (w:World) (hF:FitK k ss) (h:small k) (hR:Row w a k.ds ss) :
  Calls prog 4 #[kval k a c,Iv 1048576] w fun e w'=>(∃ q:Int,0<=q/\e=.returned (Iv q))/\Bq w w':=by
 have hB:=K0.below_new w (.cells #[.string k.mem,.string k.dur,.slice a k.ds.length c,Iv k.ck] 26);have hk:=K0.blk_new (kvals k a c) w 26;unfold small at h;have hd:=D1.szDev k.mem k.dur (w.alloc (.cells #[.string k.mem,.string k.dur,.slice a k.ds.length c,Iv k.ck] 26)) hF.m1 hF.m2;have ed:D1.sz k.mem k.dur=1048576-(k.mem.size:Int)-(k.dur.size:Int):=if_pos (by omega);rw[ed] at hd
 have HS:Hid (∀ W,Bq w W->Calls prog 15 #[.slice a k.ds.length c,Iv (1048576-(k.mem.size:Int)-(k.dur.size:Int))] W (Rb (Iv (1048576-(k.mem.size:Int)-(k.dur.size:Int)-(k.ds.length:Int)-(tot k.ds k.ds.length:Int))) W)):=fun W hb=>(szLoanS a c k.ds ss _ W hF.n hF.each (by omega) (by omega) (hR.below hb)).mono fun _ _ ⟨he,hb⟩=>⟨by rw[he,leftS,if_pos (by omega)],hb⟩
 have g1:¬ (1048576-(k.mem.size:Int)-(k.dur.size:Int)<0):=by omega
 have g2:¬ (1048576-(k.mem.size:Int)-(k.dur.size:Int)-(k.ds.length:Int)-(tot k.ds k.ds.length:Int)<0):=by omega
 clear ed hR hF;go_enter func4,ntmps4
 go_wp2_with (first
  | (go_at_call 14;refine hd.mono ?_;rintro e w1 ⟨rfl,b1⟩;have k1:=hk.below b1;have x2:=k1.c2;have l1:=hB.trans (b1.mono hB.size))
  | (go_at_call 15;refine (HS.out _ l1).mono ?_;rintro e w2 ⟨rfl,b2⟩))
 go_ret;exact ⟨⟨_,by omega,rfl⟩,l1.trans (b2.mono l1.size)⟩
theorem szBig (k:Kp) (a:Option Addr) (c:Nat) (ss:Nat->Sl) (w:World) (hF:FitK k ss) (h:¬ small k) (hR:Row w a k.ds ss) :
  Calls prog 4 #[kval k a c,Iv 1048576] w (Rb (Iv (-1)) w):=by
 have hB:=K0.below_new w (.cells #[.string k.mem,.string k.dur,.slice a k.ds.length c,Iv k.ck] 26);have hk:=K0.blk_new (kvals k a c) w 26;unfold small at h;have hd:=D1.szDev k.mem k.dur (w.alloc (.cells #[.string k.mem,.string k.dur,.slice a k.ds.length c,Iv k.ck] 26)) hF.m1 hF.m2
 by_cases h1:(k.mem.size:Int)+k.dur.size<=1048576
 ·have ed:D1.sz k.mem k.dur=1048576-(k.mem.size:Int)-(k.dur.size:Int):=if_pos h1
  rw[ed] at hd
  have HS:Hid (∀ W,Bq w W->Calls prog 15 #[.slice a k.ds.length c,Iv (1048576-(k.mem.size:Int)-(k.dur.size:Int))] W (Rb (Iv (-1)) W)):=fun W hb=>(szLoanS a c k.ds ss _ W hF.n hF.each (by omega) (by omega) (hR.below hb)).mono fun _ _ ⟨he,hb⟩=>⟨by rw[he,leftS,if_neg (by omega)],hb⟩
  have g1:¬ (1048576-(k.mem.size:Int)-(k.dur.size:Int)<0):=by omega
  clear ed hR hF;go_enter func4,ntmps4
  go_wp2_with (first
   | (go_at_call 14;refine hd.mono ?_;rintro e w1 ⟨rfl,b1⟩;have k1:=hk.below b1;have x2:=k1.c2;have l1:=hB.trans (b1.mono hB.size))
   | (go_at_call 15;refine (HS.out _ l1).mono ?_;rintro e w2 ⟨rfl,b2⟩))
  go_ret;exact ⟨rfl,l1.trans (b2.mono l1.size)⟩
 ·have ed:D1.sz k.mem k.dur = -1:=if_neg h1
  rw[ed] at hd;clear ed hR hF;go_enter func4,ntmps4
  go_wp2_with (go_at_call 14;refine hd.mono ?_;rintro e w1 ⟨rfl,b1⟩)
  go_ret;exact ⟨rfl,hB.trans (b1.mono hB.size)⟩
end Z1
namespace Z2
open ChangeShapes WideShapes ChangeAt RowKit
open N0 (Ln)
open N1 (Sl val vals Lists FitM Fit LB lb_new)
open N3 (total)
open N4 (at3 Cp)
open Z0 (dat Row Lns Subs At Kp kval kvals FitK)
open Z1 (tot small tot_one)
abbrev zero8:Array Value:=#[.int .i64 0,.int .i64 0,.int .i64 0,.string ⟨#[]⟩,.slice none 0 0,.string ⟨#[]⟩,.slice none 0 0,.slice none 0 0]
theorem infoL:(prog.info? 46).map (fun i=>(i.zero,i.size,i.bytes))=some (some (.agg zero8),8,128):=by kernel_rfl
theorem make_loans (n:Nat) (hn:n<=1048576):∃ C:Array Value,C.size=n*8/\∀ W:World,(Instr.makeSlice 29 (Iv (n:Int)) (Iv (n:Int))).run prog W=.ok (Sv W.heap.size n n) (W.alloc (.cells C 46)):=by
 obtain ⟨i0,hi,hz0,hz1,hz2⟩:=info_parts infoL;refine ⟨madeCells (Value.agg zero8).cells (n*i0.size),by rw[size_madeCells,hz1],fun W=>?_⟩;have h:=run_make (P:=prog) W 29 46 i0 (.agg zero8) underlying29 hi hz0 .i64 .i64 (n:Int) (n:Int) (by omega) (by omega) (by rw[hz2];omega) (by omega);rw[show ((n:Int)).toNat=n by omega] at h;exact h
def LAt (L:List Value) (o:Nat) (d:Ln) (s:Sl):Prop:=
 L[o]? = some (.int .i64 d.ino)/\L[o+1]? = some (.int .i64 d.cl)/\L[o+2]? = some (.int .i64 d.un)/\L[o+3]? = some (.string d.rc)/\L[o+4]? = some (.slice s.a1 d.pg.length s.c1)/\L[o+5]? = some (.string d.sav)/\L[o+6]? = some (.slice s.a2 d.po.length s.c2)/\L[o+7]? = some (.slice s.a3 d.fr.length s.c3)
theorem blk_get {B:Nat} {L:List Value} {W:World} (h:K0.Blk B L W) {x:Nat} {v:Value} (hx:L[x]? = some v):W.cell? ⟨B,x,none⟩=some v:=by
 obtain ⟨hl,he⟩:=List.getElem?_eq_some_iff.1 hx;rw[h.cell x hl,he]
theorem at_of {B:Nat} {L:List Value} {W:World} {o:Nat} {d:Ln} {s:Sl} (h:K0.Blk B L W) (hl:LAt L o d s):At W B o d s:=by
 obtain ⟨h0,h1,h2,h3,h4,h5,h6,h7⟩:=hl;exact ⟨blk_get h h0,blk_get h h1,blk_get h h2,blk_get h h3,blk_get h h4,blk_get h h5,blk_get h h6,blk_get h h7⟩
def put (L:List Value) (o:Nat) (d:Ln) (s:Sl):List Value:=((((((((L.set o (.int .i64 d.ino)).set (o+1) (.int .i64 d.cl)).set (o+2) (.int .i64 d.un)).set (o+3) (.string d.rc)).set (o+4) (.slice s.a1 d.pg.length s.c1)).set (o+5) (.string d.sav)).set (o+6) (.slice s.a2 d.po.length s.c2)).set (o+7) (.slice s.a3 d.fr.length s.c3))
theorem put_len (L:List Value) (o:Nat) (d:Ln) (s:Sl):(put L o d s).length=L.length:=by simp[put]
theorem put_get (L:List Value) (o:Nat) (d:Ln) (s:Sl) (h:o+7<L.length):LAt (put L o d s) o d s:=by
 unfold LAt put;refine ⟨?_,?_,?_,?_,?_,?_,?_,?_⟩
 all_goals
  simp[List.getElem?_set]
  try omega
theorem put_other {L:List Value} {o x:Nat} {d:Ln} {s:Sl} (h:x<o\/o+7<x):(put L o d s)[x]? = L[x]?:=by
 unfold put
 repeat rw[List.getElem?_set_ne (by omega)]
theorem lat_other {L:List Value} {o x:Nat} {d e:Ln} {s t:Sl} (hx:x+7<o) (h:LAt L x e t):LAt (put L o d s) x e t:=by
 unfold LAt at h ⊢;obtain ⟨h0,h1,h2,h3,h4,h5,h6,h7⟩:=h;exact ⟨(put_other (by omega)).trans h0,(put_other (by omega)).trans h1,(put_other (by omega)).trans h2,(put_other (by omega)).trans h3,(put_other (by omega)).trans h4,(put_other (by omega)).trans h5,(put_other (by omega)).trans h6,(put_other (by omega)).trans h7⟩
def setL (W:World) (B o:Nat) (d:Ln) (s:Sl):World:=((((((((W.setCell ⟨B,o,none⟩ (.int .i64 d.ino)).setCell ⟨B,o+1,none⟩ (.int .i64 d.cl)).setCell ⟨B,o+2,none⟩ (.int .i64 d.un)).setCell ⟨B,o+3,none⟩ (.string d.rc)).setCell ⟨B,o+4,none⟩ (.slice s.a1 d.pg.length s.c1)).setCell ⟨B,o+5,none⟩ (.string d.sav)).setCell ⟨B,o+6,none⟩ (.slice s.a2 d.po.length s.c2)).setCell ⟨B,o+7,none⟩ (.slice s.a3 d.fr.length s.c3))
theorem blk_setL {B o:Nat} {L:List Value} {W:World} {d:Ln} {s:Sl} (h:K0.Blk B L W):K0.Blk B (put L o d s) (setL W B o d s):=
 (((((((h.set _ _).set _ _).set _ _).set _ _).set _ _).set _ _).set _ _).set _ _
theorem blk_otherL {B B' o:Nat} {L:List Value} {W:World} {d:Ln} {s:Sl} (h:K0.Blk B' L W) (hne:B≠B'):K0.Blk B' L (setL W B o d s):=
 (((((((h.setOther hne _ _).setOther hne _ _).setOther hne _ _).setOther hne _ _).setOther hne _ _).setOther hne _ _).setOther hne _ _).setOther hne _ _
theorem bel_setL {B o b:Nat} {w W:World} {d:Ln} {s:Sl} (h:Below b w W) (hb:b<=B):Below b w (setL W B o d s):=
 (((((((h.setCell (p:=⟨B,o,none⟩) hb _).setCell (p:=⟨B,o+1,none⟩) hb _).setCell (p:=⟨B,o+2,none⟩) hb _).setCell (p:=⟨B,o+3,none⟩) hb _).setCell (p:=⟨B,o+4,none⟩) hb _).setCell (p:=⟨B,o+5,none⟩) hb _).setCell (p:=⟨B,o+6,none⟩) hb _).setCell (p:=⟨B,o+7,none⟩) hb _
theorem cp_setL {B o b g1 g2 g3:Nat} {W:World} {d e:Ln} {s:Sl} (h:Cp b e g1 g2 g3 W) (hb:B<b):Cp b e g1 g2 g3 (setL W B o d s):=by
 have n1:=h.h1;have n2:=h.h2;have n3:=h.h3;exact ⟨h.h1,h.h2,h.h3,blk_otherL h.k1 (by omega),blk_otherL h.k2 (by omega),blk_otherL h.k3 (by omega)⟩
structure Pl where
 g1:Nat
 g2:Nat
 g3:Nat
def pls (ds:List Ln) (P:Nat->Pl) (j:Nat):Sl:=at3 (dat ds j) (P j).g1 (P j).g2 (P j).g3
structure Mk (g b n:Nat) (ds:List Ln) (P:Nat->Pl) (k:Nat) (L:List Value) (W:World):Prop where
 len:L.length=n*8
 blk:K0.Blk g L W
 done:∀ j,j<k->LAt L (j*8) (dat ds j) (pls ds P j)
 sub:∀ j,j<k->Cp b (dat ds j) (P j).g1 (P j).g2 (P j).g3 W
variable {g b n k : Nat} {ds : List Ln} {P : Nat → Pl} {L : List Value} {w W W' : World}
theorem Mk.below (h:Mk g b n ds P k L W) (hb:Bq W W'):Mk g b n ds P k L W':=⟨h.len,h.blk.below hb,h.done,fun j hj=>(h.sub j hj).below hb⟩
theorem Mk.step (h:Mk g b n ds P k L W) (hk:k<n) (hg:g<b) {q:Pl} (hc:Cp b (dat ds k) q.g1 q.g2 q.g3 W) :
  Mk g b n ds (fun j=>if j=k then q else P j) (k+1) (put L (k*8) (dat ds k) (at3 (dat ds k) q.g1 q.g2 q.g3)) (setL W g (k*8) (dat ds k) (at3 (dat ds k) q.g1 q.g2 q.g3)):=by
 have hl:=h.len;refine ⟨by rw[put_len,hl],blk_setL h.blk,fun j hj=>?_,fun j hj=>?_⟩
 ·by_cases e:j=k
  ·subst e
   have:=put_get L (j*8) (dat ds j) (at3 (dat ds j) q.g1 q.g2 q.g3) (by omega)
   simpa [pls] using this
  ·have hd:=h.done j (by omega)
   have e2:pls ds (fun j=>if j=k then q else P j) j=pls ds P j:=by simp[pls,e]
   rw[e2];exact lat_other (by omega) hd
 ·by_cases e:j=k
  ·subst e
   have:=cp_setL (B:=g) (o:=j*8) (d:=dat ds j) (s:=at3 (dat ds j) q.g1 q.g2 q.g3) hc hg
   simpa using this
  ·have:=cp_setL (B:=g) (o:=k*8) (d:=dat ds k) (s:=at3 (dat ds k) q.g1 q.g2 q.g3) (h.sub j (by omega)) hg
   simpa [e] using this
structure Cps (g b:Nat) (ds:List Ln) (P:Nat->Pl) (W:World):Prop where
 ex:∃ L:List Value,Mk g b ds.length ds P ds.length L W
 lt:g<b
theorem Cps.below (h:Cps g b ds P W) (hb:Bq W W'):Cps g b ds P W':=by
 obtain ⟨L,hL⟩:=h.ex;exact ⟨⟨L,hL.below hb⟩,h.lt⟩
theorem Cps.rows (h:Cps g b ds P W):Lns W (some ⟨g,0,none⟩) ds (pls ds P):=by
 obtain ⟨L,hL⟩:=h.ex;refine ⟨Or.inr ⟨g,0,rfl,hL.blk.lt,fun j hj=>?_⟩,fun j hj=>(hL.sub j hj).lists⟩;rw[Nat.zero_add];exact at_of hL.blk (hL.done j hj)
theorem toLoanS (a:Option Addr) (c:Nat) (ds:List Ln) (ss:Nat->Sl) (w:World) (hs:ds.length+tot ds ds.length<=1048576) (hR:Lns w a ds ss) :
  Calls prog 20 #[.slice a ds.length c] w fun e w'=>∃ P,e=.returned (Sv w.heap.size ds.length ds.length)/\Cps w.heap.size (w.heap.size+1) ds P w'/\Bq w w':=by
 have hn:ds.length<=1048576:=by omega
 obtain ⟨C,hC,hmk⟩:=make_loans ds.length (by omega);have hmk0:=hmk w;have m0:Mk w.heap.size (w.heap.size+1) ds.length ds (fun _=>⟨0,0,0⟩) 0 C.toList (w.alloc (.cells C 46)):=⟨by rw[Array.length_toList,hC],by have:=K0.blk_new C.toList w 46;rwa [Array.toArray_toList] at this,fun j hj=>absurd hj (Nat.not_lt_zero _),fun j hj=>absurd hj (Nat.not_lt_zero _)⟩;have l0:=K0.below_new w (.cells C 46);obtain ⟨W0,hW0⟩:∃ W0,w.alloc (.cells C 46)=W0:=⟨_,rfl⟩;rw[hW0] at m0 l0 hmk0;clear hmk hW0;go_enter func20,ntmps20;go_wp2
 go_loopw [4] (fun i w'=>∃ (k:Nat) (P:Nat->Pl) (L:List Value),k<=ds.length/\i=Iv k/\Mk w.heap.size (w.heap.size+1) ds.length ds P k L w'/\Bq w w') (fun i _=>ds.length-(intOf i).toNat)
 case atStart=>exact ⟨0,_,_,Nat.zero_le _,rfl,m0,l0⟩
 case round=>
  obtain ⟨k,P,L,hk,rfl,hmk,hbel⟩:=hrel;clear m0 l0 hmk0
  by_cases hlt:k<ds.length
  ·have ls:=(hR.sub.below hbel) k hlt
   have hz:=tot_one hlt;obtain ⟨b,off,rfl,hlt0,hc⟩:=(hR.row.below hbel).get hlt;obtain ⟨y0,y1,y2,y3,y4,y5,y6,y7⟩:=hc k hlt
   have HS:Hid (∀ q W,Cp (w.heap.size+1) (dat ds k) q.g1 q.g2 q.g3 W->Mk w.heap.size (w.heap.size+1) ds.length ds P k L W->Mk w.heap.size (w.heap.size+1) ds.length ds (fun j=>if j=k then q else P j) (k+1) (put L (k*8) (dat ds k) (at3 (dat ds k) q.g1 q.g2 q.g3)) (setL W w.heap.size (k*8) (dat ds k) (at3 (dat ds k) q.g1 q.g2 q.g3))):=fun q W h1 h2=>h2.step hlt (Nat.lt_succ_self _) h1
   obtain ⟨d,ed⟩:∃ d,dat ds k=d:=⟨_,rfl⟩;obtain ⟨s,es⟩:∃ s,ss k=s:=⟨_,rfl⟩;rw[ed,es] at ls;rw[ed] at y0 y1 y2 y3 y4 y5 y6 y7 hz HS;rw[es] at y4 y6 y7;obtain ⟨z1,z2,z3,-,-⟩:=N12.sizes (d:=d) (by omega)
   have e1:(0:Int)<=(k:Int):=by omega
   have e2:(k:Int)<(ds.length:Int):=by omega
   have hB:=hbel.size;have hbs:=hmk.blk.lt;have hLl:=hmk.len;clear ed es hc hR hs
   go_wp2_with (go_at_call 49;refine (N4.toLoan d s _ z1 z2 z3 ls).mono ?_;rintro e w1 ⟨g1,g2,g3,rfl,cp,b1⟩;have mk1:=hmk.below b1;have m1:=mk1.blk;have cp1:=N12.cp_mono (b':=w.heap.size+1) cp hbs;obtain ⟨x0,q0⟩:∃ x,Ce w1 w.heap.size (k*8) x:=⟨_,m1.cell (k*8) (by omega)⟩;have f0:=m1.free (k*8) (by omega);obtain ⟨x1,q1⟩:∃ x,Ce w1 w.heap.size (k*8+1) x:=⟨_,m1.cell (k*8+1) (by omega)⟩;have f1:=m1.free (k*8+1) (by omega);obtain ⟨x2,q2⟩:∃ x,Ce w1 w.heap.size (k*8+2) x:=⟨_,m1.cell (k*8+2) (by omega)⟩;have f2:=m1.free (k*8+2) (by omega);obtain ⟨x3,q3⟩:∃ x,Ce w1 w.heap.size (k*8+3) x:=⟨_,m1.cell (k*8+3) (by omega)⟩;have f3:=m1.free (k*8+3) (by omega);obtain ⟨x4,q4⟩:∃ x,Ce w1 w.heap.size (k*8+4) x:=⟨_,m1.cell (k*8+4) (by omega)⟩;have f4:=m1.free (k*8+4) (by omega);obtain ⟨x5,q5⟩:∃ x,Ce w1 w.heap.size (k*8+5) x:=⟨_,m1.cell (k*8+5) (by omega)⟩;have f5:=m1.free (k*8+5) (by omega);obtain ⟨x6,q6⟩:∃ x,Ce w1 w.heap.size (k*8+6) x:=⟨_,m1.cell (k*8+6) (by omega)⟩;have f6:=m1.free (k*8+6) (by omega);obtain ⟨x7,q7⟩:∃ x,Ce w1 w.heap.size (k*8+7) x:=⟨_,m1.cell (k*8+7) (by omega)⟩;have f7:=m1.free (k*8+7) (by omega))
   go_roundw
   case rel=>exact ⟨k+1,_,_,by omega,by go_num,HS.out ⟨g1,g2,g3⟩ _ cp1 mk1,bel_setL (hbel.trans (b1.mono hB)) (Nat.le_refl _)⟩
   case measure=>simp[intOf];omega
  ·obtain rfl:k=ds.length:=by omega
   have hcp:Cps w.heap.size (w.heap.size+1) ds P wr:=⟨⟨L,hmk⟩,Nat.lt_succ_self _⟩;clear hR hmk;go_wp2;go_ret;exact ⟨_,rfl,hcp,hbel⟩
theorem eqLoanS (a1 a2:Option Addr) (c1 c2:Nat) (ds:List Ln) (s1 s2:Nat->Sl) (w:World) (hs:ds.length+tot ds ds.length<=1048576) (h1:Lns w a1 ds s1) (h2:Lns w a2 ds s2) :
  Calls prog 25 #[.slice a1 ds.length c1,.slice a2 ds.length c2] w (Rb (.bool true) w):=by
 have hn:ds.length<=1048576:=by omega
 go_enter func25,ntmps25;go_wp2
 go_loopw [5] (fun i w'=>∃ k:Nat,k<=ds.length/\i=Iv k/\Bq w w') (fun i _=>ds.length-(intOf i).toNat)
 case atStart=>exact ⟨0,Nat.zero_le _,rfl,Below.refl _ _⟩
 case round=>
  obtain ⟨k,hk,rfl,hbel⟩:=hrel
  by_cases hlt:k<ds.length
  ·have ls1:=(h1.sub.below hbel) k hlt
   have ls2:=(h2.sub.below hbel) k hlt;have hz:=tot_one hlt;obtain ⟨b1,o1,rfl,l1,r1⟩:=(h1.row.below hbel).get hlt;obtain ⟨b2,o2,rfl,l2,r2⟩:=(h2.row.below hbel).get hlt;have r1:=r1 k hlt;have r2:=r2 k hlt;obtain ⟨d,ed⟩:∃ d,dat ds k=d:=⟨_,rfl⟩;obtain ⟨s,es⟩:∃ s,s1 k=s:=⟨_,rfl⟩;obtain ⟨t,et⟩:∃ t,s2 k=t:=⟨_,rfl⟩;rw[ed,es] at ls1 r1;rw[ed,et] at ls2 r2;rw[ed] at hz;obtain ⟨z1,z2,z3,-,-⟩:=N12.sizes (d:=d) (by omega)
   have hp':d.pg.length<=281474976710656:=by omega
   have ho':d.po.length<=281474976710656:=by omega
   have hf':d.fr.length<=281474976710656:=by omega
   have e1:(0:Int)<=(k:Int):=by omega
   have e2:(k:Int)<(ds.length:Int):=by omega
   have hB:=hbel.size;have m1:Lists wr.drew d s:=ls1.drew;have m2:Lists wr.drew d t:=ls2.drew
   have HN:Hid (∀ W,Bq wr.drew W->(Ce W b1 (o1+k*8) (Iv d.ino)/\Ce W b1 (o1+k*8+1) (Iv d.cl)/\Ce W b1 (o1+k*8+2) (Iv d.un)/\Ce W b1 (o1+k*8+3) (.string d.rc)/\Ce W b1 (o1+k*8+4) (.slice s.a1 d.pg.length s.c1)/\Ce W b1 (o1+k*8+5) (.string d.sav)/\Ce W b1 (o1+k*8+6) (.slice s.a2 d.po.length s.c2)/\Ce W b1 (o1+k*8+7) (.slice s.a3 d.fr.length s.c3))/\(Ce W b2 (o2+k*8) (Iv d.ino)/\Ce W b2 (o2+k*8+1) (Iv d.cl)/\Ce W b2 (o2+k*8+2) (Iv d.un)/\Ce W b2 (o2+k*8+3) (.string d.rc)/\Ce W b2 (o2+k*8+4) (.slice t.a1 d.pg.length t.c1)/\Ce W b2 (o2+k*8+5) (.string d.sav)/\Ce W b2 (o2+k*8+6) (.slice t.a2 d.po.length t.c2)/\Ce W b2 (o2+k*8+7) (.slice t.a3 d.fr.length t.c3))):=fun W hb=>⟨r1.below (W:=wr.drew) l1 hb,r2.below (W:=wr.drew) l2 hb⟩
   have hS0:=HN.out wr.drew (Below.refl _ _);clear ed es et r1 r2 h1 h2 hs ls1 ls2 z1 z2 z3;go_wp2
   go_region_held3 (fun W=>(Ce W b1 (o1+k*8) (Iv d.ino)/\Ce W b1 (o1+k*8+1) (Iv d.cl)/\Ce W b1 (o1+k*8+2) (Iv d.un)/\Ce W b1 (o1+k*8+3) (.string d.rc)/\Ce W b1 (o1+k*8+4) (.slice s.a1 d.pg.length s.c1)/\Ce W b1 (o1+k*8+5) (.string d.sav)/\Ce W b1 (o1+k*8+6) (.slice s.a2 d.po.length s.c2)/\Ce W b1 (o1+k*8+7) (.slice s.a3 d.fr.length s.c3))/\(Ce W b2 (o2+k*8) (Iv d.ino)/\Ce W b2 (o2+k*8+1) (Iv d.cl)/\Ce W b2 (o2+k*8+2) (Iv d.un)/\Ce W b2 (o2+k*8+3) (.string d.rc)/\Ce W b2 (o2+k*8+4) (.slice t.a1 d.pg.length t.c1)/\Ce W b2 (o2+k*8+5) (.string d.sav)/\Ce W b2 (o2+k*8+6) (.slice t.a2 d.po.length t.c2)/\Ce W b2 (o2+k*8+7) (.slice t.a3 d.fr.length t.c3))) (assumption) ((go_at_call 55;refine (N3.eqLoan d s t _ hp' ho' hf' m1 m2).mono ?_;rintro e w4 ⟨rfl,b4⟩;have hS4:=HN.out w4 b4))
   all_goals
    go_wp2
    go_roundw
    case rel=>exact ⟨k+1,by omega,by go_num,hbel.trans ((show Bq wr w4 from ⟨b4.os,b4.tape,b4.output,b4.size,b4.block⟩).mono hB)⟩
    case measure=>simp[intOf];omega
  ·clear h1 h2
   go_wp2;go_ret;exact ⟨rfl,hbel⟩
end Z2
namespace Z3
open ChangeShapes WideShapes ChangeAt RowKit
open N0 (Ln)
open N1 (Sl Fit)
open Z0 (dat Row Lns Kp kval kvals FitK)
open Z1 (tot small tot_one)
open Z2 (Pl pls Cps Mk)
variable {g b n j B : Nat} {ds : List Ln} {P : Nat → Pl} {L : List Value} {w W W' : World} {k : Kp} {a : Option Addr} {c : Nat} {vs : List Value}
theorem cps_other (h:Cps g b ds P W) (hB:B<g) (j:Nat) (v:Value):Cps g b ds P (W.setCell ⟨B,j,none⟩ v):=by
 obtain ⟨⟨L,hL⟩,hlt⟩:=h;refine ⟨⟨L,hL.len,hL.blk.setOther (by omega) j v,hL.done,fun i hi=>?_⟩,hlt⟩;have hc:=hL.sub i hi;have n1:=hc.h1;have n2:=hc.h2;have n3:=hc.h3;exact ⟨n1,n2,n3,hc.k1.setOther (by omega) j v,hc.k2.setOther (by omega) j v,hc.k3.setOther (by omega) j v⟩
abbrev zero4:List Value:=[.string ⟨#[]⟩,.string ⟨#[]⟩,.slice none 0 0,.int .i64 0]
structure T (w:World) (k:Kp) (a:Option Addr) (c:Nat) (vs:List Value) (W:World):Prop where
 arg:K0.Blk w.heap.size (kvals k a c) W
 res:K0.Blk (w.heap.size+1) zero4 W
 tmp:K0.Blk (w.heap.size+2) vs W
 bel:Bq w W
theorem T.below (h:T w k a c vs W) (hb:Bq W W'):T w k a c vs W':=⟨h.arg.below hb,h.res.below hb,h.tmp.below hb,h.bel.trans (hb.mono h.bel.size)⟩
theorem T.set (h:T w k a c vs W) (j:Nat) (v:Value):T w k a c (vs.set j v) (W.setCell ⟨w.heap.size+2,j,none⟩ v):=
 ⟨h.arg.setOther (by omega) j v,h.res.setOther (by omega) j v,h.tmp.set j v,h.bel.setCell (p:=⟨w.heap.size+2,j,none⟩) (Nat.le_add_right _ _) v⟩
theorem t_new (w:World) (k:Kp) (a:Option Addr) (c:Nat) :
    T w k a c zero4 (((w.alloc (.cells #[.string k.mem,.string k.dur,.slice a k.ds.length c,Iv k.ck] 26)).alloc (.cells #[.string ⟨#[]⟩,.string ⟨#[]⟩,.slice none 0 0,Iv 0] 31)).alloc (.cells #[.string ⟨#[]⟩,.string ⟨#[]⟩,.slice none 0 0,Iv 0] 31)):=
  ⟨((K0.blk_new (kvals k a c) w 26).alloc _).alloc _,(K0.blk_at zero4 _ 31 (by simp)).alloc _,K0.blk_at zero4 _ 31 (by simp),
   (((Below.refl _ _).alloc (Nat.le_refl _) _).alloc (by simp) _).alloc (by simp;omega) _⟩
theorem toLoanS' (a:Option Addr) (c:Nat) (ds:List Ln) (ss:Nat->Sl) (w:World) (hs:ds.length+tot ds ds.length<=1048576) (hR:Lns w a ds ss) :
  Calls prog 20 #[.slice a ds.length c] w fun e w'=>∃ g P,e=.returned (Sv g ds.length ds.length)/\w.heap.size<=g/\Cps g (g+1) ds P w'/\Bq w w':=
 (Z2.toLoanS a c ds ss w hs hR).mono fun _ _ ⟨P,he,hc,hb⟩=>⟨_,P,he,Nat.le_refl _,hc,hb⟩
theorem toKeeper (k:Kp) (a:Option Addr) (c:Nat) (ss:Nat->Sl) (w:World) (hs:k.ds.length+tot k.ds k.ds.length<=1048576) (hR:Lns w a k.ds ss) :
  Calls prog 6 #[kval k a c] w fun e w'=>∃ g P,e=.returned (kval k (some ⟨g,0,none⟩) k.ds.length)/\w.heap.size<=g/\Cps g (g+1) k.ds P w'/\Bq w w':=by
 have t0:=t_new w k a c
 have HL:Hid (∀ W,Bq w W->Lns W a k.ds ss):=fun W hb=>hR.below hb
 clear hR;go_enter func6,ntmps6
 go_wp2_with (first
  | (go_at_call 19;refine (D1.toDev _ _ _).mono ?_;rintro e w1 ⟨rfl,b1⟩;have t1:=t0.below b1;have c2:=t1.arg.c2;have x0:=t1.tmp.c0;have x1:=t1.tmp.c1;have y0:=t1.tmp.f0;have y1:=t1.tmp.f1;have u1:=(t1.set 0 (.string k.mem)).set 1 (.string k.dur);have r1:=HL.out _ u1.bel)
  | (go_at_call 20;refine (toLoanS' a c k.ds ss _ hs r1).mono ?_;rintro e w2 ⟨g,P,rfl,hg,cp,b2⟩;have t2:=u1.below b2;have c3:=t2.arg.c3;have z0:=t2.tmp.cell 0 (by simp);have z1:=t2.tmp.cell 1 (by simp);have z2:=t2.tmp.cell 2 (by simp);have z3:=t2.tmp.cell 3 (by simp);have y2:=t2.tmp.free 2 (by simp);have y3:=t2.tmp.free 3 (by simp);simp only[List.set_cons_zero,List.set_cons_succ,List.getElem_cons_zero,List.getElem_cons_succ] at z0 z1 z2 z3;have i0:=t2.res.c0;have i1:=t2.res.c1;have i2:=t2.res.c2;have i3:=t2.res.c3;have j0:=t2.res.f0;have j1:=t2.res.f1;have j2:=t2.res.f2;have j3:=t2.res.f3))
 have hg':w.heap.size+3<=g:=by
  have:=u1.tmp.lt;simp at hg this;omega
 have u2:=(t2.set 2 (Sv g k.ds.length k.ds.length)).set 3 (Iv k.ck);have q:=u2.res.put4 (.string k.mem) (.string k.dur) (Sv g k.ds.length k.ds.length) (Iv k.ck);have v0:=q.c0;have v1:=q.c1;have v2:=q.c2;have v3:=q.c3;refine bodyPost_ret (v:=kval k (some ⟨g,0,none⟩) k.ds.length) (by simp[results,results6,go_sem,v0,v1,v2,v3]) rfl ⟨g,P,rfl,by omega,?_,?_⟩
 ·exact cps_other (cps_other (cps_other (cps_other (cps_other (cps_other cp (by omega) _ _) (by omega) _ _) (by omega) _ _) (by omega) _ _) (by omega) _ _) (by omega) _ _
 ·exact (((u2.bel.setCell (p:=⟨w.heap.size+1,0,none⟩) (Nat.le_succ _) _).setCell (p:=⟨w.heap.size+1,1,none⟩) (Nat.le_succ _) _).setCell (p:=⟨w.heap.size+1,2,none⟩) (Nat.le_succ _) _).setCell (p:=⟨w.heap.size+1,3,none⟩) (Nat.le_succ _) _
structure E (w:World) (k:Kp) (a1 a2:Option Addr) (c1 c2:Nat) (W:World):Prop where
 x:K0.Blk w.heap.size (kvals k a1 c1) W
 y:K0.Blk (w.heap.size+1) (kvals k a2 c2) W
 bel:Bq w W
theorem E.below {a1 a2:Option Addr} {c1 c2:Nat} (h:E w k a1 a2 c1 c2 W) (hb:Bq W W'):E w k a1 a2 c1 c2 W':=⟨h.x.below hb,h.y.below hb,h.bel.trans (hb.mono h.bel.size)⟩
theorem eqKeeper (k:Kp) (a1 a2:Option Addr) (c1 c2:Nat) (s1 s2:Nat->Sl) (w:World) (hs:k.ds.length+tot k.ds k.ds.length<=1048576) (h1:Lns w a1 k.ds s1) (h2:Lns w a2 k.ds s2) :
  Calls prog 8 #[kval k a1 c1,kval k a2 c2] w (Rb (.bool true) w):=by
 have e0:E w k a1 a2 c1 c2 ((w.alloc (.cells #[.string k.mem,.string k.dur,.slice a1 k.ds.length c1,Iv k.ck] 31)).alloc (.cells #[.string k.mem,.string k.dur,.slice a2 k.ds.length c2,Iv k.ck] 31)):=
  ⟨(K0.blk_new (kvals k a1 c1) w 31).alloc _,K0.blk_at (kvals k a2 c2) _ 31 (by simp),((Below.refl _ _).alloc (Nat.le_refl _) _).alloc (by simp) _⟩
 have HE:Hid (∀ W,Bq w W->_):=fun W hb=>Z2.eqLoanS a1 a2 c1 c2 k.ds s1 s2 W hs (h1.below hb) (h2.below hb)
 clear h1 h2;go_enter func8,ntmps8
 go_wp2_with (first
  | (go_at_call 24;refine (D1.eqDev _ _ _).mono ?_;rintro e w1 ⟨rfl,b1⟩;have t1:=e0.below b1;have x2:=t1.x.c2;have y2:=t1.y.c2)
  | (go_at_call 25;refine (HE.out _ t1.bel).mono ?_;rintro e w2 ⟨rfl,b2⟩;have t2:=t1.below b2;have x3:=t2.x.c3;have y3:=t2.y.c3))
 go_ret;exact ⟨rfl,t2.bel⟩
structure A (w:World) (k:Kp) (a:Option Addr) (c:Nat) (ss:Nat->Sl) (W:World):Prop where
 b:K0.Blk w.heap.size (kvals k a c) W
 l:Lns W a k.ds ss
 bel:Bq w W
variable {ss : Nat → Sl}
theorem A.below (h:A w k a c ss W) (hb:Bq W W'):A w k a c ss W':=⟨h.b.below hb,h.l.below hb,h.bel.trans (hb.mono h.bel.size)⟩
theorem A.drew (h:A w k a c ss W):A w k a c ss W.drew:=h.below ((Below.refl _ _).drew)
theorem a_new (w:World) (k:Kp) (a:Option Addr) (c:Nat) (ss:Nat->Sl) (h:Lns w a k.ds ss):A w k a c ss (w.alloc (.cells #[.string k.mem,.string k.dur,.slice a k.ds.length c,Iv k.ck] 26)):=
 ⟨K0.blk_new (kvals k a c) w 26,h.below (K0.below_new _ _),K0.below_new _ _⟩
structure U (w:World) (k:Kp) (a:Option Addr) (c:Nat) (ss:Nat->Sl) (g B:Nat) (P:Nat->Pl) (W:World):Prop where
 t:A w k a c ss W
 n:K0.Blk B (kvals k (some ⟨g,0,none⟩) k.ds.length) W
 cp:Cps g (g+1) k.ds P W
theorem U.below (h:U w k a c ss g B P W) (hb:Bq W W'):U w k a c ss g B P W':=⟨h.t.below hb,h.n.below hb,h.cp.below hb⟩
theorem U.drew (h:U w k a c ss g B P W):U w k a c ss g B P W.drew:=h.below ((Below.refl _ _).drew)
end Z3
namespace TW
open ChangeShapes WideShapes ChangeAt RowKit
open Go.Sort (Holds putRow grow)
variable {B : Nat} {N : Nat → Nd} {F : Nat → Nat} {P : Nat → ByteArray} {w W W' : World} {E : Nat → List T0.Ent}
open J0 (IBuf Own)
open I2 (ints)
theorem holds_of {g:Nat} {zs:List Int} (h:K0.Blk g (ints zs) W):Holds (Value.int .i64) W g 0 zs.toArray:=by
 intro j hj
 have hj':j<zs.length:=by simpa using hj
 have h1:=h.cell j (by simpa using hj');have h2:=h.free j (by simpa using hj');refine ⟨?_,by simpa using h2⟩;rw[Nat.zero_add,h1];simp[hj']
theorem blk_of {g:Nat} {zs:List Int} (hg:g<W.heap.size) (h:Holds (Value.int .i64) W g 0 zs.toArray):K0.Blk g (ints zs) W:=by
 refine ⟨fun j hj=>?_,fun j hj=>?_,hg⟩
 ·have hj':j<zs.length:=by simpa using hj
  have:=(h j (by simpa using hj')).1;rw[Nat.zero_add] at this;rw[this];simp[hj']
 ·have hj':j<zs.length:=by simpa using hj
  have:=(h j (by simpa using hj')).2
  rwa [Nat.zero_add] at this
theorem sorted_blk {g n:Nat} {zs ys:List Int} {os:Array Obj} (h:K0.Blk g (ints zs) W) (hl:ys.length=zs.length):K0.Blk g (ints ys) (grow (putRow (Value.int .i64) (Sort.ahead W n) g 0 ys.toArray) os):=by
 have h0:Holds (Value.int .i64) (Sort.ahead W n) g 0 zs.toArray:=Go.Sort.holds_ahead _ _ _ _ _ _ (holds_of h)
 have hlt:g<(putRow (Value.int .i64) (Sort.ahead W n) g 0 ys.toArray).heap.size:=by rw[Go.Sort.size_putRow];exact h.lt
 refine blk_of (by rw[Go.Sort.size_grow];omega) (Go.Sort.holds_grow _ _ _ _ _ _ hlt (Go.Sort.holds_putRow _ _ _ _ _ _ h0 (by simpa using hl)))
theorem sorted_below {g n base:Nat} {ys:List Int} {os:Array Obj} (hb:base<=g) (hg:base<=W.heap.size):Below base W (grow (putRow (Value.int .i64) (Sort.ahead W n) g 0 ys.toArray) os):=by
 refine ⟨rfl,rfl,rfl,?_,fun k hk=>?_⟩
 ·rw[Go.Sort.size_grow,Go.Sort.size_putRow]
  exact Nat.le_add_right _ _
 ·rw[Go.Sort.heap_grow_old _ _ (by rw[Go.Sort.size_putRow];exact Nat.lt_of_lt_of_le hk hg)]
  show (W.heap.modify g _)[k]? = W.heap[k]?
  rw[Array.getElem?_modify];rw[if_neg (by omega)]
def srt (zs:List Int):List Int:=zs.mergeSort fun x y=>decide (x<=y)
theorem srt_perm (zs:List Int):(srt zs).Perm zs:=List.mergeSort_perm zs _
theorem srt_length (zs:List Int):(srt zs).length=zs.length:=(srt_perm zs).length_eq
theorem srt_sorted (zs:List Int):(srt zs).Pairwise (·<=·):=by
 have:=List.pairwise_mergeSort (le:=fun x y:Int=>decide (x<=y)) (fun a b c h1 h2=>by simp only[decide_eq_true_eq] at h1 h2 ⊢;omega) (fun a b=>by simp only[Bool.or_eq_true,decide_eq_true_eq];omega) zs
 exact this.imp fun h=>by simpa using h
def cat (Z:Nat->List Int):Nat->List Int
 | 0=>[]
 | i+1=>cat Z i++Z i
theorem cat_len {Z:Nat->List Int} (h:∀ i,(Z i).length<=12):∀ i,(cat Z i).length<=12*i
 | 0=>Nat.le_refl _
 | i+1=>by
  have:=cat_len h i;have:=h i;rw[cat,List.length_append];omega
def nds (N:Nat->Nd):Nat->List Value
 | 0=>[]
 | i+1=>nds N i++(N i).vals
theorem nds_length (N:Nat->Nd):∀ i,(nds N i).length=i*6
 | 0=>rfl
 | i+1=>by rw[nds,List.length_append,nds_length N i,Nd.vals_length];omega
theorem nds_get (N:Nat->Nd):∀ n i,i<n->((nds N n).drop (i*6)).take 6=(N i).vals
 | 0,i,h=>by omega
 | n+1,i,h=>by
  rw[nds]
  by_cases e:i=n
  ·subst e
   rw[List.drop_append_of_le_length (by rw[nds_length];exact Nat.le_refl _),List.drop_eq_nil_of_le (by rw[nds_length];exact Nat.le_refl _),List.nil_append];exact List.take_of_length_le (Nat.le_of_eq (Nd.vals_length _))
  ·have hl:=nds_length N n
   rw[List.drop_append_of_le_length (by omega),List.take_append_of_le_length (by rw[List.length_drop];omega)];exact nds_get N n i (by omega)
theorem nds_at (N:Nat->Nd) (i j:Nat) (hi:i<8) (hj:j<6):(nds N 8)[i*6+j]? = (N i).vals[j]?:=by
 have:=congrArg (fun l:List Value=>l[j]?) (nds_get N 8 i hi);rw[List.getElem?_take,if_pos hj,List.getElem?_drop] at this;exact this
theorem Tb.range (h:Tb B N F P W):W.rangeAt B 0 (nds N 8):=by
 intro j v hv
 have hj:j<48:=by
  have:=(List.getElem?_eq_some_iff.1 hv).1;rw[nds_length] at this;exact this
 have e:j=j / 6*6+j % 6:=by omega
 rw[e,nds_at N (j / 6) (j % 6) (by omega) (by omega)] at hv;rw[Nat.zero_add,e];obtain ⟨h1,h2⟩:=List.getElem?_eq_some_iff.1 hv;rw[h.node (j / 6) (by omega) (j % 6) h1,h2]
theorem infoNodes:(prog.info? 216).map (·.size)=some 48:=by kernel_rfl
theorem infoNode:(prog.info? 215).map (·.size)=some 6:=by kernel_rfl
theorem run_node (N:Nat->Nd) (i:Nat) (hi:i<8) (W:World):(Instr.index 216 (.agg (nds N 8).toArray) (Iv (i:Int))).run prog W=.ok (.agg #[Iv (N i).k,Iv (N i).o,Iv (N i).s,.slice (N i).a (N i).n (N i).c,.string (N i).x,.slice (N i).ae (N i).ne (N i).ce]) W:=by
 have e1:(0:Int)<=(i:Int):=by omega
 have e2:(i:Int)<8:=by omega
 obtain ⟨q,hq,hs⟩:∃ q,prog.info? 215=some q/\q.size=6:=by
  have:=infoNode
  cases h:prog.info? 215 with
  | none=>rw[h] at this;simp at this
  | some q=>rw[h] at this;exact ⟨q,rfl,by simpa using this⟩
 have hg:=nds_get N 8 i hi;simp[Instr.index,asIntOf,run_underlying underlying216,e1,e2,sizeOf,typeInfo,hq,hs,part];rw[if_pos hi,hg];rfl
theorem compact_len (zs:List Int):(Lib.compact zs).length=zs.length ↔ ∀ j,j<zs.length->Lib.keeps zs.toArray j=true:=by
 unfold Lib.compact Lib.compactUpTo;rw[List.length_map];constructor
 ·intro h j hj
  have:=List.length_filter_eq_length_iff.1 (h.trans (List.length_range (n:=zs.length)).symm) j (List.mem_range.2 hj);exact this
 ·intro h
  rw[List.filter_eq_self.2 fun j hj=>h j (List.mem_range.1 hj),List.length_range]
theorem keeps_iff (zs:List Int) (j:Nat) (hj:j<zs.length):Lib.keeps zs.toArray j=true ↔ (j=0\/zs[j]≠zs[j-1]'(by omega)):=by
 have e1:zs.toArray[j]! = zs[j]:=by simp[hj]
 have e2:zs.toArray[j-1]! = zs[j-1]'(by omega):=by
  have:j-1<zs.length:=by omega
  simp[this]
 unfold Lib.keeps;rw[e1,e2];simp
theorem apart_iff (zs:List Int):(Lib.compact (srt zs)).length=zs.length ↔ zs.Nodup:=by
 rw[<- srt_length zs,compact_len,<- (srt_perm zs).nodup_iff];have hs:=List.pairwise_iff_getElem.1 (srt_sorted zs);constructor
 ·intro h
  refine List.pairwise_iff_getElem.2 fun i j hi hj hij=>?_
  have hk:=(keeps_iff (srt zs) j hj).1 (h j hj)
  rcases hk with hk | hk
  ·omega
  ·have h1:(srt zs)[j-1]'(by omega)<=(srt zs)[j]:=hs (j-1) j (by omega) hj (by omega)
   have h2:(srt zs)[i]<=(srt zs)[j-1]'(by omega):=by
    by_cases e:i=j-1
    ·subst e
     exact Int.le_refl _
    ·exact hs i (j-1) hi (by omega) (by omega)
   omega
 ·intro h j hj
  refine (keeps_iff (srt zs) j hj).2 ?_
  by_cases h0:j=0
  ·exact Or.inl h0
  ·right
   have:=List.pairwise_iff_getElem.1 h (j-1) j (by omega) hj (by omega)
   exact fun e=>this e.symm
theorem append_rows3 {ops:Array Oper} {rest:List Oper} {o:Oper} {A:Act} {Q:Exit->Act->World->Prop} {base g n cap:Nat} {zs:List Int} (hgd:o.guard=none) (sl x:Operand)
  (ho:o.op=.call { callee:=.builtin .append,args:=#[sl,x],argTypes:=#[32,32] })
  (hbuf:IBuf base w (some ⟨g,0,none⟩) n cap zs) (ax:Option Addr) (cx:Nat) (xs:List Int) (hs:A.eval sl=Sv g n cap) (hx:A.eval x=.slice ax xs.length cx) (hR:P0.Row w ax xs) (hlen:n+xs.length<=4194304) (hb:base<=w.heap.size)
  (h:∀ g' cap' w',IBuf base w' (some ⟨g',0,none⟩) (n+xs.length) cap' (zs++xs)->Below base w w'->wpList prog ops Q rest (A.put o.dst (Sv g' (n+xs.length) cap')) w'):wpList prog ops Q (o :: rest) A w:=by
 obtain ⟨i0,hi,hz0,hz1,hz2⟩:=info_parts I2.info3
 by_cases h0:xs=[]
 ·subst h0
  refine Lib.wpList_append_run _ hgd sl x 32 32 ho _ _ hs hx _ _ (Q1.run_append_none w 32 _ 3 i0 underlying32 hi _ n cap hbuf.fits ax cx) ?_;exact h g cap w (by rw[List.append_nil];exact hbuf) (Below.refl _ _)
 ·rcases hR with hR | ⟨b,off,rfl,hb2,hc⟩
  ·exact absurd hR h0
  ·have hm:0<xs.length:=List.length_pos_iff.2 h0
   refine wpList_append_lies _ hgd sl x 32 ho base 3 i0 (Iv 0) 1 8 underlying32 hi hz0 hz1 hz2 rfl (by omega) _ n _ hs hbuf.2 ⟨b,off,none⟩ xs.length cx (ints xs) hx (by simp) ?_ (Q1.ints_one xs) hm (by unfold maxLen;omega) (by omega) hb _ rfl ?_
   ·intro j u hj
    have hj':j<xs.length:=by
     have:=(List.getElem?_eq_some_iff.1 hj).1
     simpa using this
    rw[B0.add_off,hc j hj',P0.getD_get _ _ hj',<- hj];simp[hj']
   ·intro g' cap' w' ho' hg' _ _
    refine h g' cap' w' ⟨by rw[hbuf.1];simp,?_⟩ ?_
    ·rw[show ints (zs++xs)=ints zs++ints xs by simp]
     exact ho'
    ·exact F0.below_grown (Below.refl _ _) hg' (J0.own_block hbuf) hb
end TW
namespace TW
open ChangeShapes WideShapes ChangeAt RowKit
open Go.Sort (Holds putRow grow)
variable {B : Nat} {N : Nat → Nd} {F : Nat → Nat} {P : Nat → ByteArray} {w W W' : World} {Z : Nat → List Int}
open J0 (IBuf Own)
open I2 (ints)
structure Ps (N:Nat->Nd) (Z:Nat->List Int) (W:World):Prop where
 n:∀ i,i<8->(N i).n=(Z i).length
 row:∀ i,i<8->P0.Row W (N i).a (Z i)
 few:∀ i,(Z i).length<=12
theorem Ps.below (h:Ps N Z W) (hb:Bq W W'):Ps N Z W':=⟨h.n,fun i hi=>(h.row i hi).below hb,h.few⟩
theorem pages (w:World) (hT:Tb B N F P w) (hZ:Ps N Z w) :
  Calls prog 138 #[Pv B 0] w fun e w'=>∃ g c,e=.returned (Sv g (cat Z 8).length c)/\(cat Z 8).length<=c/\w.heap.size<=g/\K0.Blk g (ints (srt (cat Z 8))) w'/\Bq w w':=by
 have hr:=World.rangeAt_alloc hT.range (.cells #[] 3);have hn48:(nds N 8).length=48:=nds_length N 8
 have hix:=fun i hi W=>run_node N i hi W
 obtain ⟨C,hC⟩:∃ C,(nds N 8).toArray=C:=⟨_,rfl⟩;have HC:Hid ((nds N 8).toArray=C):=hC;rw[hC] at hix;have HX:Hid (∀ i:Nat,i<8->∀ W,(Instr.index 216 (.agg C) (Iv (i:Int))).run prog W=.ok (.agg #[Iv (N i).k,Iv (N i).o,Iv (N i).s,.slice (N i).a (N i).n (N i).c,.string (N i).x,.slice (N i).ae (N i).ne (N i).ce]) W):=hix;have b0:=J0.ibuf_made (base:=w.heap.size) w (Nat.le_refl _);have l0:=K0.below_new w (.cells #[] 3);have hlen:=cat_len hZ.few;clear hC hix;go_enter func138,ntmps138
 go_wp2_with (refine wpList_load_mid rfl 216 (.tmp 9) rfl B 0 rfl _ _ hr underlying216 rfl (by rw[infoNodes,hn48]) ?_;rw[HC.out])
 clear hr
 go_loopw [3,11] (fun v i w'=>∃ (k n c g:Nat),k<=8/\i=Iv k/\v=Sv g n c/\IBuf w.heap.size w' (some ⟨g,0,none⟩) n c (cat Z k)/\Bq w w') (fun _ i _=>8-(intOf i).toNat)
 case atStart=>exact ⟨0,0,0,_,Nat.zero_le _,rfl,rfl,b0,l0⟩
 case round=>
  obtain ⟨k,n,c,g,hk,rfl,rfl,hbuf,hbel⟩:=hrel;clear b0 l0
  by_cases hlt:k<8
  ·have hx:=HX.out k hlt
   have hpn:=hZ.n k hlt;have hrow:=(hZ.row k hlt).below (hbel)
   have e1:(0:Int)<=(k:Int):=by omega
   have e2:(k:Int)<8:=by omega
   have hnl:n<=96:=by
    have:=hlen k;rw[hbuf.1];omega
   have hfew:=hZ.few k;have HS:Hid (cat Z k++Z k=cat Z (k+1)):=rfl;obtain ⟨zk,hzk⟩:∃ zk,Z k=zk:=⟨_,rfl⟩;rw[hzk] at hpn hrow hfew HS;obtain ⟨d,hd⟩:∃ d,N k=d:=⟨_,rfl⟩;rw[hd] at hx hpn hrow;rw[hpn] at hx;clear hzk hd hpn;have nb:=K0.blk_new d.vals wr 215;have nl:=K0.below_new wr (.cells #[Iv d.k,Iv d.o,Iv d.s,.slice d.a zk.length d.c,.string d.x,.slice d.ae d.ne d.ce] 215);have hbuf1:=hbuf.below nl;have hrow1:=hrow.below nl;have hbel1:=hbel.trans (nl.mono hbel.size);have c3:(wr.alloc (.cells #[Iv d.k,Iv d.o,Iv d.s,.slice d.a zk.length d.c,.string d.x,.slice d.ae d.ne d.ce] 215)).cell? ⟨wr.heap.size,3,none⟩=some (.slice d.a zk.length d.c):=(K0.blk_new [Iv d.k,Iv d.o,Iv d.s,.slice d.a zk.length d.c,.string d.x,.slice d.ae d.ne d.ce] wr 215).cell 3 (by simp)
   go_wp2_with (at_builtin;refine append_rows3 rfl (.tmp 14) (.tmp 17) rfl hbuf1 _ _ zk (by rfl) (by rfl) hrow1 (by omega) hbel1.size ?_;intro g2 c2 w2 bf2 bl2)
   go_roundw
   case rel=>exact ⟨k+1,n+zk.length,c2,g2,by omega,by go_num,rfl,by rw[<- HS.out];exact bf2,hbel1.trans bl2⟩
   case measure=>simp[intOf];omega
  ·obtain rfl:k=8:=by omega
   have hn:n=(cat Z 8).length:=hbuf.1;have hc8:=hlen 8;subst hn;have hlt':=hbuf.2.lt g rfl
   have hH:K0.Blk g (ints (cat Z 8)) wr:=by
    rcases hbuf.own with h0 | ⟨g',e,_,hk'⟩
    ·rw[h0]
     exact ⟨fun j hj=>by simp at hj,fun j hj=>by simp at hj,hlt'.2⟩
    ·cases e
     exact hk'
   have hsort:=Tryz.slices_Sort_int g 0 c (cat Z 8) wr (holds_of hH) hlt'.2 (by omega);have HB:Hid (K0.Blk g (ints (cat Z 8)) wr/\IBuf w.heap.size wr (some ⟨g,0,none⟩) (cat Z 8).length c (cat Z 8)):=⟨hH,hbuf⟩;clear hbuf hH hZ hT HX HC
   go_wp2_with (go_at_call 142;refine hsort.mono ?_;rintro e w7 ⟨rfl,m7,os7,hw7⟩)
   go_ret;subst hw7;exact ⟨g,c,rfl,HB.out.2.fits,hlt'.1,sorted_blk HB.out.1 (srt_length _),hbel.trans (sorted_below hlt'.1 hbel.size)⟩
end TW
namespace F4
open ChangeShapes WideShapes ChangeAt RowKit
open I0 (val vals)
structure Fm (w:World) (o:Int) (W:World):Prop where
 blk:K0.Blk w.heap.size (vals 2 o 0 none 0 0) W
 bel:Bq w W
theorem Fm.below {w W W':World} {o:Int} (h:Fm w o W) (hb:Bq W W'):Fm w o W':=⟨h.blk.below hb,h.bel.trans (hb.mono h.bel.size)⟩
theorem Fm.drewN {w W:World} {o:Int} (h:Fm w o W) (n:Nat):Fm w o (W.drewN n):=⟨h.blk.drewN n,K0.below_drewN h.bel n⟩
section
variable {w W : World} {o : Int}
end
end F4
namespace TR
open T0 (Ent)
variable {E : Nat → List Ent} {K : Nat → Int} {F : Nat → Nat} {P : Nat → ByteArray} {d k x : Nat}
def At2 (E:Nat->List Ent):Nat->Nat->ByteArray->Prop
 | x,0,p=>x=0/\p=⟨#[]⟩
 | x,k+1,p=>∃ d q nm,At2 E d k q/\((x:Int),nm) ∈ E d/\p=q++(⟨#[47]⟩++nm)
theorem At2.zero {E:Nat->List Ent}:At2 E 0 0 ⟨#[]⟩:=⟨rfl,rfl⟩
theorem At2.down {E:Nat->List Ent} {d k:Nat} {q:ByteArray} {x:Nat} {nm:ByteArray} (h:At2 E d k q) (hm:((x:Int),nm) ∈ E d):At2 E x (k+1) (q++(⟨#[47]⟩++nm)):=⟨d,q,nm,h,hm,rfl⟩
theorem At2.or {E:Nat->List Ent} {x:Nat} {p:ByteArray}:∀ {k:Nat},At2 E x k p->(x=0/\k=0/\p=⟨#[]⟩)\/∃ d k' q nm,k=k'+1/\At2 E d k' q/\((x:Int),nm) ∈ E d/\p=q++(⟨#[47]⟩++nm)
 | 0,h=>Or.inl ⟨h.1,rfl,h.2⟩
 | k+1,⟨d,q,nm,h,hm,e⟩=>Or.inr ⟨d,k,q,nm,rfl,h,hm,e⟩
theorem At2.ind {E:Nat->List Ent} {motive:(x k:Nat)->(p:ByteArray)->At2 E x k p->Prop} (zero:motive 0 0 ⟨#[]⟩ At2.zero) (down:∀ {d k:Nat} {q:ByteArray} {x:Nat} {nm:ByteArray} (hd:At2 E d k q) (hm:((x:Int),nm) ∈ E d),motive d k q hd->motive x (k+1) (q++(⟨#[47]⟩++nm)) (At2.down hd hm)):∀ {x k:Nat} {p:ByteArray} (h:At2 E x k p),motive x k p h
 | x,0,p,h=>by
  obtain ⟨rfl,rfl⟩:=h;exact zero
 | x,k+1,p,h=>by
  obtain ⟨d,q,nm,hd,hm,rfl⟩:=h;exact down hd hm (At2.ind zero down hd)
def full (q:ByteArray):ByteArray:=if q.size=0 then ⟨#[47]⟩ else q
theorem app_nil (a:ByteArray):a ++ ⟨#[]⟩=a:=by
 apply ByteArray.ext
 simp[ByteArray.data_append]
theorem nil_app (a:ByteArray):(⟨#[]⟩:ByteArray)++a=a:=by
 apply ByteArray.ext
 simp[ByteArray.data_append]
theorem app_assoc (a b c:ByteArray):(a++b)++c=a++(b++c):=by
 apply ByteArray.ext
 simp[ByteArray.data_append]
theorem at_two (hS:Sane E K) {p:ByteArray} (h:At E x k p):∃ q,At2 E x k q/\p=full q/\(0<x->0<q.size)/\(x=0->q=⟨#[]⟩):=by
 induction h using At.ind with
 | zero=>exact ⟨⟨#[]⟩,At2.zero,rfl,fun h=>absurd h (by decide),fun _=>rfl⟩
 | @down d k p x nm hd hm ih=>
  obtain ⟨q,hq,hp,h1,h2⟩:=ih;have hx:=(hS.ino _ _ hm).1
  have hne:0<(q++((⟨#[47]⟩:ByteArray)++nm)).size:=by
   rw[ByteArray.size_append,ByteArray.size_append];have:(⟨#[47]⟩:ByteArray).size=1:=rfl;omega
  refine ⟨_,At2.down hq hm,?_,fun _=>hne,fun e=>?_⟩
  ·rw[full,if_neg (by omega)]
   by_cases h0:d=0
   ·rw[h2 h0] at hp ⊢
    rw[hp,sep,if_pos h0,app_nil,nil_app];rfl
   ·have:=h1 (by omega)
    rw[full,if_neg (by omega)] at hp;rw[hp,sep,if_neg h0,app_assoc]
  ·simp only at hx
   omega
theorem At2.size (hs:∀ i e,e ∈ E i->e.2.size<=14) {q:ByteArray} (h:At2 E x k q):q.size<=15*k:=by
 induction h using At2.ind with
 | zero=>decide
 | @down d k q x nm _ hm ih=>
  have:=hs _ _ hm;rw[ByteArray.size_append,ByteArray.size_append];have h1:(⟨#[47]⟩:ByteArray).size=1:=rfl;simp only at this;omega
theorem only (ht:treeOk E K=true) (hS:Sane E K) {e:Ent} (hd:d<8) (he:e ∈ E d):own (flat E 8) e.1=[(d,e)]:=by
 have hi:=hS.ino _ _ he;obtain ⟨x,hx⟩:∃ x:Nat,e.1=(x:Int):=⟨e.1.toNat,by omega⟩;have m1:(d,e) ∈ own (flat E 8) e.1:=List.mem_filter.2 ⟨mem_flat he hd,by simp⟩;have hone:=treeOk_iff.1 ht x (by omega) (by omega);rw[hx] at m1 ⊢;unfold oneOk at hone;simp only[Bool.and_eq_true,beq_iff_eq,Bool.or_eq_true] at hone
 rcases par_ge (flat E 8) x with hp | hp | ⟨p,hp,_⟩
 ·rw[(par_nil _ _).1 hp] at m1
  simp at m1
 ·rcases hone.2 with hk | hr
  ·rw[hk,hp] at hone
   simp at hone
  ·rw[root_pos _ _ _ (by omega),hp,root_neg _ _ _ (by decide)] at hr
   cases hr
 ·rw[hp] at m1 ⊢
  simp only[List.mem_singleton] at m1;rw[m1]
theorem par_of (ht:treeOk E K=true) (hS:Sane E K) {e:Ent} (hd:d<8) (he:e ∈ E d):par (flat E 8) e.1=d/\nam (flat E 8) e.1=e.2:=by
 have h:=only ht hS hd he;unfold par nam;rw[h];exact ⟨rfl,rfl⟩
theorem found_at (h:Inv E K [] F P) (hS:Sane E K) (hK0:K 0=2) (ht:treeOk E K=true) (hx:x<8) (hk:K x≠0):∃ k,k<=8/\At E x k (P x):=by
 by_cases h0:x=0
 ·subst h0
  rw[h.zero];exact ⟨0,by decide,At.zero⟩
 ·have hd:=h.done hS hK0
  rw[ht] at hd;have:=onceAll_iff.1 hd x (by omega) hx;simp only[once,decide_eq_true_eq] at this;rw[if_neg hk] at this;exact h.at_ x (by omega)
end TR
namespace HP
abbrev Rg:=Int × Int
def at_ (l:List Rg) (i:Nat):Rg:=l.getD i (0,0)
def key (l:List Rg) (i:Nat):Int:=(at_ l i).1
theorem at_get (l:List Rg) (i:Nat) (h:i<l.length):at_ l i=l[i]:=by simp[at_,List.getD,h]
def HeapN (l:List Rg) (n:Nat):Prop:=∀ i,0<i->i<n->key l ((i-1) / 2)<=key l i
theorem heap_min {l:List Rg} {n:Nat} (h:HeapN l n):∀ i,i<n->key l 0<=key l i:=by
 intro i
 induction i using Nat.strongRecOn with
 | _ i ih=>
  intro hi
  by_cases h0:i=0
  ·rw[h0]
   exact Int.le_refl _
  ·have h1:=h i (by omega) hi
   have h2:=ih ((i-1) / 2) (by omega) (by omega);omega
def cov (l:List Rg) (k:Int):Bool:=l.any fun r=>decide (r.1<=k/\k<r.1+r.2)
theorem cov_iff {l:List Rg} {k:Int}:cov l k=true ↔ ∃ r ∈ l,r.1<=k/\k<r.1+r.2:=by
 unfold cov;rw[List.any_eq_true];constructor
 ·rintro ⟨r,hr,h⟩
  exact ⟨r,hr,by simpa using h⟩
 ·rintro ⟨r,hr,h⟩
  exact ⟨r,hr,by simpa using h⟩
structure Go (all done rest:List Rg) (i0 i:Int):Prop where
 perm:(done++rest).Perm all
 heap:HeapN rest rest.length
 low:∀ d ∈ done,∀ r ∈ rest,d.1<=r.1
 not:∀ d ∈ done,¬ (d.1<=i/\i<d.1+d.2)
 yes:∀ k,i0<=k->k<i->cov all k=true
 le:i0<=i
theorem key_mem {l:List Rg} {r:Rg} (h:r ∈ l):∃ i,i<l.length/\key l i=r.1:=by
 obtain ⟨i,hi,e⟩:=List.mem_iff_getElem.1 h;exact ⟨i,hi,by rw[key,at_get l i hi,e]⟩
theorem Go.pop {all done rest:List Rg} {i0 i:Int} {r:Rg} {rest':List Rg} (h:Go all done rest i0 i) (h0:0<rest.length) (hr:r=at_ rest 0) (hp:(r :: rest').Perm rest) (hh:HeapN rest' rest'.length) :
  (r.1<=i/\i<r.1+r.2->Go all (r :: done) rest' i0 (r.1+r.2))/\(¬ (r.1<=i/\i<r.1+r.2)->Go all (r :: done) rest' i0 i):=by
 have hmem:∀ x ∈ rest',x ∈ rest:=fun x hx=>hp.mem_iff.1 (List.mem_cons_of_mem _ hx)
 have hrm:r ∈ rest:=hp.mem_iff.1 (by simp)
 have hmin:∀ x ∈ rest,r.1<=x.1:=by
  intro x hx;obtain ⟨j,hj,e⟩:=key_mem hx;have:=heap_min h.heap j hj;rw[e] at this;rw[hr];exact this
 have hperm:(r :: done++rest').Perm all:=by
  refine (List.Perm.trans ?_ h.perm)
  have:(r :: done++rest').Perm (done++(r :: rest')):=by
   rw[List.cons_append];exact (List.perm_middle (l₁:=done) (l₂:=rest') (a:=r)).symm
  exact this.trans (hp.append_left done)
 have hlow:∀ d ∈ r :: done,∀ x ∈ rest',d.1<=x.1:=by
  intro d hd x hx
  rcases List.mem_cons.1 hd with rfl | hd
  ·exact hmin x (hmem x hx)
  ·exact h.low d hd x (hmem x hx)
 constructor
 ·intro hc
  refine ⟨hperm,hh,hlow,fun d hd=>?_,fun k hk0 hk=>?_,by have:=h.le;omega⟩
  ·rcases List.mem_cons.1 hd with rfl | hd
   ·omega
   ·have h1:=h.not d hd
    have h2:=h.low d hd r hrm;omega
  ·by_cases hki:k<i
   ·exact h.yes k hk0 hki
   ·exact cov_iff.2 ⟨r,h.perm.mem_iff.1 (List.mem_append_right _ hrm),by omega,by omega⟩
 ·intro hc
  refine ⟨hperm,hh,hlow,fun d hd=>?_,h.yes,h.le⟩
  rcases List.mem_cons.1 hd with rfl | hd
  ·exact hc
  ·exact h.not d hd
end HP
namespace A2
open ChangeShapes WideShapes ChangeAt RowKit
theorem info8:(prog.info? 5).map (fun i=>(i.zero,i.size,i.bytes))=some (some (.int .u8 0),1,1):=by kernel_rfl
structure Txt (w:World) (l:List UInt8) (k:Nat) (W:World):Prop where
 t0:W.there w.heap.size 0 768
 row:W.rangeAt w.heap.size 0 (Lib.byteCells (l.take (k*8)))
 bel:Bq w W
 lt:w.heap.size<W.heap.size
theorem txt_new (w:World) (M:Array Value) (hM:M.size=768) (l:List UInt8):Txt w l 0 (w.alloc (.cells M 5)):=by
 have h0:=A0.there_new w M 5;rw[hM] at h0;exact ⟨h0,by simpa [Lib.byteCells] using A0.rangeAt_nil _ _ _,(Below.refl _ _).alloc (Nat.le_refl _) _,by simp⟩
theorem Txt.step {w W:World} {l:List UInt8} {k:Nat} (h:Txt w l k W) (hl:l.length=768) (hk:k<96):Txt w l (k+1) (W.setCells w.heap.size (k*8) (Lib.byteCells ((l.drop (k*8)).take 8))):=by
 have hlen:(Lib.byteCells ((l.drop (k*8)).take 8)).length=8:=by rw[Lib.byteCells_length,List.length_take,List.length_drop];omega
 have hpl:(Lib.byteCells (l.take (k*8))).length=k*8:=by rw[Lib.byteCells_length,List.length_take];omega
 refine ⟨World.there_setCells h.t0 _ _ _,?_,B0.below_setCells (Nat.le_refl _) _ _ _ h.bel,by rw[B0.size_setCells];exact h.lt⟩;rw[show (k+1)*8=k*8+8 by omega,List.take_add,Lib.byteCells_append];refine A0.rangeAt_snoc (World.rangeAt_setCells_apart h.row _ _ _ (by rw[hpl];omega)) ?_;rw[hpl,Nat.zero_add];exact World.rangeAt_setCells_same _ _ _ _ (by rw[hlen];exact A0.there_sub h.t0 (by omega) (by omega))
theorem text (l:List UInt8) (B o:Nat) (w:World) (hl:l.length=768) (hB:B<w.heap.size) (hr:w.rangeAt B o (Lib.byteCells l)) :
  Calls prog 163 #[Pv B o] w (Rb (.string ⟨l.toArray⟩) w):=by
 obtain ⟨i0,hi,hz0,hz1,hz2⟩:=info_parts info8;obtain ⟨M,hM⟩:∃ M,M=madeCells (Value.int .u8 0).cells ((768:Int).toNat*i0.size):=⟨_,rfl⟩
 have hMs:M.size=768:=by rw[hM,size_madeCells,hz1];rfl
 have hmk:(Instr.makeSlice 126 (Iv 0) (Iv 768)).run prog w=.ok (Sv w.heap.size 0 768) (w.alloc (.cells M 5)):=by
  have h:=run_make (P:=prog) w 126 5 i0 (.int .u8 0) underlying126 hi hz0 .i64 .i64 0 768 (by omega) (by omega) (by rw[hz2];decide) (by decide);rw[<- hM] at h;exact h
 clear hM;have h0:=txt_new w M hMs l;go_enter func163,ntmps163;go_wp2
 go_loopw [3,6] (fun d i w'=>∃ k:Nat,k<=96/\i=Iv k/\d=Sv w.heap.size (k*8) 768/\Txt w l k w') (fun _ i _=>96-(intOf i).toNat)
 case atStart=>exact ⟨0,Nat.zero_le _,rfl,rfl,h0⟩
 case round=>
  obtain ⟨k,hk,rfl,rfl,hc⟩:=hrel
  by_cases hlt:k<96
  ·have e1:(0:Int)<=(k:Int):=by omega
   have e2:(k:Int)<96:=by omega
   have hrow:wr.rangeAt B (o+k*8) (Lib.byteCells ((l.drop (k*8)).take 8)):=by
    rw[<- A0.bytes_part];exact A0.rangeAt_part (A0.rangeAt_below hr hc.bel hB) _ _
   have hlen:(Lib.byteCells ((l.drop (k*8)).take 8)).length=8:=by rw[Lib.byteCells_length,List.length_take,List.length_drop];omega
   have hap:=run_append_room_cells (P:=prog) wr 126 126 5 i0 underlying126 hi w.heap.size 0 (k*8) 768 ⟨B,o+k*8,none⟩ 8 8 (Lib.byteCells ((l.drop (k*8)).take 8)) (by rw[hlen,hz1])
    (fun j u hu=>by rw[Addr.add_mid];exact hrow j u hu) (Lib.byteCells_one _) (by omega)
    (fun j hj=>by rw[hlen] at hj;rw[hz1];have:=(hc.t0 (k*8+j) (by omega)).1;simpa using this)
    (fun j hj=>by rw[hlen] at hj;rw[hz1];have:=(hc.t0 (k*8+j) (by omega)).2;simpa using this)
   rw[hz1,Nat.zero_add,Nat.mul_one] at hap;have h1:=hc.step hl hlt;obtain ⟨W1,hW1⟩:∃ W1,wr.setCells w.heap.size (k*8) (Lib.byteCells ((l.drop (k*8)).take 8))=W1:=⟨_,rfl⟩;rw[hW1] at hap h1;clear hW1
   go_wp2_with (at_builtin;refine A0.wpList_append_run rfl (.tmp 9) (.tmp 14) 126 rfl rfl rfl hap ?_)
   go_roundw
   case rel=>exact ⟨k+1,by omega,by go_num,by rw[show (k+1)*8=k*8+8 by omega],h1⟩
   case measure=>simp[intOf];omega
  ·obtain rfl:k=96:=by omega
   have hrw:=hc.row;rw[List.take_of_length_le (by omega)] at hrw;have hcv:=B0.conv_back (P:=prog) wr 126 9 5 w.heap.size 0 768 l underlying126 underlying5 underlying9 (A0.holds_of_range hrw) 768 hl.symm;go_wp2;go_ret;exact ⟨rfl,hc.bel⟩
end A2
namespace D0
open Go
def dd (u:Nat):List UInt8:=if u=0 then [] else Lib.decDigits u
theorem dd_step (u:Nat) (h:u≠0):dd u=dd (u / 10) ++ [UInt8.ofNat (48+u % 10)]:=by
 unfold dd;rw[if_neg h]
 by_cases h1:u<10
 ·rw[Lib.decDigits_one h1,if_pos (by omega),Nat.mod_eq_of_lt h1]
  rfl
 ·rw[Lib.decDigits,dif_neg h1,if_neg (by omega)]
theorem dd_length (u:Nat) (h:u<=9223372036854775808):(dd u).length<=21:=by
 unfold dd
 split
 ·simp
 ·have:=Lib.itoa_length_le (-(u:Int)) (by omega) (by omega)
  rw[Lib.itoa_neg u (by omega)] at this;simp at this;omega
theorem round_eq (u v:Nat) (out:List UInt8) (h:u≠0) (e:dd u++out=dd v):dd (u / 10)++(UInt8.ofNat (48+u % 10) :: out)=dd v:=by
 rw[<- e,dd_step u h];simp
def dig (x:Int):ByteArray:=⟨#[UInt8.ofNat (48+x.toNat)]⟩
theorem dig_size (x:Int):(dig x).size=1:=rfl
theorem dig_cons (x:Int) (out:List UInt8):dig x ++ ⟨out.toArray⟩=⟨(UInt8.ofNat (48+x.toNat) :: out).toArray⟩:=by
 apply ByteArray.ext
 apply Array.toList_inj.1
 simp[dig]
end D0
namespace M1
open ChangeShapes WideShapes ChangeAt RowKit
def mt (k:Nat):ByteArray:=⟨(109 :: D0.dd k).toArray⟩
theorem conv1 (x:Int) (hx:0<=x/\x<256) (w:World) :
  (convert 126 9 (Sv w.heap.size 1 1)).run prog (w.alloc (.cells #[.int .u8 x] 5))=.ok (.string ⟨#[UInt8.ofNat x.toNat]⟩) (w.alloc (.cells #[.int .u8 x] 5)):=
 B0.conv_back _ 126 9 5 _ 0 1 [UInt8.ofNat x.toNat] underlying126 underlying5 underlying9
  (B0.holds_new _ _ _ _ _ fun j hj=>by
   obtain rfl:j=0:=by simpa using hj
   have:x.toNat<256:=by omega
   simp[Nat.mod_eq_of_lt this]
   omega) 1 rfl
theorem dig_of (u:Nat):(⟨#[UInt8.ofNat (48+(u:Int) % 10).toNat]⟩:ByteArray)=D0.dig ((u:Int) % 10):=by
 rw[D0.dig,show (48+(u:Int) % 10).toNat=48+((u:Int) % 10).toNat by omega]
theorem ret_m (v:Nat):Ending.returned (.string (⟨#[109]⟩ ++ ⟨(D0.dd v).toArray⟩))=Ending.returned (.string (mt v)):=by
 congr 2
theorem markText_any (v:Nat) (hv:v≠0) (hm:v<=9223372036854775807) (w:World) :
  Calls prog 56 #[Iv (v:Int)] w (Rb (.string (mt v)) w):=by
 have hv2:¬ (v:Int)<=0:=by omega
 have hlen:=D0.dd_length v (by omega);go_enter func56,ntmps56;go_wp2
 go_loopw [0,3] (fun i t w'=>∃ (u:Nat) (out:List UInt8),u<=v/\D0.dd u++out=D0.dd v/\i=Iv (u:Int)/\t=.string ⟨out.toArray⟩/\Bq w w') (fun i _ _=>(intOf i).toNat)
 case atStart=>exact ⟨v,[],Nat.le_refl _,by simp,rfl,rfl,Below.refl _ _⟩
 case round=>
  obtain ⟨u,out,hu,he,rfl,rfl,hbel⟩:=hrel;have hB:=hbel.size
  by_cases h0:u=0
  ·subst h0
   have he':out=D0.dd v:=by simpa [D0.dd] using he
   clear he;subst he'
   have hs:(⟨#[109]⟩:ByteArray).size+(⟨(D0.dd v).toArray⟩:ByteArray).size<=9223372036854775807:=by
    show 1+(D0.dd v).toArray.size<=_
    simp;omega
   go_wp2;go_ret;exact ⟨ret_m _,hbel⟩
  ·have hs:(D0.dig ((u:Int) % 10)).size+(⟨out.toArray⟩:ByteArray).size<=9223372036854775807:=by
    have:=congrArg List.length he;simp at this;rw[D0.dig_size]
    show 1+out.toArray.size<=_
    simp;omega
   have hu1:0<(u:Int):=by omega
   have hcv:=conv1 (48+(u:Int) % 10) (by omega);rw[dig_of] at hcv;have hHe:Hid (D0.dd u++out=D0.dd v):=he;clear he;go_wp2
   go_roundw
   case rel=>exact ⟨u / 10,UInt8.ofNat (48+u % 10) :: out,by omega,D0.round_eq u v out h0 hHe.out,by go_num,by rw[D0.dig_cons];rfl,hbel.alloc hB _⟩
   case measure=>simp[intOf];omega
end M1
end Go.Proofs.YtlejhfnjmkdobaaGreatDoor
