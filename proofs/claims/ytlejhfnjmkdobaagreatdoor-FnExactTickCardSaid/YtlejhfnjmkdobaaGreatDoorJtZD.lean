/- Joined texts. -/
import Derived.Test.YtlejhfnjmkdobaaGreatDoorJtY
set_option linter.unusedVariables false
set_option linter.unusedSimpArgs false
set_option maxRecDepth 10000
set_option maxHeartbeats 16000000
namespace Go.Proofs.YtlejhfnjmkdobaaGreatDoor
open ChangeShapes WideShapes ChangeAt RowKit
open Go.Proofs.Tryz
namespace R6
open N0 (Ln)
open N1 (Sl Lists Fit LB lb_new)
open N13 (Bx bx_new)
open R5 (RBuf)
def rP (zs:List Int) (k:Nat):List Int:=(zs.take k).flatMap fun p=>[p*32,32]
def rF (zs:List Int) (k:Nat):List Int:=(zs.take k).flatMap fun f=>[L1.recAt f,16]
def rg (d:Ln):List Int:=if N0.loanOk d then [L1.recAt d.ino,16]++rP d.pg d.pg.length++rP d.po d.po.length++rF d.fr d.fr.length else []
def nR (d:Ln):Nat:=if N0.loanOk d then 1+d.pg.length+d.po.length+d.fr.length else 0
theorem rP_succ (zs:List Int) (k:Nat) (h:k<zs.length):rP zs (k+1)=rP zs k ++ [zs.getD k 0*32,32]:=by
 unfold rP;rw[List.take_succ_eq_append_getElem h,List.flatMap_append,P0.getD_get _ _ h];simp
theorem rF_succ (zs:List Int) (k:Nat) (h:k<zs.length):rF zs (k+1)=rF zs k ++ [L1.recAt (zs.getD k 0),16]:=by
 unfold rF;rw[List.take_succ_eq_append_getElem h,List.flatMap_append,P0.getD_get _ _ h];simp
def Ans (d:Ln) (w:World) (e:Ending) (w':World):Prop:=∃ a c,e=.returned (.slice a (nR d) c)/\(rg d).length=nR d*2/\nR d<=c/\J0.Own w.heap.size w' a (rg d)/\Bq w w'
theorem ans_no {d:Ln} {w w':World} {a:Option Addr} {c:Nat} (h:N0.loanOk d=false) (hb:Bq w w'):Ans d w (.returned (.slice a 0 c)) w':=by
 have e1:rg d=[]:=by rw[rg,h];rfl
 have e2:nR d=0:=by rw[nR,h];rfl
 exact ⟨a,c,by rw[e2],by rw[e1,e2];rfl,by rw[e2];exact Nat.zero_le _,by rw[e1];exact Or.inl rfl,hb⟩
theorem ans_yes {d:Ln} {w w':World} {a:Option Addr} {n c:Nat} {zs:List Int} (h:N0.loanOk d=true) (hn:n=1+d.pg.length+d.po.length+d.fr.length) (hz:zs=[L1.recAt d.ino,16]++rP d.pg d.pg.length++rP d.po d.po.length++rF d.fr d.fr.length) (hbuf:RBuf (w.heap.size+1) w' a n c zs) (hb:Bq w w'):Ans d w (.returned (.slice a n c)) w':=by
 have e1:rg d=zs:=by rw[rg,h,hz];rfl
 have e2:nR d=n:=by rw[nR,h,hn];rfl
 exact ⟨a,c,by rw[e2],by rw[e1,e2];exact hbuf.1,by rw[e2];exact hbuf.fits,by rw[e1];exact hbuf.own.mono (by omega),hb⟩
theorem bx_keep {w W W':World} {d:Ln} {s:Sl} (h:Bx w d s W) (hb:Below (w.heap.size+1) W W'):Bx w d s W':=
 ⟨⟨J0.blk_keep h.arg.b hb (by omega)⟩,h.bel.trans (hb.mono (by omega))⟩
theorem bx_size {w W:World} {d:Ln} {s:Sl} (h:Bx w d s W):w.heap.size+1<=W.heap.size:=h.arg.b.lt
theorem impl_Ranges (d:Ln) (s:Sl) (w:World) (hF:Fit d s) (hpo:d.po.length<=1048576) (hfr:d.fr.length<=1048576) (hR:Lists w d s):Calls prog 126 #[N1.val d s] w (Ans d w):=by
 have x0:=bx_new w d s
 have HL:Hid (∀ W,Bq w W->Lists W d s):=fun W hb=>hR.below hb
 have HO:Hid (∀ W,Bq w W->_):=fun W hb=>N10.impl_LoanOk d s W hF hpo hfr (hR.below hb)
 have HN:Hid (∀ a c w',N0.loanOk d=false->Bq w w'->Ans d w (.returned (.slice a 0 c)) w'):=fun a c w' h hb=>ans_no h hb
 have HY:Hid (∀ a n c zs w',N0.loanOk d=true->n=1+d.pg.length+d.po.length+d.fr.length->zs=[L1.recAt d.ino,16]++rP d.pg d.pg.length++rP d.po d.po.length++rF d.fr d.fr.length->RBuf (w.heap.size+1) w' a n c zs->Bq w w'->Ans d w (.returned (.slice a n c)) w'):=fun a n c zs w' h hn hz hbuf hb=>ans_yes h hn hz hbuf hb
 obtain ⟨R,hR'⟩:∃ R,Ans d w=R:=⟨_,rfl⟩;rw[hR'] at HN HY ⊢;clear hR hR' hF
 cases hok:N0.loanOk d with
 | false=>
  rw[hok] at HO;have hok':=hok;clear hok;go_enter func126,ntmps126
  go_wp2_with (go_at_call 121;refine (HO.out _ x0.bel).mono ?_;rintro e w1 ⟨rfl,b1⟩;have x1:=x0.below b1)
  exact HN.out _ _ _ hok' (x1.bel.alloc x1.bel.size _)
 | true=>
  rw[hok] at HO;obtain ⟨-,-,-,-,-,-,hp6,hp4,hf2,hpp,-,-,-⟩:=N0.loanOk_is hok
  have hpg:∀ j,j<d.pg.length->5<=d.pg.getD j 0/\d.pg.getD j 0<=23:=fun j hj=>(N0.pagesOk_iff.1 hpp).1 _ (List.mem_append.2 (Or.inl (N0.getD_mem hj)))
  have hpq:∀ j,j<d.po.length->5<=d.po.getD j 0/\d.po.getD j 0<=23:=fun j hj=>(N0.pagesOk_iff.1 hpp).1 _ (List.mem_append.2 (Or.inr (N0.getD_mem hj)))
  have HOK:Hid (N0.loanOk d=true):=hok;clear hok hpp;go_enter func126,ntmps126
  go_wp2_with (first
   | (go_at_call 121;refine (HO.out _ x0.bel).mono ?_;rintro e w1 ⟨rfl,b1⟩;have x1:=x0.below b1;have c0:=x1.arg.c0;have x2:=x1.below (K0.below_new w1 (.cells #[Iv (L1.recAt d.ino),Iv 16] 107));have c4:=x2.arg.c4;have bf2:RBuf (w.heap.size+1) (w1.alloc (.cells #[Iv (L1.recAt d.ino),Iv 16] 107)) (some ⟨w1.heap.size,0,none⟩) 1 1 [L1.recAt d.ino,16]:=R5.rbuf_one w1 _ _ (bx_size x1))
   | (go_at_call 123;refine (L1.impl_RecAt _ _).mono ?_;rintro e wq ⟨rfl,rfl⟩))
  obtain ⟨p0,hp0⟩:∃ p0,[L1.recAt d.ino,16]=p0:=⟨_,rfl⟩;have HP0:Hid ([L1.recAt d.ino,16]=p0):=hp0;rw[hp0] at bf2;clear hp0 c0 c4 x0 x1 b1
  go_loopw [3,22] (fun v i w'=>∃ (k0 c:Nat) (a:Option Addr),k0<=d.pg.length/\i=Iv k0/\v=.slice a (1+k0) c/\RBuf (w.heap.size+1) w' a (1+k0) c (p0++rP d.pg k0)/\Bx w d s w') (fun _ i _=>d.pg.length-(intOf i).toNat)
  case atStart=>exact ⟨0,_,_,Nat.zero_le _,rfl,rfl,by rw[show p0++rP d.pg 0=p0 by simp[rP]];exact bf2,x2⟩
  case round=>
   obtain ⟨k0,cq0,aq0,hk0,rfl,rfl,bf0,xr0⟩:=hrel;clear bf2 x2;have cc0:=xr0.arg.c4
   by_cases hlt:k0<d.pg.length
   ·obtain ⟨b,off,hab,_,hcell⟩:=(HL.out _ xr0.bel).r1.get hlt
    have y1:=hcell k0 hlt;have hz:=hpg k0 hlt
    have HS:Hid (p0++rP d.pg k0 ++ [d.pg.getD k0 0*32,32]=p0++rP d.pg (k0+1)):=by show _=_;rw[List.append_assoc,<- rP_succ _ _ hlt]
    obtain ⟨z,ez⟩:∃ z,d.pg.getD k0 0=z:=⟨_,rfl⟩;rw[ez] at y1 HS hz;rw[hab]
    have e1:(0:Int)<=(k0:Int):=by omega
    have e2:(k0:Int)<(d.pg.length:Int):=by omega
    have hsz:=bx_size xr0;clear ez hcell
    go_wp2_with (at_builtin;refine R5.append_rng rfl (.tmp 26) (.tmp 30) rfl bf0 _ _ (by rfl) (by rfl) (by omega) hsz ?_;intro g5 cap5 w5 bf5 bel5)
    go_roundw
    case rel=>exact ⟨k0+1,cap5,_,by omega,by go_num,by rw[Nat.add_assoc],by rw[<- HS.out,<- Nat.add_assoc];exact bf5,bx_keep xr0 bel5⟩
    case measure=>simp[intOf];omega
   ·obtain rfl:k0=d.pg.length:=by omega
    have d0:=xr0.arg.c6;go_wp2
    go_loopw [3,36] (fun v i w'=>∃ (k1 c:Nat) (a:Option Addr),k1<=d.po.length/\i=Iv k1/\v=.slice a ((1+d.pg.length)+k1) c/\RBuf (w.heap.size+1) w' a ((1+d.pg.length)+k1) c ((p0++rP d.pg d.pg.length)++rP d.po k1)/\Bx w d s w') (fun _ i _=>d.po.length-(intOf i).toNat)
    case atStart=>exact ⟨0,_,_,Nat.zero_le _,rfl,rfl,by rw[show (p0++rP d.pg d.pg.length)++rP d.po 0=(p0++rP d.pg d.pg.length) by simp[rP]];exact bf0,xr0⟩
    case round=>
     rename_i wr2
     obtain ⟨k1,cq1,aq1,hk1,rfl,rfl,bf1,xr1⟩:=hrel
     skip
     have cc1:=xr1.arg.c6
     by_cases hlt:k1<d.po.length
     ·obtain ⟨b,off,hab,_,hcell⟩:=(HL.out _ xr1.bel).r2.get hlt
      have y1:=hcell k1 hlt;have hz:=hpq k1 hlt
      have HS:Hid ((p0++rP d.pg d.pg.length)++rP d.po k1 ++ [d.po.getD k1 0*32,32]=(p0++rP d.pg d.pg.length)++rP d.po (k1+1)):=by show _=_;rw[List.append_assoc,<- rP_succ _ _ hlt]
      obtain ⟨z,ez⟩:∃ z,d.po.getD k1 0=z:=⟨_,rfl⟩;rw[ez] at y1 HS hz;rw[hab]
      have e1:(0:Int)<=(k1:Int):=by omega
      have e2:(k1:Int)<(d.po.length:Int):=by omega
      have hsz:=bx_size xr1;clear ez hcell
      go_wp2_with (at_builtin;refine R5.append_rng rfl (.tmp 40) (.tmp 44) rfl bf1 _ _ (by rfl) (by rfl) (by omega) hsz ?_;intro g5 cap5 w5 bf5 bel5)
      go_roundw
      case rel=>exact ⟨k1+1,cap5,_,by omega,by go_num,by rw[Nat.add_assoc],by rw[<- HS.out,<- Nat.add_assoc];exact bf5,bx_keep xr1 bel5⟩
      case measure=>simp[intOf];omega
     ·obtain rfl:k1=d.po.length:=by omega
      have d1:=xr1.arg.c7;go_wp2
      go_loopw [3,50] (fun v i w'=>∃ (k2 c:Nat) (a:Option Addr),k2<=d.fr.length/\i=Iv k2/\v=.slice a (((1+d.pg.length)+d.po.length)+k2) c/\RBuf (w.heap.size+1) w' a (((1+d.pg.length)+d.po.length)+k2) c (((p0++rP d.pg d.pg.length)++rP d.po d.po.length)++rF d.fr k2)/\Bx w d s w') (fun _ i _=>d.fr.length-(intOf i).toNat)
      case atStart=>exact ⟨0,_,_,Nat.zero_le _,rfl,rfl,by rw[show ((p0++rP d.pg d.pg.length)++rP d.po d.po.length)++rF d.fr 0=((p0++rP d.pg d.pg.length)++rP d.po d.po.length) by simp[rF]];exact bf1,xr1⟩
      case round=>
       rename_i wr3
       obtain ⟨k2,cq2,aq2,hk2,rfl,rfl,bf2,xr2⟩:=hrel
       skip
       have cc2:=xr2.arg.c7
       by_cases hlt:k2<d.fr.length
       ·obtain ⟨b,off,hab,_,hcell⟩:=(HL.out _ xr2.bel).r3.get hlt
        have y1:=hcell k2 hlt
        have HS:Hid (((p0++rP d.pg d.pg.length)++rP d.po d.po.length)++rF d.fr k2 ++ [L1.recAt (d.fr.getD k2 0),16]=((p0++rP d.pg d.pg.length)++rP d.po d.po.length)++rF d.fr (k2+1)):=by show _=_;rw[List.append_assoc,<- rF_succ _ _ hlt]
        obtain ⟨z,ez⟩:∃ z,d.fr.getD k2 0=z:=⟨_,rfl⟩;rw[ez] at y1 HS;rw[hab]
        have e1:(0:Int)<=(k2:Int):=by omega
        have e2:(k2:Int)<(d.fr.length:Int):=by omega
        have hsz:=bx_size xr2;clear ez hcell
        go_wp2_with (first
         | (go_at_call 123;refine (L1.impl_RecAt _ _).mono ?_;rintro e wq ⟨rfl,rfl⟩)
         | (at_builtin;refine R5.append_rng rfl (.tmp 54) (.tmp 58) rfl bf2 _ _ (by rfl) (by rfl) (by omega) hsz ?_;intro g5 cap5 w5 bf5 bel5))
        go_roundw
        case rel=>exact ⟨k2+1,cap5,_,by omega,by go_num,by rw[Nat.add_assoc],by rw[<- HS.out,<- Nat.add_assoc];exact bf5,bx_keep xr2 bel5⟩
        case measure=>simp[intOf];omega
       ·obtain rfl:k2=d.fr.length:=by omega
        go_wp2;refine HY.out _ _ _ _ _ HOK.out rfl ?_ bf2 xr2.bel;rw[HP0.out]
theorem spec_Ranges (d:Ln) (s:Sl) (w:World) (hF:Fit d s) (hpo:d.po.length<=1048576) (hfr:d.fr.length<=1048576) (hR:Lists w d s):Calls prog 65 #[N1.val d s] w (Ans d w):=by
 have x0:=bx_new w d s
 have HL:Hid (∀ W,Bq w W->Lists W d s):=fun W hb=>hR.below hb
 have HO:Hid (∀ W,Bq w W->_):=fun W hb=>N11.spec_LoanOk d s W hF hpo hfr (hR.below hb)
 have HN:Hid (∀ a c w',N0.loanOk d=false->Bq w w'->Ans d w (.returned (.slice a 0 c)) w'):=fun a c w' h hb=>ans_no h hb
 have HY:Hid (∀ a n c zs w',N0.loanOk d=true->n=1+d.pg.length+d.po.length+d.fr.length->zs=[L1.recAt d.ino,16]++rP d.pg d.pg.length++rP d.po d.po.length++rF d.fr d.fr.length->RBuf (w.heap.size+1) w' a n c zs->Bq w w'->Ans d w (.returned (.slice a n c)) w'):=fun a n c zs w' h hn hz hbuf hb=>ans_yes h hn hz hbuf hb
 obtain ⟨R,hR'⟩:∃ R,Ans d w=R:=⟨_,rfl⟩;rw[hR'] at HN HY ⊢;clear hR hR' hF
 cases hok:N0.loanOk d with
 | false=>
  rw[hok] at HO;have hok':=hok;clear hok;go_enter func65,ntmps65
  go_wp2_with (go_at_call 68;refine (HO.out _ x0.bel).mono ?_;rintro e w1 ⟨rfl,b1⟩;have x1:=x0.below b1)
  exact HN.out _ _ _ hok' (x1.bel.alloc x1.bel.size _)
 | true=>
  rw[hok] at HO;obtain ⟨-,-,-,-,-,-,hp6,hp4,hf2,hpp,-,-,-⟩:=N0.loanOk_is hok
  have hpg:∀ j,j<d.pg.length->5<=d.pg.getD j 0/\d.pg.getD j 0<=23:=fun j hj=>(N0.pagesOk_iff.1 hpp).1 _ (List.mem_append.2 (Or.inl (N0.getD_mem hj)))
  have hpq:∀ j,j<d.po.length->5<=d.po.getD j 0/\d.po.getD j 0<=23:=fun j hj=>(N0.pagesOk_iff.1 hpp).1 _ (List.mem_append.2 (Or.inr (N0.getD_mem hj)))
  have HOK:Hid (N0.loanOk d=true):=hok;clear hok hpp;go_enter func65,ntmps65
  go_wp2_with (first
   | (go_at_call 68;refine (HO.out _ x0.bel).mono ?_;rintro e w1 ⟨rfl,b1⟩;have x1:=x0.below b1;have c0:=x1.arg.c0;have x2:=x1.below (K0.below_new w1 (.cells #[Iv (L1.recAt d.ino),Iv 16] 107));have c4:=x2.arg.c4;have bf2:RBuf (w.heap.size+1) (w1.alloc (.cells #[Iv (L1.recAt d.ino),Iv 16] 107)) (some ⟨w1.heap.size,0,none⟩) 1 1 [L1.recAt d.ino,16]:=R5.rbuf_one w1 _ _ (bx_size x1))
   | (go_at_call 46;refine (L1.spec_RecAt _ _).mono ?_;rintro e wq ⟨rfl,rfl⟩))
  obtain ⟨p0,hp0⟩:∃ p0,[L1.recAt d.ino,16]=p0:=⟨_,rfl⟩;have HP0:Hid ([L1.recAt d.ino,16]=p0):=hp0;rw[hp0] at bf2;clear hp0 c0 c4 x0 x1 b1
  go_loopw [3,4] (fun v i w'=>∃ (k0 c:Nat) (a:Option Addr),k0<=d.pg.length/\i=Iv k0/\v=.slice a (1+k0) c/\RBuf (w.heap.size+1) w' a (1+k0) c (p0++rP d.pg k0)/\Bx w d s w') (fun _ i _=>d.pg.length-(intOf i).toNat)
  case atStart=>exact ⟨0,_,_,Nat.zero_le _,rfl,rfl,by rw[show p0++rP d.pg 0=p0 by simp[rP]];exact bf2,x2⟩
  case round=>
   obtain ⟨k0,cq0,aq0,hk0,rfl,rfl,bf0,xr0⟩:=hrel;clear bf2 x2;have cc0:=xr0.arg.c4
   by_cases hlt:k0<d.pg.length
   ·obtain ⟨b,off,hab,_,hcell⟩:=(HL.out _ xr0.bel).r1.get hlt
    have y1:=hcell k0 hlt;have hz:=hpg k0 hlt
    have HS:Hid (p0++rP d.pg k0 ++ [d.pg.getD k0 0*32,32]=p0++rP d.pg (k0+1)):=by show _=_;rw[List.append_assoc,<- rP_succ _ _ hlt]
    obtain ⟨z,ez⟩:∃ z,d.pg.getD k0 0=z:=⟨_,rfl⟩;rw[ez] at y1 HS hz;rw[hab] at cc0;clear hab
    have e1:(0:Int)<=(k0:Int):=by omega
    have e2:(k0:Int)<(d.pg.length:Int):=by omega
    have hsz:=bx_size xr0;clear ez hcell
    go_wp2_with (at_builtin;refine R5.append_rng rfl (.tmp 23) (.tmp 31) rfl bf0 _ _ (by rfl) (by rfl) (by omega) hsz ?_;intro g5 cap5 w5 bf5 bel5)
    go_roundw
    case rel=>exact ⟨k0+1,cap5,_,by omega,by go_num,by rw[Nat.add_assoc],by rw[<- HS.out,<- Nat.add_assoc];exact bf5,bx_keep xr0 bel5⟩
    case measure=>simp[intOf];omega
   ·obtain rfl:k0=d.pg.length:=by omega
    have e9:decide ((d.pg.length:Int)<(d.pg.length:Int))=false:=by simp
    have d0:=xr0.arg.c6;go_wp2
    go_loopw [3,5] (fun v i w'=>∃ (k1 c:Nat) (a:Option Addr),k1<=d.po.length/\i=Iv k1/\v=.slice a ((1+d.pg.length)+k1) c/\RBuf (w.heap.size+1) w' a ((1+d.pg.length)+k1) c ((p0++rP d.pg d.pg.length)++rP d.po k1)/\Bx w d s w') (fun _ i _=>d.po.length-(intOf i).toNat)
    case atStart=>exact ⟨0,_,_,Nat.zero_le _,rfl,rfl,by rw[show (p0++rP d.pg d.pg.length)++rP d.po 0=(p0++rP d.pg d.pg.length) by simp[rP]];exact bf0,xr0⟩
    case round=>
     rename_i wr2
     obtain ⟨k1,cq1,aq1,hk1,rfl,rfl,bf1,xr1⟩:=hrel
     skip
     have cc1:=xr1.arg.c6
     by_cases hlt:k1<d.po.length
     ·obtain ⟨b,off,hab,_,hcell⟩:=(HL.out _ xr1.bel).r2.get hlt
      have y1:=hcell k1 hlt;have hz:=hpq k1 hlt
      have HS:Hid ((p0++rP d.pg d.pg.length)++rP d.po k1 ++ [d.po.getD k1 0*32,32]=(p0++rP d.pg d.pg.length)++rP d.po (k1+1)):=by show _=_;rw[List.append_assoc,<- rP_succ _ _ hlt]
      obtain ⟨z,ez⟩:∃ z,d.po.getD k1 0=z:=⟨_,rfl⟩;rw[ez] at y1 HS hz;rw[hab] at cc1;clear hab
      have e1:(0:Int)<=(k1:Int):=by omega
      have e2:(k1:Int)<(d.po.length:Int):=by omega
      have hsz:=bx_size xr1;clear ez hcell
      go_wp2_with (at_builtin;refine R5.append_rng rfl (.tmp 40) (.tmp 48) rfl bf1 _ _ (by rfl) (by rfl) (by omega) hsz ?_;intro g5 cap5 w5 bf5 bel5)
      go_roundw
      case rel=>exact ⟨k1+1,cap5,_,by omega,by go_num,by rw[Nat.add_assoc],by rw[<- HS.out,<- Nat.add_assoc];exact bf5,bx_keep xr1 bel5⟩
      case measure=>simp[intOf];omega
     ·obtain rfl:k1=d.po.length:=by omega
      have e9:decide ((d.po.length:Int)<(d.po.length:Int))=false:=by simp
      have d1:=xr1.arg.c7;go_wp2
      go_loopw [3,6] (fun v i w'=>∃ (k2 c:Nat) (a:Option Addr),k2<=d.fr.length/\i=Iv k2/\v=.slice a (((1+d.pg.length)+d.po.length)+k2) c/\RBuf (w.heap.size+1) w' a (((1+d.pg.length)+d.po.length)+k2) c (((p0++rP d.pg d.pg.length)++rP d.po d.po.length)++rF d.fr k2)/\Bx w d s w') (fun _ i _=>d.fr.length-(intOf i).toNat)
      case atStart=>exact ⟨0,_,_,Nat.zero_le _,rfl,rfl,by rw[show ((p0++rP d.pg d.pg.length)++rP d.po d.po.length)++rF d.fr 0=((p0++rP d.pg d.pg.length)++rP d.po d.po.length) by simp[rF]];exact bf1,xr1⟩
      case round=>
       rename_i wr3
       obtain ⟨k2,cq2,aq2,hk2,rfl,rfl,bf2,xr2⟩:=hrel
       skip
       have cc2:=xr2.arg.c7
       by_cases hlt:k2<d.fr.length
       ·obtain ⟨b,off,hab,_,hcell⟩:=(HL.out _ xr2.bel).r3.get hlt
        have y1:=hcell k2 hlt
        have HS:Hid (((p0++rP d.pg d.pg.length)++rP d.po d.po.length)++rF d.fr k2 ++ [L1.recAt (d.fr.getD k2 0),16]=((p0++rP d.pg d.pg.length)++rP d.po d.po.length)++rF d.fr (k2+1)):=by show _=_;rw[List.append_assoc,<- rF_succ _ _ hlt]
        obtain ⟨z,ez⟩:∃ z,d.fr.getD k2 0=z:=⟨_,rfl⟩;rw[ez] at y1 HS;rw[hab] at cc2;clear hab
        have e1:(0:Int)<=(k2:Int):=by omega
        have e2:(k2:Int)<(d.fr.length:Int):=by omega
        have hsz:=bx_size xr2;clear ez hcell
        go_wp2_with (first
         | (go_at_call 46;refine (L1.spec_RecAt _ _).mono ?_;rintro e wq ⟨rfl,rfl⟩)
         | (at_builtin;refine R5.append_rng rfl (.tmp 57) (.tmp 65) rfl bf2 _ _ (by rfl) (by rfl) (by omega) hsz ?_;intro g5 cap5 w5 bf5 bel5))
        go_roundw
        case rel=>exact ⟨k2+1,cap5,_,by omega,by go_num,by rw[Nat.add_assoc],by rw[<- HS.out,<- Nat.add_assoc];exact bf5,bx_keep xr2 bel5⟩
        case measure=>simp[intOf];omega
       ·obtain rfl:k2=d.fr.length:=by omega
        have e9:decide ((d.fr.length:Int)<(d.fr.length:Int))=false:=by simp
        go_wp2;refine HY.out _ _ _ _ _ HOK.out rfl ?_ bf2 xr2.bel;rw[HP0.out]
end R6
namespace WI
open N0 (Ln)
open HP (Rg at_ cov cov_iff)
open I2 (ints)
def fl:List Rg->List Int
 | []=>[]
 | r :: t=>r.1 :: r.2 :: fl t
theorem fl_append:∀ l m:List Rg,fl (l++m)=fl l++fl m
 | [],m=>rfl
 | r :: t,m=>by simp[fl,fl_append t m]
theorem fl_map (f:Int->Rg):∀ zs:List Int,fl (zs.map f)=zs.flatMap fun z=>[(f z).1,(f z).2]
 | []=>rfl
 | z :: t=>by simp[fl,fl_map f t]
theorem fl_get:∀ (l:List Rg) (i:Nat),i<l.length->(fl l)[i*2]? = some (at_ l i).1/\(fl l)[i*2+1]? = some (at_ l i).2
 | [],i,h=>by simp at h
 | r :: t,0,_=>by simp[fl,at_]
 | r :: t,i+1,h=>by
  have:=fl_get t i (by simpa using h)
  have e:at_ (r :: t) (i+1)=at_ t i:=by simp[at_]
  rw[e,show (i+1)*2=i*2+1+1 by omega,show i*2+1+1+1=(i*2+1)+1+1 by omega]
  simpa [fl] using this
theorem fl_length:∀ l:List Rg,(fl l).length=l.length*2
 | []=>rfl
 | r :: t=>by simp[fl,fl_length t];omega
def rl (d:Ln):List Rg:=if N0.loanOk d then [(L1.recAt d.ino,16)]++d.pg.map (fun p=>(p*32,32))++d.po.map (fun p=>(p*32,32))++d.fr.map (fun f=>(L1.recAt f,16)) else []
theorem rl_fl (d:Ln):fl (rl d)=R6.rg d:=by
 unfold rl R6.rg
 split
 ·rw[fl_append,fl_append,fl_append,fl_map,fl_map,fl_map]
  unfold R6.rP R6.rF;rw[List.take_length,List.take_length,List.take_length];rfl
 ·rfl
theorem rl_len (d:Ln):(rl d).length=R6.nR d:=by
 unfold rl R6.nR
 split
 ·simp
  omega
 ·rfl
theorem rl_small (d:Ln):(rl d).length<=13:=by
 unfold rl
 cases h:N0.loanOk d with
 | false=>simp
 | true=>
  obtain ⟨-,-,-,-,-,-,hp6,hp4,hf2,-,-,-,-⟩:=N0.loanOk_is h;simp;omega
theorem rl_in (d:Ln):∀ r ∈ rl d,0<=r.1/\16<=r.2/\r.1+r.2<=768:=by
 unfold rl
 cases h:N0.loanOk d with
 | false=>simp
 | true=>
  obtain ⟨-,-,-,-,hi,-,-,-,-,hpp,hfr,-,-⟩:=N0.loanOk_is h;have hpg:=(N0.pagesOk_iff.1 hpp).1
  have hrec:∀ z:Int,0<=z->z<=7->L1.recAt z=32+z*16:=by
   intro z h0 h7;unfold L1.recAt;rw[if_pos (N0.inB_iff.2 ⟨h0,h7⟩)]
  intro r hr;simp only[if_true,List.mem_append,List.mem_map,List.mem_singleton] at hr
  rcases hr with ((hr | ⟨p,hp,hr⟩) | ⟨p,hp,hr⟩) | ⟨f,hf,hr⟩
  ·subst hr
   rw[hrec _ hi.1 hi.2];simp;omega
  ·subst hr
   have:=hpg p (List.mem_append_left _ hp);simp;omega
  ·subst hr
   have:=hpg p (List.mem_append_right _ hp);simp;omega
  ·subst hr
   have:=hfr f hf;rw[hrec f (by omega) (by omega)];simp;omega
theorem at_in (d:Ln) {i:Nat} (h:i<(rl d).length):0<=(at_ (rl d) i).1/\16<=(at_ (rl d) i).2/\(at_ (rl d) i).1+(at_ (rl d) i).2<=768:=by
 rw[HP.at_get _ _ h];exact rl_in d _ (List.getElem_mem h)
def Row (d:Ln) (a:Option Addr) (lo:Nat) (W:World):Prop:=rl d=[]\/∃ G,a=some ⟨G,0,none⟩/\lo<=G/\K0.Blk G (ints (R6.rg d)) W
theorem row_of {d:Ln} {a:Option Addr} {lo:Nat} {W:World} (h:J0.Own lo W a (R6.rg d)):Row d a lo W:=by
 rcases h with h | h
 ·left
  have:=fl_length (rl d);rw[rl_fl,h] at this;simp at this;exact List.eq_nil_of_length_eq_zero (by omega)
 ·exact Or.inr h
theorem row_get {d:Ln} {G:Nat} {W:World} (h:K0.Blk G (ints (R6.rg d)) W) {i:Nat} (hi:i<(rl d).length):W.cell? ⟨G,i*2,none⟩=some (.int .i64 (at_ (rl d) i).1)/\W.cell? ⟨G,i*2+1,none⟩=some (.int .i64 (at_ (rl d) i).2):=by
 obtain ⟨h1,h2⟩:=fl_get (rl d) i hi;have hl:=fl_length (rl d);rw[rl_fl] at h1 h2 hl;have c1:=h.cell (i*2) (by simp[ints];omega);have c2:=h.cell (i*2+1) (by simp[ints];omega);rw[c1,c2];obtain ⟨q1,e1⟩:=List.getElem?_eq_some_iff.1 h1;obtain ⟨q2,e2⟩:=List.getElem?_eq_some_iff.1 h2;constructor
 ·simp[ints,e1]
 ·simp[ints,e2]
end WI
namespace LK
open N0 (Ln)
open N1 (Sl val vals Lists LB lb_new)
open Z0 (dat Row Lns Kp kval kvals dz sz0)
open LH (HL lob)
open LI (zo)
open LJ (Lf)
def isOf (cl ino:Int) (d:Ln):Bool:=decide (d.ino=ino) && decide (d.cl=cl)
theorem place1 (d:Ln) (s:Sl) (cl ino:Int) (bi bc:Nat) (w:World) (hi:Ce w bi 0 (Iv ino)) (hc:Ce w bc 0 (Iv cl)) (hi':bi<w.heap.size) (hc':bc<w.heap.size) :
  Calls prog 115 #[val d s,Pv bi 0,Pv bc 0] w (Rb (.bool (isOf cl ino d)) w):=by
 have bx:=lb_new d s w 46;have n0:=K0.below_new w (lob d s);have c0:=bx.c0;have c1:=bx.c1;have i0:=(n0.cell (p:=⟨bi,0,none⟩) hi').trans hi;have i1:=(n0.cell (p:=⟨bc,0,none⟩) hc').trans hc;clear hi hc hi' hc'
 by_cases h1:d.ino=ino
 ·by_cases h2:d.cl=cl
  ·have e:isOf cl ino d=true:=by simp[isOf,h1,h2]
   rw[e];clear e;subst h1 h2;go_enter func115,ntmps115;go_wp2;go_ret;exact ⟨rfl,n0⟩
  ·have e:isOf cl ino d=false:=by simp[isOf,h2]
   rw[e];clear e;subst h1
   have q:(d.cl == cl)=false:=by simpa using h2
   go_enter func115,ntmps115;go_wp2;go_ret;exact ⟨rfl,n0⟩
 ·have e:isOf cl ino d=false:=by simp[isOf,h1]
  rw[e];clear e;go_enter func115,ntmps115;go_wp2;go_ret;exact ⟨rfl,n0⟩
def At (cl ino:Int) (ds:List Ln) (x:Int):Prop:=(x = -1/\∀ j,j<ds.length->isOf cl ino (dat ds j)=false)\/∃ j,j<ds.length/\x=(j:Int)/\isOf cl ino (dat ds j)=true/\∀ y,y<j->isOf cl ino (dat ds y)=false
theorem indexFunc (a:Option Addr) (c:Nat) (ds:List Ln) (ss:Nat->Sl) (cl ino:Int) (bi bc:Nat) (w:World) (hn:ds.length<=1048576) (hR:Row w a ds ss) (hi:Ce w bi 0 (Iv ino)) (hc:Ce w bc 0 (Iv cl)) (hi':bi<w.heap.size) (hc':bc<w.heap.size) :
  Calls prog 114 #[.slice a ds.length c,.func (.func 115) #[] #[Pv bi 0,Pv bc 0]] w fun e w'=>(∃ x,e=.returned (Iv x)/\At cl ino ds x)/\Bq w w':=by
 have HC:Hid (∀ W d s,Bq w W->_):=fun W d s hb=>place1 d s cl ino bi bc W ((hb.cell (p:=⟨bi,0,none⟩) hi').trans hi) ((hb.cell (p:=⟨bc,0,none⟩) hc').trans hc) (Nat.lt_of_lt_of_le hi' hb.size) (Nat.lt_of_lt_of_le hc' hb.size)
 have HR:Hid (∀ W,Bq w W->Row W a ds ss):=fun W hb=>hR.below hb
 clear hi hc hi' hc' hR;go_enter func114,ntmps114;go_wp2
 go_loopw [8] (fun i w'=>∃ j:Nat,j<=ds.length/\i=Iv j/\Hid (∀ y,y<j->isOf cl ino (dat ds y)=false)/\Bq w w') (fun i _=>ds.length-(intOf i).toNat)
 case atStart=>exact ⟨0,Nat.zero_le _,rfl,fun x hx=>absurd hx (Nat.not_lt_zero _),Below.refl _ _⟩
 case round=>
  obtain ⟨j,hj,rfl,HN,hbel⟩:=hrel
  by_cases hlt:j<ds.length
  ·obtain ⟨b,off,rfl,hlt0,hc⟩:=(HR.out _ hbel).get hlt
   obtain ⟨y0,y1,y2,y3,y4,y5,y6,y7⟩:=hc j hlt
   have e1:(0:Int)<=(j:Int):=by omega
   have e2:(j:Int)<(ds.length:Int):=by omega
   have hB:=hbel.size
   have HY:Hid (isOf cl ino (dat ds j)=true->At cl ino ds (j:Int)):=fun h=>Or.inr ⟨j,hlt,rfl,h,HN.out⟩
   have HM:Hid (isOf cl ino (dat ds j)=false->∀ y,y<j+1->isOf cl ino (dat ds y)=false):=fun h y hy=>by
    rcases Nat.lt_or_eq_of_le (Nat.le_of_lt_succ hy) with h1 | h1
    ·exact HN.out y h1
    ·rw[h1];exact h
   obtain ⟨d,ed⟩:∃ d,dat ds j=d:=⟨_,rfl⟩;obtain ⟨s,es⟩:∃ s,ss j=s:=⟨_,rfl⟩;rw[ed] at y0 y1 y2 y3 y4 y5 y6 y7 HY HM;rw[es] at y4 y6 y7;have hcl:=HC.out wr d s hbel;clear ed es hc HR HN HC
   cases hq:isOf cl ino d with
   | true=>
    rw[hq] at hcl HY HM;have HY':Hid (At cl ino ds (j:Int)):=HY.out rfl;clear HY HM hq
    go_wp2_with (go_at_call 115;refine hcl.mono ?_;rintro e w1 ⟨rfl,b1⟩)
    go_ret;exact ⟨⟨_,rfl,HY'.out⟩,hbel.trans (b1.mono hB)⟩
   | false=>
    rw[hq] at hcl HY HM;have HM':Hid (∀ y,y<j+1->isOf cl ino (dat ds y)=false):=HM.out rfl;clear HY HM hq
    go_wp2_with (go_at_call 115;refine hcl.mono ?_;rintro e w1 ⟨rfl,b1⟩)
    go_roundw
    case rel=>exact ⟨j+1,by omega,by go_num,HM',hbel.trans (b1.mono hB)⟩
    case measure=>simp[intOf];omega
  ·obtain rfl:j=ds.length:=by omega
   have HY:Hid (At cl ino ds (-1)):=Or.inl ⟨rfl,HN.out⟩;clear HC HR HN;go_wp2;go_ret;exact ⟨⟨_,rfl,HY.out⟩,hbel⟩
theorem hmf:∀ (fn:Fn) (first cap:Array Value) (w:World),(Instr.makeFunc fn first cap).run prog w=.ok (.func fn first cap) w:=fun _ _ _ _=>rfl
theorem loanPlace (a:Option Addr) (c:Nat) (ds:List Ln) (ss:Nat->Sl) (cl ino:Int) (w:World) (hn:ds.length<=1048576) (hR:Row w a ds ss) :
  Calls prog 85 #[.slice a ds.length c,Iv cl,Iv ino] w fun e w'=>(∃ x,e=.returned (Iv x)/\At cl ino ds x)/\Bq w w':=by
 have l1:Bq w ((w.alloc (.cells #[Iv cl] 3)).alloc (.cells #[Iv ino] 3)):=((Below.refl _ _).alloc (Nat.le_refl _) _).alloc (by simp) _;have k0:=(K0.blk_new [Iv cl] w 3).alloc (.cells #[Iv ino] 3);have k1:=K0.blk_at (B:=w.heap.size+1) [Iv ino] (w.alloc (.cells #[Iv cl] 3)) 3 (by simp);have hx:=indexFunc a c ds ss cl ino (w.heap.size+1) w.heap.size _ hn (hR.below l1) k1.c0 k0.c0 k1.lt k0.lt;have hm0:=hmf;clear hR k0 k1;go_enter func85,ntmps85
 go_wp2_with (go_at_call 114;refine hx.mono ?_;rintro e w1 ⟨⟨x,rfl,hA⟩,b1⟩)
 go_ret;exact ⟨⟨x,rfl,hA⟩,l1.trans (b1.mono l1.size)⟩
end LK
namespace AK
theorem idle (p q r:Option Addr) (w:World) :
  CallsD prog 81 #[.pointer p,.pointer q,.pointer r] .returning w fun e u' w'=>e=.returned (.tuple #[])/\u'=.returning/\w'=w:=by
 refine callsD_of_wpS func81 rfl fun c₀ cs hu=>?_
 apply wpS_seq
 apply wpS_region
 simp[wpOpsS,go_sem,recoverD,hu,ntmps81,Exit.thenS]
 apply wpS_seq
 apply wpS_region
 simp[wpOpsS,go_sem,Exit.thenS,Array.replicate];refine wpS_cond (t:=false) (by simp[Act.eval,Array.replicate]) ?_;simp only[Bool.false_eq_true,if_false];refine wpS_of_wp (wp_skip ?_);cases c₀
 simp_all [bodyPostS,results,results81]
theorem codeOf_nil (w:World):Calls prog 53 #[.nilIface] w (Rw (Iv 0) w):=by
 go_enter func53,ntmps53;go_wp2;go_ret;exact ⟨rfl,rfl⟩
end AK
end Go.Proofs.YtlejhfnjmkdobaaGreatDoor
