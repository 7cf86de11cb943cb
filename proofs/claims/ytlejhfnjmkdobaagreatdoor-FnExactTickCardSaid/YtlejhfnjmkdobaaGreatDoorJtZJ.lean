/- Joined texts. -/
import Derived.Test.YtlejhfnjmkdobaaGreatDoorJtZH
import Derived.Test.YtlejhfnjmkdobaaGreatDoorJtZI
set_option linter.unusedVariables false
set_option linter.unusedSimpArgs false
set_option maxRecDepth 10000
set_option maxHeartbeats 16000000
namespace Go.Proofs.YtlejhfnjmkdobaaGreatDoor
open ChangeShapes WideShapes ChangeAt RowKit
open Go.Proofs.Tryz
namespace KL
open N0 (Ln)
open N1 (Sl Lists Fit LB)
open N13 (Bx bx_new)
def pgAt (m:ByteArray) (d:Ln) (j:Nat):Bool:=decide (B2.part d.sav ((j:Int)*32) 32=B2.part m (d.pg.getD j 0*32) 32)
def frAt (m:ByteArray) (d:Ln) (j:Nat):Bool:=decide (O0.recd m (d.fr.getD j 0)=B4.zeros 16)
def lOk (m:ByteArray) (us:List Int) (d:Ln):Bool:=N0.loanOk d && (O0.isL m d.ino && (decide (d.rc=O0.recd m d.ino) && (N0.to (pgAt m d) d.pg.length && (N0.to (frAt m d) d.fr.length && decide ((Y6.srt (Y6.kept true d.po us)).length=0)))))
structure SB (w:World) (d:Ln) (s:Sl) (ai:Option Addr) (zn ci:Nat) (L I:Nat) (W:World):Prop where
 lb:LB L d s W
 ib:W.cell? ⟨I,3,none⟩=some (.slice ai zn ci)
 lt:I<W.heap.size
 bel:Bq w W
variable {w W W' : World} {d : Ln} {s : Sl} {ai : Option Addr} {zn ci L I : Nat}
theorem SB.below (h:SB w d s ai zn ci L I W) (hb:Bq W W'):SB w d s ai zn ci L I W':=⟨h.lb.below hb,(hb.cell (p:=⟨I,3,none⟩) h.lt).trans h.ib,Nat.lt_of_lt_of_le h.lt hb.size,h.bel.trans (hb.mono h.bel.size)⟩
theorem SB.drewN (h:SB w d s ai zn ci L I W) (n:Nat):SB w d s ai zn ci L I (W.drewN n):=h.below (K0.below_drewN (Below.refl _ _) n)
theorem SB.cells (h:SB w d s ai zn ci L I W):Ce W L 0 (Iv d.ino)/\Ce W L 1 (Iv d.cl)/\Ce W L 2 (Iv d.un)/\Ce W L 3 (.string d.rc)/\Ce W L 4 (.slice s.a1 d.pg.length s.c1)/\Ce W L 5 (.string d.sav)/\Ce W L 6 (.slice s.a2 d.po.length s.c2)/\Ce W L 7 (.slice s.a3 d.fr.length s.c3)/\Ce W I 3 (.slice ai zn ci):=⟨h.lb.c0,h.lb.c1,h.lb.c2,h.lb.c3,h.lb.c4,h.lb.c5,h.lb.c6,h.lb.c7,h.ib⟩
theorem l06LoanOk (m:ByteArray) (ua:Option Addr) (uc:Nat) (us:List Int) (d:Ln) (s:Sl) (w:World) (hm:m.size=768) (hF:Fit d s) (hpo:d.po.length<=1048576) (hfr:d.fr.length<=1048576) (hus:us.length<=1048576) (hR:Lists w d s) (ru:P0.Row w ua us) :
  Calls prog 39 #[.string m,.slice ua us.length uc,N1.val d s] w (Rb (.bool (lOk m us d)) w):=by
 have x0:=bx_new w d s
 have HL:Hid (∀ W,Bq w W->Lists W d s):=fun W hb=>hR.below hb
 have HLd:Hid (∀ W,Calls prog 61 #[.string m,Iv d.ino] W fun e w'=>∃ k o t a n c x,e=.returned (.tuple #[I0.val k o t a n c,.string x,.bool (O0.isL m d.ino)])/\Bq W w'/\(O0.isL m d.ino=true->n=(G0.gZ (O0.recd m d.ino)).length/\P0.Row w' a (G0.gZ (O0.recd m d.ino)))):=fun W=>(O3.spec_Load m d.ino W (by omega)).mono fun e w' ⟨a,c,he,ho,hc,hb⟩=>⟨_,_,_,a,_,c,_,he,hb,fun h=>by
  have h4:=(O0.l_yes h).2.2.2.1;rw[h4] at ho ⊢
  exact ⟨rfl,ho.row⟩⟩
 have HLo:Hid (∀ W,Bq w W->_):=fun W hb=>N11.spec_LoanOk d s W hF hpo hfr (hR.below hb)
 have HRc:Hid (∀ i W,_):=fun i W=>O1.l03Rec m i W (by omega)
 have HOn:Hid (∀ W,Bq w W->Calls prog 42 #[.slice s.a2 d.po.length s.c2,.slice ua us.length uc,.bool true] W fun e w'=>∃ a c,e=.returned (.slice a (Y6.srt (Y6.kept true d.po us)).length c)/\Bq W w'):=fun W hb=>(Y6.l05Only true s.a2 ua s.c2 uc d.po us W hpo (by omega) (hR.below hb).r2 (ru.below hb)).mono fun e w' ⟨a,c,he,_,_,hb⟩=>⟨a,c,he,hb⟩
 have hss:=hF.m5;clear hR hF ru;unfold lOk
 cases hok:N0.loanOk d with
 | false=>
  rw[hok] at HLo;clear hok;go_enter func39,ntmps39
  go_wp2_with (go_at_call 61;refine (HLd.out _).mono ?_;rintro e w1 ⟨kk,oo,tt,ai,zn,ci,xx,rfl,b1,hy⟩;have x1:=x0.below b1;have HY:Hid _:=hy;clear hy)
  have b2:=K0.below_new w1 (.cells (Iq kk oo tt ai zn ci) 96);have k2:=K0.blk_new [Iv kk,Iv oo,Iv tt,.slice ai zn ci] w1 96;have x2:=x1.below b2;have hb:SB w d s ai zn ci w.heap.size w1.heap.size (w1.alloc (.cells (Iq kk oo tt ai zn ci) 96)):=⟨x2.arg,k2.c3,k2.lt,x2.bel⟩;obtain ⟨L,hL⟩:∃ L,w.heap.size=L:=⟨_,rfl⟩;obtain ⟨I,hI⟩:∃ I,w1.heap.size=I:=⟨_,rfl⟩;obtain ⟨W2,hW2⟩:∃ W2,w1.alloc (.cells (Iq kk oo tt ai zn ci) 96)=W2:=⟨_,rfl⟩;rw[hI,hW2] at hb;simp only[hI,hW2]
  have hb1:SB w d s ai zn ci L I W2.drew:=by
   rw[<- hL];exact hb.drewN 1
  simp only[hL];have s1:=hb1.cells;clear hW2 hb x2 k2 b2 x1 b1 HY x0;refine wp_region_held (S:=fun W=>Ce W L 0 (Iv d.ino)/\Ce W L 1 (Iv d.cl)/\Ce W L 2 (Iv d.un)/\Ce W L 3 (.string d.rc)/\Ce W L 4 (.slice s.a1 d.pg.length s.c1)/\Ce W L 5 (.string d.sav)/\Ce W L 6 (.slice s.a2 d.po.length s.c2)/\Ce W L 7 (.slice s.a3 d.fr.length s.c3)/\Ce W I 3 (.slice ai zn ci)) (by kernel_rfl) ?_;refine BT.s 0 (N1.val d s) s1 ?_;refine Y0.one_callw (i:=1) (by kernel_rfl) rfl (by rfl) (.tmp 20) _ rfl (N1.val d s) (by rfl) (enters_of func68 (by kernel_rfl) rfl) ((HLo.out _ hb1.bel).mono ?_);rintro e w3 ⟨rfl,b3⟩;have hb3:=hb1.below b3;have s3:=hb3.cells;refine ⟨_,rfl,s3,?_⟩;simp only[BZ.z,Act.put,Nat.reduceAdd];refine BT.r 2 (.bool true) s3 ?_;refine BT.r 3 (.bool true) s3 ?_;refine BT.u 4 s3 ?_;refine BT.u 5 s3 ?_;refine BT.r 6 (.bool true) s3 ?_;refine BT.r 7 (.bool true) s3 ?_;refine BT.u 8 s3 ?_;refine BT.u 9 s3 ?_;refine BT.u 10 s3 ?_;refine BT.u 11 s3 ?_;refine BT.u 12 s3 ?_;refine BT.u 13 s3 ?_;refine BT.u 14 s3 ?_;refine BT.r 15 (.bool true) s3 ?_;refine BT.r 16 (.bool true) s3 ?_;refine BT.u 17 s3 ?_;refine BT.u 18 s3 ?_;refine BT.u 19 s3 ?_;refine BT.u 20 s3 ?_;refine BT.u 21 s3 ?_;refine BT.u 22 s3 ?_;refine BT.r 23 (.bool true) s3 ?_;refine wpAnyH_done (by kernel_rfl) ?_ _;go_wp2;go_ret;exact ⟨rfl,hb3.bel⟩
 | true=>
  rw[hok] at HLo;obtain ⟨-,-,hgz,hsv,-,-,hp6,hp4,hp2,hpp,hfi,-,-⟩:=N0.loanOk_is hok
  have hpg:∀ j,j<d.pg.length->5<=d.pg.getD j 0/\d.pg.getD j 0<=23:=fun j hj=>(N0.pagesOk_iff.1 hpp).1 _ (List.mem_append.2 (Or.inl (N0.getD_mem hj)))
  clear hok hpp hsv hfi
  cases hl:O0.isL m d.ino with
  | false=>
   rw[hl] at HLd;clear hl hgz;go_enter func39,ntmps39
   go_wp2_with (go_at_call 61;refine (HLd.out _).mono ?_;rintro e w1 ⟨kk,oo,tt,ai,zn,ci,xx,rfl,b1,hy⟩;have x1:=x0.below b1;have HY:Hid _:=hy;clear hy)
   have b2:=K0.below_new w1 (.cells (Iq kk oo tt ai zn ci) 96);have k2:=K0.blk_new [Iv kk,Iv oo,Iv tt,.slice ai zn ci] w1 96;have x2:=x1.below b2;have hb:SB w d s ai zn ci w.heap.size w1.heap.size (w1.alloc (.cells (Iq kk oo tt ai zn ci) 96)):=⟨x2.arg,k2.c3,k2.lt,x2.bel⟩;obtain ⟨L,hL⟩:∃ L,w.heap.size=L:=⟨_,rfl⟩;obtain ⟨I,hI⟩:∃ I,w1.heap.size=I:=⟨_,rfl⟩;obtain ⟨W2,hW2⟩:∃ W2,w1.alloc (.cells (Iq kk oo tt ai zn ci) 96)=W2:=⟨_,rfl⟩;rw[hI,hW2] at hb;simp only[hI,hW2]
   have hb1:SB w d s ai zn ci L I W2.drew:=by
    rw[<- hL];exact hb.drewN 1
   simp only[hL];have s1:=hb1.cells;clear hW2 hb x2 k2 b2 x1 b1 HY x0;refine wp_region_held (S:=fun W=>Ce W L 0 (Iv d.ino)/\Ce W L 1 (Iv d.cl)/\Ce W L 2 (Iv d.un)/\Ce W L 3 (.string d.rc)/\Ce W L 4 (.slice s.a1 d.pg.length s.c1)/\Ce W L 5 (.string d.sav)/\Ce W L 6 (.slice s.a2 d.po.length s.c2)/\Ce W L 7 (.slice s.a3 d.fr.length s.c3)/\Ce W I 3 (.slice ai zn ci)) (by kernel_rfl) ?_;refine BT.s 0 (N1.val d s) s1 ?_;refine Y0.one_callw (i:=1) (by kernel_rfl) rfl (by rfl) (.tmp 20) _ rfl (N1.val d s) (by rfl) (enters_of func68 (by kernel_rfl) rfl) ((HLo.out _ hb1.bel).mono ?_);rintro e w3 ⟨rfl,b3⟩;have hb3:=hb1.below b3;have s3:=hb3.cells;refine ⟨_,rfl,s3,?_⟩;simp only[BZ.z,Act.put,Nat.reduceAdd];refine BT.r 2 (.bool false) s3 ?_;refine BT.r 3 (.bool false) s3 ?_;refine BT.r 4 (.bool false) s3 ?_;refine BT.r 5 (.bool true) s3 ?_;refine BT.r 6 (.bool true) s3 ?_;refine BT.r 7 (.bool true) s3 ?_;refine BT.u 8 s3 ?_;refine BT.u 9 s3 ?_;refine BT.u 10 s3 ?_;refine BT.u 11 s3 ?_;refine BT.u 12 s3 ?_;refine BT.u 13 s3 ?_;refine BT.u 14 s3 ?_;refine BT.r 15 (.bool true) s3 ?_;refine BT.r 16 (.bool true) s3 ?_;refine BT.u 17 s3 ?_;refine BT.u 18 s3 ?_;refine BT.u 19 s3 ?_;refine BT.u 20 s3 ?_;refine BT.u 21 s3 ?_;refine BT.u 22 s3 ?_;refine BT.r 23 (.bool true) s3 ?_;refine wpAnyH_done (by kernel_rfl) ?_ _;go_wp2;go_ret;exact ⟨rfl,hb3.bel⟩
  | true=>
   rw[hl] at HLd;clear hl
   by_cases hrc:d.rc=O0.recd m d.ino
   rotate_left
   ·have e1:=KH.ne_list hrc
    rw[decide_eq_false hrc];clear hrc hgz;go_enter func39,ntmps39
    go_wp2_with (go_at_call 61;refine (HLd.out _).mono ?_;rintro e w1 ⟨kk,oo,tt,ai,zn,ci,xx,rfl,b1,hy⟩;have x1:=x0.below b1;have HY:Hid _:=hy;clear hy)
    have b2:=K0.below_new w1 (.cells (Iq kk oo tt ai zn ci) 96);have k2:=K0.blk_new [Iv kk,Iv oo,Iv tt,.slice ai zn ci] w1 96;have x2:=x1.below b2;have hb:SB w d s ai zn ci w.heap.size w1.heap.size (w1.alloc (.cells (Iq kk oo tt ai zn ci) 96)):=⟨x2.arg,k2.c3,k2.lt,x2.bel⟩;obtain ⟨L,hL⟩:∃ L,w.heap.size=L:=⟨_,rfl⟩;obtain ⟨I,hI⟩:∃ I,w1.heap.size=I:=⟨_,rfl⟩;obtain ⟨W2,hW2⟩:∃ W2,w1.alloc (.cells (Iq kk oo tt ai zn ci) 96)=W2:=⟨_,rfl⟩;rw[hI,hW2] at hb;simp only[hI,hW2]
    have hb1:SB w d s ai zn ci L I W2.drew:=by
     rw[<- hL];exact hb.drewN 1
    simp only[hL];have s1:=hb1.cells;clear hW2 hb x2 k2 b2 x1 b1 HY x0;refine wp_region_held (S:=fun W=>Ce W L 0 (Iv d.ino)/\Ce W L 1 (Iv d.cl)/\Ce W L 2 (Iv d.un)/\Ce W L 3 (.string d.rc)/\Ce W L 4 (.slice s.a1 d.pg.length s.c1)/\Ce W L 5 (.string d.sav)/\Ce W L 6 (.slice s.a2 d.po.length s.c2)/\Ce W L 7 (.slice s.a3 d.fr.length s.c3)/\Ce W I 3 (.slice ai zn ci)) (by kernel_rfl) ?_;refine BT.s 0 (N1.val d s) s1 ?_;refine Y0.one_callw (i:=1) (by kernel_rfl) rfl (by rfl) (.tmp 20) _ rfl (N1.val d s) (by rfl) (enters_of func68 (by kernel_rfl) rfl) ((HLo.out _ hb1.bel).mono ?_);rintro e w3 ⟨rfl,b3⟩;have hb3:=hb1.below b3;have s3:=hb3.cells;refine ⟨_,rfl,s3,?_⟩;simp only[BZ.z,Act.put,Nat.reduceAdd];refine BT.r 2 (.bool false) s3 ?_;refine BT.r 3 (.bool false) s3 ?_;refine BT.r 4 (.bool true) s3 ?_;refine BT.r 5 (.bool false) s3 ?_;refine BT.r 6 (.bool false) s3 ?_;refine BT.r 7 (.bool false) s3 ?_;refine BT.s 8 (Pv L 3) s3 ?_;refine BT.s 9 (.string d.rc) s3 ?_;refine BT.r 10 (.string m) s3 ?_;refine BT.s 11 (Pv L 0) s3 ?_;refine BT.s 12 (Iv d.ino) s3 ?_;refine Y0.one_call2w (i:=13) (by kernel_rfl) rfl (by rfl) (.tmp 30) (.tmp 32) _ rfl (.string m) (Iv d.ino) (by rfl) (by rfl) (enters_of func69 (by kernel_rfl) rfl) ((HRc.out _ _).mono ?_);rintro e w4 ⟨rfl,rfl⟩;refine ⟨_,rfl,s3,?_⟩;simp only[BZ.z,Act.put,Nat.reduceAdd];refine BT.s 14 (.bool true) s3 ?_;refine BT.r 15 (.bool true) s3 ?_;refine BT.r 16 (.bool true) s3 ?_;refine BT.u 17 s3 ?_
    refine BT.u 18 s3 ?_;refine BT.u 19 s3 ?_;refine BT.u 20 s3 ?_;refine BT.u 21 s3 ?_;refine BT.u 22 s3 ?_;refine BT.r 23 (.bool true) s3 ?_;refine wpAnyH_done (by kernel_rfl) ?_ _;go_wp2;go_ret;exact ⟨rfl,hb3.bel⟩
   ·have e1:=KH.eq_list hrc
    rw[decide_eq_true hrc];have HRC:Hid (d.rc=O0.recd m d.ino):=hrc;have HGZ:Hid (G0.gZ d.rc=d.pg):=hgz;clear hrc hgz;go_enter func39,ntmps39
    go_wp2_with (go_at_call 61;refine (HLd.out _).mono ?_;rintro e w1 ⟨kk,oo,tt,ai,zn,ci,xx,rfl,b1,hy⟩;have x1:=x0.below b1;have HY:Hid _:=hy;clear hy)
    have b2:=K0.below_new w1 (.cells (Iq kk oo tt ai zn ci) 96);have k2:=K0.blk_new [Iv kk,Iv oo,Iv tt,.slice ai zn ci] w1 96;have x2:=x1.below b2;have hb:SB w d s ai zn ci w.heap.size w1.heap.size (w1.alloc (.cells (Iq kk oo tt ai zn ci) 96)):=⟨x2.arg,k2.c3,k2.lt,x2.bel⟩;obtain ⟨L,hL⟩:∃ L,w.heap.size=L:=⟨_,rfl⟩;obtain ⟨I,hI⟩:∃ I,w1.heap.size=I:=⟨_,rfl⟩;obtain ⟨W2,hW2⟩:∃ W2,w1.alloc (.cells (Iq kk oo tt ai zn ci) 96)=W2:=⟨_,rfl⟩;obtain ⟨hzn,hrz⟩:=HY.out (by trivial);have hrc:=HRC.out;have hgz:=HGZ.out;have hrz2:=hrz.below b2;rw[hW2] at hrz2
    have HSa:Hid (∀ W,Bq w W->Bq W2 W->Calls prog 70 #[.slice ai zn ci,.slice s.a1 d.pg.length s.c1] W fun e w'=>e=.returned (.bool true)/\∃ n,w'=W.drewN n):=fun W h1 h2=>by
     have h:=N2.same ai s.a1 ci s.c1 (G0.gZ (O0.recd m d.ino)) d.pg W (by rw[<- hrc,hgz];omega) (by omega) (hrz2.below h2) (HL.out W h1).r1;rw[<- hzn,decide_eq_true (show G0.gZ (O0.recd m d.ino)=d.pg by rw[<- hrc];exact hgz)] at h;exact h
    clear hzn hrz hrz2 hrc hgz;rw[hI,hW2] at hb;simp only[hI,hW2]
    have hb1:SB w d s ai zn ci L I W2.drew:=by
     rw[<- hL];exact hb.drewN 1
    simp only[hL];have s1:=hb1.cells;clear hW2 hb x2 k2 b2 x1 b1 HY x0;refine wp_region_held (S:=fun W=>Ce W L 0 (Iv d.ino)/\Ce W L 1 (Iv d.cl)/\Ce W L 2 (Iv d.un)/\Ce W L 3 (.string d.rc)/\Ce W L 4 (.slice s.a1 d.pg.length s.c1)/\Ce W L 5 (.string d.sav)/\Ce W L 6 (.slice s.a2 d.po.length s.c2)/\Ce W L 7 (.slice s.a3 d.fr.length s.c3)/\Ce W I 3 (.slice ai zn ci)) (by kernel_rfl) ?_;refine BT.s 0 (N1.val d s) s1 ?_;refine Y0.one_callw (i:=1) (by kernel_rfl) rfl (by rfl) (.tmp 20) _ rfl (N1.val d s) (by rfl) (enters_of func68 (by kernel_rfl) rfl) ((HLo.out _ hb1.bel).mono ?_);rintro e w3 ⟨rfl,b3⟩;have hb3:=hb1.below b3;have s3:=hb3.cells;refine ⟨_,rfl,s3,?_⟩;simp only[BZ.z,Act.put,Nat.reduceAdd];refine BT.r 2 (.bool false) s3 ?_;refine BT.r 3 (.bool false) s3 ?_;refine BT.r 4 (.bool true) s3 ?_;refine BT.r 5 (.bool false) s3 ?_;refine BT.r 6 (.bool false) s3 ?_;refine BT.r 7 (.bool false) s3 ?_;refine BT.s 8 (Pv L 3) s3 ?_;refine BT.s 9 (.string d.rc) s3 ?_;refine BT.r 10 (.string m) s3 ?_;refine BT.s 11 (Pv L 0) s3 ?_;refine BT.s 12 (Iv d.ino) s3 ?_;refine Y0.one_call2w (i:=13) (by kernel_rfl) rfl (by rfl) (.tmp 30) (.tmp 32) _ rfl (.string m) (Iv d.ino) (by rfl) (by rfl) (enters_of func69 (by kernel_rfl) rfl) ((HRc.out _ _).mono ?_);rintro e w4 ⟨rfl,rfl⟩;refine ⟨_,rfl,s3,?_⟩;simp only[BZ.z,Act.put,Nat.reduceAdd];refine BT.s 14 (.bool false) s3 ?_;refine BT.r 15 (.bool false) s3 ?_;refine BT.r 16 (.bool false) s3 ?_
    refine BT.s 17 (Pv I 3) s3 ?_;refine BT.s 18 (.slice ai zn ci) s3 ?_;refine BT.s 19 (Pv L 4) s3 ?_;refine BT.s 20 (.slice s.a1 d.pg.length s.c1) s3 ?_
    refine Y0.one_call2w (i:=21) (by kernel_rfl) rfl (by rfl) (.tmp 38) (.tmp 40) _ rfl (.slice ai zn ci) (.slice s.a1 d.pg.length s.c1) (by rfl) (by rfl) (enters_of func70 (by kernel_rfl) rfl) ((HSa.out _ (hb1.below b3).bel (show Bq W2 _ from ⟨b3.os,b3.tape,b3.output,b3.size,b3.block⟩)).mono ?_)
    rintro e w5 ⟨rfl,n5,rfl⟩;have hb5:=hb3.drewN n5;have s5:=hb5.cells;refine ⟨_,rfl,s5,?_⟩;simp only[BZ.z,Act.put,Nat.reduceAdd];refine BT.r 22 (.bool false) s5 ?_;refine BT.r 23 (.bool false) s5 ?_;refine wpAnyH_done (by kernel_rfl) ?_ _;clear s1 s3 s5 hb3 hb1 b3 HSa HLd HLo e1 HRC HGZ;go_wp2
    go_loopw [10] (fun i w'=>∃ k:Nat,k<=d.pg.length/\N0.to (pgAt m d) k=true/\i=Iv k/\SB w d s ai zn ci L I w') (fun i _=>d.pg.length-(intOf i).toNat)
    case atStart=>exact ⟨0,Nat.zero_le _,rfl,rfl,hb5⟩
    case round=>
     obtain ⟨k,hk,hto,rfl,xr⟩:=hrel;clear hb5;have c4:=xr.lb.c4;have c5:=xr.lb.c5
     by_cases hlt:k<d.pg.length
     ·obtain ⟨b,off,hab,_,hcell⟩:=(HL.out _ xr.bel).r1.get hlt
      have y1:=hcell k hlt;have hz:=hpg k hlt;have hat:pgAt m d k=decide (B2.part d.sav ((k:Int)*32) 32=B2.part m (d.pg.getD k 0*32) 32):=rfl;obtain ⟨z,ez⟩:∃ z,d.pg.getD k 0=z:=⟨_,rfl⟩;rw[ez] at y1 hz hat;rw[hab] at c4
      have e1:(0:Int)<=(k:Int):=by omega
      have e2:(k:Int)<(d.pg.length:Int):=by omega
      have hp1:Hid (∀ W,Calls prog 71 #[.string d.sav,Iv (k:Int)] W (Rw (.string (B2.part d.sav ((k:Int)*32) 32)) W)):=fun W=>N13.l03Page0 _ _ _ hss (by omega)
      have hp2:Hid (∀ W,_):=fun W=>O1.l03Page m z W (by omega) hz.1 hz.2
      clear hab ez hcell
      by_cases heq:B2.part d.sav ((k:Int)*32) 32=B2.part m (z*32) 32
      ·have e3:((B2.part d.sav ((k:Int)*32) 32).toList == (B2.part m (z*32) 32).toList)=true:=by rw[heq];simp
       rw[decide_eq_true heq] at hat;have HT:Hid (N0.to (pgAt m d) (k+1)=true):=N0.to_step hto hat;clear hat heq;go_wp2
       go_quiet ((first
        | (go_at_call 71;exact Calls.quiet_of_same (hp1.out _))
        | (go_at_call 71;exact Calls.quiet_of_same (hp2.out _))))
       have x5:=xr.drewN nq;go_wp2;refine ⟨⟨k+1,by omega,HT.out,by go_num,x5⟩,?_⟩;simp[intOf];omega
      ·have e3:((B2.part d.sav ((k:Int)*32) 32).toList == (B2.part m (z*32) 32).toList)=false:=beq_eq_false_iff_ne.2 (KH.ne_list heq)
       rw[decide_eq_false heq] at hat;have HT:Hid (N0.to (pgAt m d) d.pg.length=false):=N0.to_bad hlt hat;clear hat heq;go_wp2
       go_quiet ((first
        | (go_at_call 71;exact Calls.quiet_of_same (hp1.out _))
        | (go_at_call 71;exact Calls.quiet_of_same (hp2.out _))))
       have x5:=xr.drewN nq;go_wp2;go_ret;exact ⟨by rw[HT.out];rfl,x5.bel⟩
     ·obtain rfl:k=d.pg.length:=by omega
      have HTO:Hid (N0.to (pgAt m d) d.pg.length=true):=hto;clear c5 hto;go_wp2
      go_loopw [11] (fun i w'=>∃ k:Nat,k<=d.fr.length/\N0.to (frAt m d) k=true/\i=Iv k/\SB w d s ai zn ci L I w') (fun i _=>d.fr.length-(intOf i).toNat)
      case atStart=>exact ⟨0,Nat.zero_le _,rfl,rfl,xr⟩
      case round=>
       rename_i wr2
       obtain ⟨j,hj,htf,rfl,xq⟩:=hrel;clear xr c4;have c7:=xq.lb.c7
       by_cases hlt2:j<d.fr.length
       ·obtain ⟨b,off,hab,_,hcell⟩:=(HL.out _ xq.bel).r3.get hlt2
        have y1:=hcell j hlt2;have hat:frAt m d j=decide (O0.recd m (d.fr.getD j 0)=B4.zeros 16):=rfl;obtain ⟨z,ez⟩:∃ z,d.fr.getD j 0=z:=⟨_,rfl⟩;rw[ez] at y1 hat;rw[hab] at c7
        have e1:(0:Int)<=(j:Int):=by omega
        have e2:(j:Int)<(d.fr.length:Int):=by omega
        clear hab ez hcell
        by_cases heq:O0.recd m z=B4.zeros 16
        ·have e3:((O0.recd m z).toList == (B4.zeros 16).toList)=true:=by rw[heq];simp
         rw[decide_eq_true heq] at hat;have HT:Hid (N0.to (frAt m d) (j+1)=true):=N0.to_step htf hat;clear hat heq
         go_wp2_with (first
          | (go_at_call 69;refine (HRc.out _ _).mono ?_;rintro e w' ⟨rfl,rfl⟩)
          | (go_at_call 47;refine (B4.spec_Zeros _ _).mono ?_;rintro e w' ⟨rfl,rfl⟩))
         refine ⟨⟨j+1,by omega,HT.out,by go_num,xq⟩,?_⟩;simp[intOf];omega
        ·have e3:((O0.recd m z).toList == (B4.zeros 16).toList)=false:=beq_eq_false_iff_ne.2 (KH.ne_list heq)
         rw[decide_eq_false heq] at hat;have HT:Hid (N0.to (frAt m d) d.fr.length=false):=N0.to_bad hlt2 hat;clear hat heq
         go_wp2_with (first
          | (go_at_call 69;refine (HRc.out _ _).mono ?_;rintro e w' ⟨rfl,rfl⟩)
          | (go_at_call 47;refine (B4.spec_Zeros _ _).mono ?_;rintro e w' ⟨rfl,rfl⟩))
         go_ret;exact ⟨by rw[HT.out,HTO.out];rfl,xq.bel⟩
       ·obtain rfl:j=d.fr.length:=by omega
        have HTF:Hid (N0.to (frAt m d) d.fr.length=true):=htf;clear htf;have c6:=xq.lb.c6
        go_wp2_with (go_at_call 42;refine (HOn.out _ xq.bel).mono ?_;rintro e w6 ⟨a6,c6',rfl,b6⟩)
        go_ret;refine ⟨?_,xq.bel.trans (b6.mono xq.bel.size)⟩;rw[HTF.out,HTO.out]
        have hd:((((Y6.srt (Y6.kept true d.po us)).length:Nat):Int) == 0)=decide ((Y6.srt (Y6.kept true d.po us)).length=0):=by
         by_cases h0:(Y6.srt (Y6.kept true d.po us)).length=0
         ·rw[decide_eq_true h0,h0]
          rfl
         ·rw[decide_eq_false h0]
          exact beq_eq_false_iff_ne.2 (by omega)
        rw[<- hd];rfl
end KL
end Go.Proofs.YtlejhfnjmkdobaaGreatDoor
