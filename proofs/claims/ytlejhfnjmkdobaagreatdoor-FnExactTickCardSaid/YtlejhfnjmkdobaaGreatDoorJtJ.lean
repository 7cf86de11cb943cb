/- Joined texts. -/
import Derived.Test.YtlejhfnjmkdobaaGreatDoorJtI
set_option linter.unusedVariables false
set_option linter.unusedSimpArgs false
set_option maxRecDepth 10000
set_option maxHeartbeats 16000000
namespace Go.Proofs.YtlejhfnjmkdobaaGreatDoor
open ChangeShapes WideShapes ChangeAt RowKit
open Go.Proofs.Tryz
namespace N10
open N0 (Ln)
open N1 (Sl Lists Fit LB lb_new)
open P1 (ret_bool quiet_bool)
theorem impl_LoanOk (d:Ln) (s:Sl) (w:World) (hF:Fit d s) (hpo:d.po.length<=1048576) (hfr:d.fr.length<=1048576) (hR:Lists w d s) :
  Calls prog 121 #[N1.val d s] w (Rb (.bool (N0.loanOk d)) w):=by
 have hB:=K0.below_new w (.cells (N1.Lc d s) 46)
 have HC:Hid (Calls prog 159 #[N1.val d s] (w.alloc (.cells (N1.Lc d s) 46)) fun e w'=>∃ (k o t:Int) (a:Option Addr) (n c:Nat) (ae:Option Addr) (ne ce:Nat) (d':Ln) (s':Sl),e=.returned (.tuple #[N7.tv k o t a n c ae ne ce d' s',.bool (N0.loanOk d)])/\Bq (w.alloc (.cells (N1.Lc d s) 46)) w'):=(N9.readLoan d s _ hF hpo hfr (hR.alloc _)).mono fun e w' ⟨k,o,t,a,n,c,ae,ne,ce,d',s',he,hb,_⟩=>⟨k,o,t,a,n,c,ae,ne,ce,d',s',he,hb⟩
 clear hR hF;go_enter func121,ntmps121
 go_wp2_with (go_at_call 159;refine HC.out.mono ?_;rintro e w1 ⟨k,o,t,a,n,c,ae,ne,ce,d',s',rfl,b1⟩)
 go_ret;exact ⟨rfl,(hB.trans (b1.mono hB.size)).alloc (Nat.le_trans hB.size b1.size) _⟩
theorem first_cases (d:Ln) :
  (G0.isI d.rc=false/\N0.sFirst d=false)\/(G0.isI d.rc=true/\(G0.gK d.rc == 0)=true/\N0.sFirst d=false)\/
  (G0.isI d.rc=true/\(G0.gK d.rc == 0)=false/\B1.inB d.ino 0 7=false/\N0.sFirst d=false)\/
  (G0.isI d.rc=true/\(G0.gK d.rc == 0)=false/\B1.inB d.ino 0 7=true/\B1.inB d.cl 0 8=false/\N0.sFirst d=false)\/
  (G0.isI d.rc=true/\(G0.gK d.rc == 0)=false/\B1.inB d.ino 0 7=true/\B1.inB d.cl 0 8=true/\d.un<0/\N0.sFirst d=false)\/
  (G0.isI d.rc=true/\(G0.gK d.rc == 0)=false/\B1.inB d.ino 0 7=true/\B1.inB d.cl 0 8=true/\decide (d.un<0)=false/\decide (G0.gZ d.rc=d.pg)=false/\N0.sFirst d=false)\/
  (G0.isI d.rc=true/\(G0.gK d.rc == 0)=false/\B1.inB d.ino 0 7=true/\B1.inB d.cl 0 8=true/\decide (d.un<0)=false/\decide (G0.gZ d.rc=d.pg)=true/\((d.sav.size:Int) != (d.pg.length:Int)*32)=true/\N0.sFirst d=false)\/
  (G0.isI d.rc=true/\(G0.gK d.rc == 0)=false/\B1.inB d.ino 0 7=true/\B1.inB d.cl 0 8=true/\decide (d.un<0)=false/\decide (G0.gZ d.rc=d.pg)=true/\((d.sav.size:Int) != (d.pg.length:Int)*32)=false/\N0.sFirst d=true):=by
 unfold N0.sFirst
 cases hI:G0.isI d.rc with
 | false=>exact Or.inl ⟨rfl,rfl⟩
 | true=>
  right
  by_cases h0:G0.gK d.rc=0
  ·left
   exact ⟨rfl,by simpa using h0,by rw[decide_eq_true h0];rfl⟩
  ·right
   have h0':(G0.gK d.rc == 0)=false:=by simpa using h0
   rw[decide_eq_false h0,h0']
   cases h1:B1.inB d.ino 0 7 with
   | false=>exact Or.inl ⟨rfl,rfl,rfl,rfl⟩
   | true=>
    right
    cases h2:B1.inB d.cl 0 8 with
    | false=>exact Or.inl ⟨rfl,rfl,rfl,rfl,rfl⟩
    | true=>
     right
     by_cases h3:d.un<0
     ·exact Or.inl ⟨rfl,rfl,rfl,rfl,h3,by rw[decide_eq_true h3];rfl⟩
     ·right
      rw[decide_eq_false h3]
      by_cases hz:G0.gZ d.rc=d.pg
      ·right
       rw[decide_eq_true hz]
       by_cases hs:d.sav.size=d.pg.length*32
       ·right
        exact ⟨rfl,rfl,rfl,rfl,rfl,rfl,by simp;omega,by rw[decide_eq_true hs];rfl⟩
       ·left
        exact ⟨rfl,rfl,rfl,rfl,rfl,rfl,by simp;omega,by rw[decide_eq_false hs];rfl⟩
      ·left
       rw[decide_eq_false hz];exact ⟨rfl,rfl,rfl,rfl,rfl,rfl,rfl⟩
theorem last_cases (d:Ln) (K:Int) (hK:G0.gK d.rc=K) :
  (N0.up d.po 5 23=false/\N0.sLast d=false)\/(N0.up d.po 5 23=true/\decide ((d.po.length:Int)<=4)=false/\N0.sLast d=false)\/
  (N0.up d.po 5 23=true/\(d.po.length:Int)<=4/\N0.up d.fr 1 7=false/\N0.sLast d=false)\/
  (N0.up d.po 5 23=true/\(d.po.length:Int)<=4/\N0.up d.fr 1 7=true/\decide ((d.fr.length:Int)<=2)=false/\N0.sLast d=false)\/
  (N0.up d.po 5 23=true/\(d.po.length:Int)<=4/\N0.up d.fr 1 7=true/\(d.fr.length:Int)<=2/\P0.has d.fr d.ino=true/\N0.sLast d=false)\/
  (N0.up d.po 5 23=true/\(d.po.length:Int)<=4/\N0.up d.fr 1 7=true/\(d.fr.length:Int)<=2/\P0.has d.fr d.ino=false/\(K == 2)=true/\N0.sLast d=true)\/
  (N0.up d.po 5 23=true/\(d.po.length:Int)<=4/\N0.up d.fr 1 7=true/\(d.fr.length:Int)<=2/\P0.has d.fr d.ino=false/\(K == 2)=false/\N0.sLast d=((d.fr.length:Int) == 0)):=by
 unfold N0.sLast;rw[hK]
 cases h1:N0.up d.po 5 23 with
 | false=>exact Or.inl ⟨rfl,rfl⟩
 | true=>
  right
  by_cases h2:d.po.length<=4
  ·right
   rw[decide_eq_true h2]
   cases h3:N0.up d.fr 1 7 with
   | false=>exact Or.inl ⟨rfl,by omega,rfl,rfl⟩
   | true=>
    right
    by_cases h4:d.fr.length<=2
    ·right
     rw[decide_eq_true h4]
     cases h5:P0.has d.fr d.ino with
     | true=>exact Or.inl ⟨rfl,by omega,rfl,by omega,rfl,rfl⟩
     | false=>
      right
      by_cases h6:K=2
      ·exact Or.inl ⟨rfl,by omega,rfl,by omega,rfl,by simpa using h6,by rw[decide_eq_true h6];rfl⟩
      ·refine Or.inr ⟨rfl,by omega,rfl,by omega,rfl,by simpa using h6,?_⟩
       rw[decide_eq_false h6]
       by_cases h7:d.fr.length=0
       ·simp[h7]
       ·rw[decide_eq_false h7]
        have:((d.fr.length:Int) == 0)=false:=by simp;intro e;exact h7 (by rw[e];rfl)
        rw[this];rfl
    ·left
     rw[decide_eq_false h4];exact ⟨rfl,by omega,rfl,by simp;omega,rfl⟩
  ·left
   rw[decide_eq_false h2];exact ⟨rfl,by simp;omega,rfl⟩
structure SP (w:World) (d:Ln) (s:Sl) (k o t:Int) (a:Option Addr) (n c B:Nat) (W:World):Prop where
 arg:LB w.heap.size d s W
 nb:K0.Blk B (I0.vals k o t a n c) W
 bel:Bq w W
variable {w W W' : World} {d : Ln} {s : Sl} {k o t : Int} {a : Option Addr} {n c B : Nat}
theorem SP.below (h:SP w d s k o t a n c B W) (hb:Bq W W'):SP w d s k o t a n c B W':=⟨h.arg.below hb,h.nb.below hb,h.bel.trans (hb.mono h.bel.size)⟩
theorem SP.drewN (h:SP w d s k o t a n c B W) (m:Nat):SP w d s k o t a n c B (W.drewN m):=⟨⟨h.arg.b.drewN m⟩,h.nb.drewN m,K0.below_drewN h.bel m⟩
abbrev w0 (w:World) (d:Ln) (s:Sl):World:=w.alloc (.cells #[.int .i64 d.ino,.int .i64 d.cl,.int .i64 d.un,.string d.rc,.slice s.a1 d.pg.length s.c1,.string d.sav,.slice s.a2 d.po.length s.c2,.slice s.a3 d.fr.length s.c3] 46)
theorem sp_new (hb:Bq (w0 w d s) W) :
    SP w d s k o t a n c W.heap.size (W.alloc (.cells (Iq k o t a n c) 96)):=
  ⟨⟨((K0.blk_new (N1.vals d s) w 46).below hb).alloc _⟩,K0.blk_new (I0.vals k o t a n c) W 96,
   ((K0.below_new w _).trans (hb.mono (K0.below_new w _).size)).alloc (Nat.le_trans (K0.below_new w _).size hb.size) _⟩
theorem sOk_first {d:Ln} (h:N0.sFirst d=false):N0.loanOk d=false:=by rw[<- N0.sOk_eq,N0.sOk,h];rfl
theorem sOk_ap {d:Ln} (h:N0.apart d.pg d.po=false):N0.loanOk d=false:=by rw[<- N0.sOk_eq,N0.sOk,h,Bool.false_and,Bool.and_false]
theorem sOk_dir {d:Ln} (h:N0.sDir d=false):N0.loanOk d=false:=by rw[<- N0.sOk_eq,N0.sOk,h,Bool.false_and,Bool.and_false,Bool.and_false]
theorem sOk_last {d:Ln} (h1:N0.sFirst d=true) (h2:N0.apart d.pg d.po=true) (h3:N0.sDir d=true):N0.loanOk d=N0.sLast d:=by rw[<- N0.sOk_eq,N0.sOk,h1,h2,h3];rfl
end N10
namespace N11
open N0 (Ln)
open N1 (Sl Lists Fit LB lb_new)
open N10 (SP sp_new first_cases last_cases)
open P1 (ret_bool quiet_bool)
theorem wf_of (n:Int) (h0 : -9223372036854775808<=n) (h1:n<=9223372036854775807):(Lit.int .i64 n).wf=true:=by
 simp[Lit.wf,IntKind.min,IntKind.max,IntKind.signed,IntKind.bits];omega
theorem spec_LoanOk (d:Ln) (s:Sl) (w:World) (hF:Fit d s) (hpo:d.po.length<=1048576) (hfr:d.fr.length<=1048576) (hR:Lists w d s) :
    Calls prog 68 #[N1.val d s] w (Rb (.bool (N0.loanOk d)) w):=by
  have hG:Hid (∀ W,_):=fun W=>G4.spec_GetInode d.rc W hF.m4
  have HL:Hid (∀ W,Bq w W->Lists W d s):=fun W hb=>hR.below hb
  have hpl:d.pg.length<=281474976710656:=hF.p1;have hsl:=hF.m5
  have hsm:d.sav.size<=maxLen:=by unfold maxLen;omega
  have hA:Hid (∀ W e w',G3.Ans d.rc W e w'->∃ a c,e=.returned (.tuple #[I0.val (G0.gK d.rc) (G0.gO d.rc) (G0.gS d.rc) a (G0.gZ d.rc).length c,.bool (G0.isI d.rc)])/\J0.Own W.heap.size w' a (G0.gZ d.rc)/\(G0.gZ d.rc).length<=c/\Bq W w'):=fun W e w' h=>h
  have hzl:(G0.gZ d.rc).length<=281474976710656:=by
    unfold G0.gZ
    split
    · rw[G0.pgs_length];have:=G0.cnt_le d.rc;omega
    · exact Nat.zero_le _
  have hsb:G0.isI d.rc=true->-9223372036854775808<=G0.gS d.rc/\G0.gS d.rc<=9223372036854775807:=fun h=>by have:=O0.got h;omega
  have hcase:=first_cases d;have hD0:N0.sDir d=(!decide (G0.gK d.rc=2) || V0.isD (B2.part d.sav 0 (G0.gS d.rc))):=rfl;have hlast:=last_cases d (G0.gK d.rc) rfl
  have hgd:Hid (∀ W,Calls prog 93 #[.string (B2.part d.sav 0 (G0.gS d.rc))] W (V1.Ans (B2.part d.sav 0 (G0.gS d.rc)) W)):=fun W=>V3.spec_GetDir _ _ (Nat.le_trans (B2.part_size _ _ _) hF.m5)
  obtain ⟨K,hK⟩:∃ K,G0.gK d.rc=K:=⟨_,rfl⟩;obtain ⟨O,hO⟩:∃ O,G0.gO d.rc=O:=⟨_,rfl⟩;obtain ⟨S,hS⟩:∃ S,G0.gS d.rc=S:=⟨_,rfl⟩;obtain ⟨Z,hZ⟩:∃ Z,G0.gZ d.rc=Z:=⟨_,rfl⟩;rw[hK,hZ] at hcase;rw[hK] at hlast;rw[hK,hO,hS,hZ] at hA;rw[hZ] at hzl;rw[hS] at hsb hgd;rw[hS,hK] at hD0
  have hpt:Hid (G0.isI d.rc=true->∀ W,Calls prog 58 #[.string d.sav,Iv 0,Iv S] W (Rw (.string (B2.part d.sav 0 S)) W)):=fun h W=>B2.spec_Part _ _ _ _ hsm (by decide) (wf_of _ (hsb h).1 (hsb h).2)
  obtain ⟨P,hP⟩:∃ P,B2.part d.sav 0 S=P:=⟨_,rfl⟩;rw[hP] at hgd hD0 hpt
  have HD:Hid (∀ W e w',V1.Ans P W e w'->∃ a c,e=.returned (.tuple #[.slice a (V0.dE P).length c,.bool (V0.isD P)])/\Bq W w'):=fun W e w' ⟨a,c,he,_,_,hb⟩=>⟨a,c,he,hb⟩
  clear hK hO hS hZ hP hR hF hsb hsm
  rcases hcase with ⟨gI,hp⟩ | ⟨gI,g0,hp⟩ | ⟨gI,g0,g1,hp⟩ | ⟨gI,g0,g1,g2,hp⟩ | ⟨gI,g0,g1,g2,g3,hp⟩ | ⟨gI,g0,g1,g2,g3,gz,hp⟩ | ⟨gI,g0,g1,g2,g3,gz,gs,hp⟩ | ⟨gI,g0,g1,g2,g3,gz,gs,hp⟩
  · rw[gI] at hA
    rw[N10.sOk_first hp];clear gI hlast hD0 hp hpt hgd HD;go_enter func68,ntmps68
    go_wp2_with (first
      | (go_at_call 92;refine (hG.out _).mono ?_;intro e w1 hans;obtain ⟨a,c,rfl,ho,hc,b1⟩:=hA.out _ _ _ hans;clear hans;have p1:=sp_new (k:=K) (o:=O) (t:=S) (a:=a) (n:=Z.length) (c:=c) b1;have x0:=p1.nb.c0;have x3:=p1.nb.c3;have c0:=p1.arg.c0;have c1:=p1.arg.c1;have c2:=p1.arg.c2;have c4:=p1.arg.c4;have c5:=p1.arg.c5;have r1:=ho.row.alloc (.cells (Iq K O S a Z.length c) 96);have r2:=(HL.out _ p1.bel).r1)
      | (go_at_call 32;refine (B1.l01In_any _ _ _ _).mono ?_;rintro e w' ⟨rfl,rfl⟩))
    go_ret;exact ⟨rfl,p1.bel⟩
  · rw[gI] at hA
    rw[N10.sOk_first hp];clear gI hlast hD0 hp hpt hgd HD;go_enter func68,ntmps68
    go_wp2_with (first
      | (go_at_call 92;refine (hG.out _).mono ?_;intro e w1 hans;obtain ⟨a,c,rfl,ho,hc,b1⟩:=hA.out _ _ _ hans;clear hans;have p1:=sp_new (k:=K) (o:=O) (t:=S) (a:=a) (n:=Z.length) (c:=c) b1;have x0:=p1.nb.c0;have x3:=p1.nb.c3;have c0:=p1.arg.c0;have c1:=p1.arg.c1;have c2:=p1.arg.c2;have c4:=p1.arg.c4;have c5:=p1.arg.c5;have r1:=ho.row.alloc (.cells (Iq K O S a Z.length c) 96);have r2:=(HL.out _ p1.bel).r1)
      | (go_at_call 32;refine (B1.l01In_any _ _ _ _).mono ?_;rintro e w' ⟨rfl,rfl⟩))
    go_ret;exact ⟨rfl,p1.bel⟩
  · rw[gI] at hA
    rw[N10.sOk_first hp];clear gI hlast hD0 hp hpt hgd HD;go_enter func68,ntmps68
    go_wp2_with (first
      | (go_at_call 92;refine (hG.out _).mono ?_;intro e w1 hans;obtain ⟨a,c,rfl,ho,hc,b1⟩:=hA.out _ _ _ hans;clear hans;have p1:=sp_new (k:=K) (o:=O) (t:=S) (a:=a) (n:=Z.length) (c:=c) b1;have x0:=p1.nb.c0;have x3:=p1.nb.c3;have c0:=p1.arg.c0;have c1:=p1.arg.c1;have c2:=p1.arg.c2;have c4:=p1.arg.c4;have c5:=p1.arg.c5;have r1:=ho.row.alloc (.cells (Iq K O S a Z.length c) 96);have r2:=(HL.out _ p1.bel).r1)
      | (go_at_call 32;refine (B1.l01In_any _ _ _ _).mono ?_;rintro e w' ⟨rfl,rfl⟩))
    go_ret;exact ⟨rfl,p1.bel⟩
  · rw[gI] at hA
    rw[N10.sOk_first hp];clear gI hlast hD0 hp hpt hgd HD;go_enter func68,ntmps68
    go_wp2_with (first
      | (go_at_call 92;refine (hG.out _).mono ?_;intro e w1 hans;obtain ⟨a,c,rfl,ho,hc,b1⟩:=hA.out _ _ _ hans;clear hans;have p1:=sp_new (k:=K) (o:=O) (t:=S) (a:=a) (n:=Z.length) (c:=c) b1;have x0:=p1.nb.c0;have x3:=p1.nb.c3;have c0:=p1.arg.c0;have c1:=p1.arg.c1;have c2:=p1.arg.c2;have c4:=p1.arg.c4;have c5:=p1.arg.c5;have r1:=ho.row.alloc (.cells (Iq K O S a Z.length c) 96);have r2:=(HL.out _ p1.bel).r1)
      | (go_at_call 32;refine (B1.l01In_any _ _ _ _).mono ?_;rintro e w' ⟨rfl,rfl⟩))
    go_ret;exact ⟨rfl,p1.bel⟩
  · rw[gI] at hA
    rw[N10.sOk_first hp];clear gI hlast hD0 hp hpt hgd HD;go_enter func68,ntmps68
    go_wp2_with (first
      | (go_at_call 92;refine (hG.out _).mono ?_;intro e w1 hans;obtain ⟨a,c,rfl,ho,hc,b1⟩:=hA.out _ _ _ hans;clear hans;have p1:=sp_new (k:=K) (o:=O) (t:=S) (a:=a) (n:=Z.length) (c:=c) b1;have x0:=p1.nb.c0;have x3:=p1.nb.c3;have c0:=p1.arg.c0;have c1:=p1.arg.c1;have c2:=p1.arg.c2;have c4:=p1.arg.c4;have c5:=p1.arg.c5;have r1:=ho.row.alloc (.cells (Iq K O S a Z.length c) 96);have r2:=(HL.out _ p1.bel).r1)
      | (go_at_call 32;refine (B1.l01In_any _ _ _ _).mono ?_;rintro e w' ⟨rfl,rfl⟩))
    go_ret;exact ⟨rfl,p1.bel⟩
  · rw[gI] at hA
    rw[N10.sOk_first hp];clear gI hlast hD0 hp hpt hgd HD;go_enter func68,ntmps68
    go_wp2_with (first
      | (go_at_call 92;refine (hG.out _).mono ?_;intro e w1 hans;obtain ⟨a,c,rfl,ho,hc,b1⟩:=hA.out _ _ _ hans;clear hans;have p1:=sp_new (k:=K) (o:=O) (t:=S) (a:=a) (n:=Z.length) (c:=c) b1;have x0:=p1.nb.c0;have x3:=p1.nb.c3;have c0:=p1.arg.c0;have c1:=p1.arg.c1;have c2:=p1.arg.c2;have c4:=p1.arg.c4;have c5:=p1.arg.c5;have r1:=ho.row.alloc (.cells (Iq K O S a Z.length c) 96);have r2:=(HL.out _ p1.bel).r1)
      | (go_at_call 32;refine (B1.l01In_any _ _ _ _).mono ?_;rintro e w' ⟨rfl,rfl⟩)
      | (go_at_call 70;refine (N2.same _ _ _ _ _ _ _ hzl hpl r1 r2).mono ?_;rintro e w2 ⟨rfl,m,rfl⟩))
    go_ret;exact ⟨rfl,(p1.drewN m).bel⟩
  · rw[gI] at hA
    rw[N10.sOk_first hp];clear gI hlast hD0 hp hpt hgd HD;go_enter func68,ntmps68
    go_wp2_with (first
      | (go_at_call 92;refine (hG.out _).mono ?_;intro e w1 hans;obtain ⟨a,c,rfl,ho,hc,b1⟩:=hA.out _ _ _ hans;clear hans;have p1:=sp_new (k:=K) (o:=O) (t:=S) (a:=a) (n:=Z.length) (c:=c) b1;have x0:=p1.nb.c0;have x3:=p1.nb.c3;have c0:=p1.arg.c0;have c1:=p1.arg.c1;have c2:=p1.arg.c2;have c4:=p1.arg.c4;have c5:=p1.arg.c5;have r1:=ho.row.alloc (.cells (Iq K O S a Z.length c) 96);have r2:=(HL.out _ p1.bel).r1)
      | (go_at_call 32;refine (B1.l01In_any _ _ _ _).mono ?_;rintro e w' ⟨rfl,rfl⟩)
      | (go_at_call 70;refine (N2.same _ _ _ _ _ _ _ hzl hpl r1 r2).mono ?_;rintro e w2 ⟨rfl,m,rfl⟩))
    go_ret;exact ⟨rfl,(p1.drewN m).bel⟩
  · rw[gI] at hA
    replace hpt:Hid (∀ W,Calls prog 58 #[.string d.sav,Iv 0,Iv S] W (Rw (.string P) W)):=hpt.out gI;clear gI;have HF1:Hid (N0.sFirst d=true):=hp;have HD0:Hid (N0.sDir d=(!decide (K=2) || V0.isD P)):=hD0;have HLast:=hlast
    have hpo':d.po.length<=281474976710656:=by omega
    have hfr':d.fr.length<=281474976710656:=by omega
    obtain ⟨RV,hRV⟩:∃ RV,N0.loanOk d=RV:=⟨_,rfl⟩
    have HNo1:Hid (N0.apart d.pg d.po=false->false=RV):=fun h=>by rw[<- hRV,N10.sOk_ap h]
    have HNo2:Hid (N0.sDir d=false->false=RV):=fun h=>by rw[<- hRV,N10.sOk_dir h]
    have HYes:Hid (N0.apart d.pg d.po=true->N0.sDir d=true->N0.sLast d=RV):=fun h1 h2=>by rw[<- hRV,N10.sOk_last HF1.out h1 h2]
    rw[hRV];clear hp hD0 hlast hRV;go_enter func68,ntmps68
    go_wp2_with (first
      | (go_at_call 92;refine (hG.out _).mono ?_;intro e w1 hans;obtain ⟨a,c,rfl,ho,hc,b1⟩:=hA.out _ _ _ hans;clear hans;have p1:=sp_new (k:=K) (o:=O) (t:=S) (a:=a) (n:=Z.length) (c:=c) b1;have x0:=p1.nb.c0;have x3:=p1.nb.c3;have c0:=p1.arg.c0;have c1:=p1.arg.c1;have c2:=p1.arg.c2;have c4:=p1.arg.c4;have c5:=p1.arg.c5;have r1:=ho.row.alloc (.cells (Iq K O S a Z.length c) 96);have r2:=(HL.out _ p1.bel).r1)
      | (go_at_call 32;refine (B1.l01In_any _ _ _ _).mono ?_;rintro e w' ⟨rfl,rfl⟩)
      | (go_at_call 70;refine (N2.same _ _ _ _ _ _ _ hzl hpl r1 r2).mono ?_;rintro e w2 ⟨rfl,m,rfl⟩))
    have p2:=p1.drewN m;obtain ⟨V,hV⟩:∃ V,(w1.alloc (.cells (Iq K O S a Z.length c) 96)).drewN m=V:=⟨_,rfl⟩;rw[hV] at p2 ⊢;clear hV p1 x0 x3 c0 c1 c2 c4 c5 r1 r2 ho b1 g0 g1 g2 g3 gz gs
    go_loopw [5] (fun i w'=>∃ j n:Nat,j<=d.po.length/\N0.to (N0.apAt d.pg d.po) j=true/\i=Iv j/\w'=V.drewN n) (fun i _=>d.po.length-(intOf i).toNat)
    case atStart=>exact ⟨0,0,Nat.zero_le _,rfl,rfl,rfl⟩
    case round=>
      obtain ⟨j,n,hj,hok,rfl,hW⟩:=hrel
      have HW:Hid (∀ m,∃ m',wr.drewN m=V.drewN m'):=fun m=>⟨n+m,by rw[hW,World.drewN_drewN]⟩
      have pw:SP w d s K O S a Z.length c w1.heap.size wr:=by rw[hW];exact p2.drewN n
      have c4:=pw.arg.c4;have c6:=pw.arg.c6
      have HWB:Hid (∀ m,Bq w (wr.drewN m)):=fun m=>K0.below_drewN pw.bel m
      by_cases hlt:j<d.po.length
      · obtain ⟨b,off,hab,hb,hcell⟩:=(HL.out _ pw.bel).r2.get hlt
        have hH:Hid (∀ m x,Calls prog 64 #[.slice s.a1 d.pg.length s.c1,Iv x] (wr.drewN m) fun e w'=>e=.returned (.bool (P0.has d.pg x))/\w'=wr.drewN m):=fun m x=>N2.hasRow s.a1 s.c1 d.pg x _ hpl ((HL.out _ pw.bel).r1.drewN m)
        have x1:=hcell j hlt;have hat:N0.apAt d.pg d.po j=!(P0.has d.pg (d.po.getD j 0)):=rfl;obtain ⟨z,ez⟩:∃ z,d.po.getD j 0=z:=⟨_,rfl⟩;rw[ez] at x1 hat;rw[hab] at c6
        have e1:(0:Int)<=(j:Int):=by omega
        have e2:(j:Int)<(d.po.length:Int):=by omega
        cases h2:P0.has d.pg z with
        | true=>
          have HR:Hid (false=RV):=HNo1.out (N0.to_bad hlt (by rw[hat,h2];rfl));clear hat hok ez hcell hW pw p2;go_wp2
          go_quiet ((go_at_call 64;exact quiet_bool (hH.out _ _) h2))
          go_wp2;go_ret;exact ⟨ret_bool HR.out,HWB.out _⟩
        | false=>
          have HO:Hid (N0.to (N0.apAt d.pg d.po) (j+1)=true):=N0.to_step hok (by rw[hat,h2];rfl);clear hat hok ez hcell hW pw p2;go_wp2
          go_quiet ((go_at_call 64;exact quiet_bool (hH.out _ _) h2))
          go_wp2;obtain ⟨m',hm'⟩:=HW.out nq
          go_roundw
          case rel=>exact ⟨j+1,m',by omega,HO.out,by go_num,hm'⟩
          case measure=>simp[intOf];omega
      · obtain rfl:j=d.po.length:=by omega
        have hap:N0.apart d.pg d.po=true:=hok;have c5:=pw.arg.c5;have n2:=pw.nb.c2
        have e9:decide ((d.po.length:Int)<(d.po.length:Int))=false:=by simp
        have hdc:(K == 2)=true/\V0.isD P=false/\false=RV\/(((K == 2)=true/\V0.isD P=true)\/(K == 2)=false)/\N0.sLast d=RV:=by
          by_cases h2:K=2
          · cases hI:V0.isD P with
            | false=>exact Or.inl ⟨by simpa using h2,rfl,HNo2.out (by rw[HD0.out,decide_eq_true h2,hI];rfl)⟩
            | true=>exact Or.inr ⟨Or.inl ⟨by simpa using h2,rfl⟩,HYes.out hap (by rw[HD0.out,hI,Bool.or_true])⟩
          · exact Or.inr ⟨Or.inr (by simpa using h2),HYes.out hap (by rw[HD0.out,decide_eq_false h2];rfl)⟩
        clear hok hW p2 HW HWB hap HNo1 HNo2 HYes HD0 c4
        rcases hdc with ⟨hk2,hDf,HR0⟩ | ⟨hk2,HR0⟩
        · have HR:Hid (false=RV):=HR0
          clear HR0
          go_wp2_with (first
            | (go_at_call 58;refine (hpt.out _).mono ?_;rintro e w4 ⟨rfl,rfl⟩)
            | (go_at_call 93;refine (hgd.out _).mono ?_;intro e w5 hans;obtain ⟨ae,ce,rfl,b5⟩:=HD.out _ _ _ hans;clear hans;have p5:=pw.below b5;have k0:=p5.nb.c0;have y0:=p5.arg.c0;have y6:=p5.arg.c6;have y7:=p5.arg.c7))
          go_ret;exact ⟨ret_bool HR.out,p5.bel⟩
        · have HR:Hid (N0.sLast d=RV):=HR0
          clear HR0
          rcases HLast with ⟨u1,hl⟩ | ⟨u1,u2,hl⟩ | ⟨u1,u2,u3,hl⟩ | ⟨u1,u2,u3,u4,hl⟩ | ⟨u1,u2,u3,u4,u5,hl⟩ | ⟨u1,u2,u3,u4,u5,u6,hl⟩ | ⟨u1,u2,u3,u4,u5,u6,hl⟩
          all_goals
            have HQ:Hid (_=RV):=hl.symm.trans HR.out;clear hl HR
            rcases hk2 with ⟨v1,v2⟩ | v1
          all_goals first
            | (exact absurd (v1.symm.trans u6) (by decide))
            | (go_wp2_with (first
                | (go_at_call 58;refine (hpt.out _).mono ?_;rintro e w4 ⟨rfl,rfl⟩)
                | (go_at_call 93;refine (hgd.out _).mono ?_;intro e w5 hans;obtain ⟨ae,ce,rfl,b5⟩:=HD.out _ _ _ hans;clear hans;have p5:=pw.below b5;have k0:=p5.nb.c0;have y0:=p5.arg.c0;have y6:=p5.arg.c6;have y7:=p5.arg.c7)
                | (go_at_call 94;have m6':=m6;refine (N2.l05Up s.a3 s.c3 d.fr 1 7 _ hfr' ((HL.out _ p5.bel).r3.drewN m6)).mono ?_;rintro e w7 ⟨rfl,m7,rfl⟩)
                | (go_at_call 94;refine (N2.l05Up s.a2 s.c2 d.po 5 23 _ hpo' (HL.out _ p5.bel).r2).mono ?_;rintro e w6 ⟨rfl,m6,rfl⟩)
                | (go_at_call 64;refine (N2.hasRow s.a3 s.c3 d.fr _ _ hfr' (by simpa only[World.drewN_drewN] using (HL.out _ p5.bel).r3.drewN (m6+m7))).mono ?_;rintro e w8 ⟨rfl,rfl⟩))
               go_ret
               exact ⟨ret_bool HQ.out,by first | exact p5.bel | exact K0.below_drewN p5.bel _⟩)
end N11
end Go.Proofs.YtlejhfnjmkdobaaGreatDoor
