/- Joined texts. -/
import Derived.Test.YtlejhfnjmkdobaaGreatDoorJtZE
set_option linter.unusedVariables false
set_option linter.unusedSimpArgs false
set_option maxRecDepth 10000
set_option maxHeartbeats 16000000
namespace Go.Proofs.YtlejhfnjmkdobaaGreatDoor
open ChangeShapes WideShapes ChangeAt RowKit
open Go.Proofs.Tryz
namespace E6
open N0 (Ln)
open N1 (Sl Lists Fit LB lb_new)
open P1 (ret_bool quiet_bool)
open J0 (IBuf Own)
open D0 (inos)
open D1 (nodeOk nodeE)
open D3 (had xk entAt gath entOk)
open D6 (verdict like)
open D7 (nowOk)
theorem ne_bool (a b:Int):(a != b)=!decide (a=b):=by
 by_cases h:a=b
 ·rw[decide_eq_true h];simpa using h
 ·rw[decide_eq_false h];simpa using h
theorem eq_bool (a b:Int):(a == b)=decide (a=b):=by
 by_cases h:a=b
 ·rw[decide_eq_true h];simpa using h
 ·rw[decide_eq_false h];simpa using h
theorem spec_cases (mem:ByteArray) (d:Ln) :
  (N0.loanOk d=false/\verdict mem d=false)\/(N0.loanOk d=true/\((mem.size:Int) != 768)=true/\verdict mem d=false)\/
  (N0.loanOk d=true/\mem.size=768/\G0.isI (O0.recd mem d.ino)=false/\verdict mem d=false)\/
  (N0.loanOk d=true/\mem.size=768/\G0.isI (O0.recd mem d.ino)=true/\(G0.gK (O0.recd mem d.ino) != G0.gK d.rc)=true/\verdict mem d=false)\/
  (N0.loanOk d=true/\mem.size=768/\G0.isI (O0.recd mem d.ino)=true/\(G0.gK (O0.recd mem d.ino) != G0.gK d.rc)=false/\(G0.gO (O0.recd mem d.ino) != G0.gO d.rc)=true/\verdict mem d=false)\/
  (N0.loanOk d=true/\mem.size=768/\G0.isI (O0.recd mem d.ino)=true/\(G0.gK (O0.recd mem d.ino) != G0.gK d.rc)=false/\(G0.gO (O0.recd mem d.ino) != G0.gO d.rc)=false/\N0.among (G0.gZ (O0.recd mem d.ino)) (d.pg++d.po)=false/\verdict mem d=false)\/
  (N0.loanOk d=true/\mem.size=768/\G0.isI (O0.recd mem d.ino)=true/\(G0.gK (O0.recd mem d.ino) != G0.gK d.rc)=false/\(G0.gO (O0.recd mem d.ino) != G0.gO d.rc)=false/\N0.among (G0.gZ (O0.recd mem d.ino)) (d.pg++d.po)=true/\nowOk mem d.ino=false/\verdict mem d=false)\/
  (N0.loanOk d=true/\mem.size=768/\G0.isI (O0.recd mem d.ino)=true/\(G0.gK (O0.recd mem d.ino) != G0.gK d.rc)=false/\(G0.gO (O0.recd mem d.ino) != G0.gO d.rc)=false/\N0.among (G0.gZ (O0.recd mem d.ino)) (d.pg++d.po)=true/\nowOk mem d.ino=true/\verdict mem d=entOk mem d (G0.gZ (O0.recd mem d.ino)) (nodeE mem d.ino)):=by
 have hn:nodeOk mem d.ino=(G0.isI (O0.recd mem d.ino) && nowOk mem d.ino):=rfl;unfold verdict like;rw[hn,ne_bool (G0.gK (O0.recd mem d.ino)) (G0.gK d.rc),ne_bool (G0.gO (O0.recd mem d.ino)) (G0.gO d.rc)]
 cases h1:N0.loanOk d with
 | false=>exact Or.inl ⟨rfl,rfl⟩
 | true=>
  right
  by_cases h2:mem.size=768
  ·right
   rw[decide_eq_true h2]
   cases h3:G0.isI (O0.recd mem d.ino) with
   | false=>exact Or.inl ⟨rfl,h2,rfl,rfl⟩
   | true=>
    right
    cases h4:decide (G0.gK (O0.recd mem d.ino)=G0.gK d.rc) with
    | false=>exact Or.inl ⟨rfl,h2,rfl,rfl,by simp⟩
    | true=>
     right
     cases h5:decide (G0.gO (O0.recd mem d.ino)=G0.gO d.rc) with
     | false=>exact Or.inl ⟨rfl,h2,rfl,rfl,rfl,by simp⟩
     | true=>
      right
      cases h6:N0.among (G0.gZ (O0.recd mem d.ino)) (d.pg++d.po) with
      | false=>exact Or.inl ⟨rfl,h2,rfl,rfl,rfl,rfl,by simp⟩
      | true=>
       right
       cases h7:nowOk mem d.ino with
       | false=>exact Or.inl ⟨rfl,h2,rfl,rfl,rfl,rfl,rfl,by simp⟩
       | true=>exact Or.inr ⟨rfl,h2,rfl,rfl,rfl,rfl,rfl,by simp⟩
  ·left
   exact ⟨rfl,by simp;omega,by rw[decide_eq_false h2];rfl⟩
theorem new_spec (mem:ByteArray) (d:Ln) (x:Int) :
  (P0.has d.fr x=false/\D2.newOk mem d x=false)\/(P0.has d.fr x=true/\G0.isI (O0.recd mem x)=false/\D2.newOk mem d x=false)\/
  (P0.has d.fr x=true/\G0.isI (O0.recd mem x)=true/\(G0.gK (O0.recd mem x) == 0)=true/\D2.newOk mem d x=false)\/
  (P0.has d.fr x=true/\G0.isI (O0.recd mem x)=true/\(G0.gK (O0.recd mem x) == 0)=false/\(G0.gO (O0.recd mem x) != d.cl)=true/\D2.newOk mem d x=false)\/
  (P0.has d.fr x=true/\G0.isI (O0.recd mem x)=true/\(G0.gK (O0.recd mem x) == 0)=false/\(G0.gO (O0.recd mem x) != d.cl)=false/\N0.among (G0.gZ (O0.recd mem x)) d.po=false/\D2.newOk mem d x=false)\/
  (P0.has d.fr x=true/\G0.isI (O0.recd mem x)=true/\(G0.gK (O0.recd mem x) == 0)=false/\(G0.gO (O0.recd mem x) != d.cl)=false/\N0.among (G0.gZ (O0.recd mem x)) d.po=true/\(G0.gK (O0.recd mem x) == 2)=true/\(G0.gS (O0.recd mem x) != 0)=true/\D2.newOk mem d x=false)\/
  (P0.has d.fr x=true/\G0.isI (O0.recd mem x)=true/\(G0.gK (O0.recd mem x) == 0)=false/\(G0.gO (O0.recd mem x) != d.cl)=false/\N0.among (G0.gZ (O0.recd mem x)) d.po=true/\(G0.gK (O0.recd mem x) == 2)=true/\(G0.gS (O0.recd mem x) != 0)=false/\D2.newOk mem d x=true)\/
  (P0.has d.fr x=true/\G0.isI (O0.recd mem x)=true/\(G0.gK (O0.recd mem x) == 0)=false/\(G0.gO (O0.recd mem x) != d.cl)=false/\N0.among (G0.gZ (O0.recd mem x)) d.po=true/\(G0.gK (O0.recd mem x) == 2)=false/\D2.newOk mem d x=true):=by
 unfold D2.newOk;rw[ne_bool,ne_bool,eq_bool,eq_bool]
 cases P0.has d.fr x <;> cases G0.isI (O0.recd mem x) <;> cases decide (G0.gK (O0.recd mem x)=0) <;> cases decide (G0.gO (O0.recd mem x)=d.cl) <;> cases N0.among (G0.gZ (O0.recd mem x)) d.po <;> cases decide (G0.gK (O0.recd mem x)=2) <;> cases decide (G0.gS (O0.recd mem x)=0) <;> simp
structure VS (w:World) (d:Ln) (s:Sl) (os ns:List Value) (Bo Bn base:Nat) (W:World):Prop where
 arg:LB w.heap.size d s W
 ob:K0.Blk Bo os W
 nb:K0.Blk Bn ns W
 lt:w.heap.size<base/\Bo<base/\Bn<base
 bel:Bq w W
 le:base<=W.heap.size
variable {w W W' : World} {d : Ln} {s : Sl} {os ns : List Value} {Bo Bn base : Nat}
theorem VS.below (h:VS w d s os ns Bo Bn base W) (hb:Bq W W'):VS w d s os ns Bo Bn base W':=⟨h.arg.below hb,h.ob.below hb,h.nb.below hb,h.lt,h.bel.trans (hb.mono h.bel.size),Nat.le_trans h.le hb.size⟩
theorem VS.keep {b:Nat} (h:VS w d s os ns Bo Bn base W) (hb:Below b W W') (hle:base<=b):VS w d s os ns Bo Bn base W':=by
 obtain ⟨l1,l2,l3⟩:=h.lt;exact ⟨⟨J0.blk_keep h.arg.b hb (by omega)⟩,J0.blk_keep h.ob hb (by omega),J0.blk_keep h.nb hb (by omega),h.lt,h.bel.trans (hb.mono (by omega)),Nat.le_trans h.le hb.size⟩
def Apt (p:Option Addr) (n cp:Nat) (ab an:Option Addr) (us vs:List Int):Prop:=∀ g,(Value.slice p n cp).ownBlock=some g->(us ≠ []->∀ q,ab=some ⟨q,0,none⟩->g≠q)/\(vs ≠ []->∀ q,an=some ⟨q,0,none⟩->g≠q)
theorem VS.grown {r:Option Nat} (h:VS w d s os ns Bo Bn base W) (hg:W.grownBy W' r) (hr:∀ g,r=some g->base<=g):VS w d s os ns Bo Bn base W':=by
 obtain ⟨l1,l2,l3⟩:=h.lt;refine ⟨⟨D7.blk_grown h.arg.b hg (fun e=>by have:=hr _ e;omega)⟩,D7.blk_grown h.ob hg (fun e=>by have:=hr _ e;omega),D7.blk_grown h.nb hg (fun e=>by have:=hr _ e;omega),h.lt,?_,Nat.le_trans h.le hg.size⟩;have hs:=h.bel.size
 exact h.bel.trans (show Below w.heap.size W W' from ⟨hg.os,hg.tape,hg.output,hg.size,fun k hk=>hg.block k (Nat.lt_of_lt_of_le hk hs) (fun e=>by have:=hr k e.symm;omega)⟩)
theorem own_keep {b:Nat} {a:Option Addr} {zs:List Int} {r:Option Nat} (h:J0.Own b W a zs) (hg:W.grownBy W' r) (hne:zs ≠ []->∀ g,a=some ⟨g,0,none⟩->r≠some g):J0.Own b W' a zs:=by
 by_cases hz:zs=[]
 ·exact Or.inl hz
 ·exact D7.own_grown h hg (hne hz)
theorem own_lt {b:Nat} {a:Option Addr} {zs:List Int} (h:J0.Own b W a zs) (hz:zs ≠ []):∀ q,a=some ⟨q,0,none⟩->b<=q/\q<W.heap.size:=fun q e=>by
 rcases h with h | ⟨g,e2,hb,hk⟩
 ·exact absurd h hz
 ·rw[e] at e2
  cases e2;exact ⟨hb,hk.lt⟩
theorem spec_Verdict (mem:ByteArray) (d:Ln) (s:Sl) (w:World) (hms:mem.size<=281474976710656) (hF:Fit d s) (hpo:d.po.length<=1048576) (hfr:d.fr.length<=1048576) (hR:Lists w d s) :
  Calls prog 72 #[.string mem,N1.val d s] w (Rb (.bool (verdict mem d)) w):=by
 have k0:=lb_new d s w 46;have l0:=K0.below_new w (.cells (N1.Lc d s) 46)
 have HL:Hid (∀ W,Bq w W->Lists W d s):=fun W hb=>hR.below hb
 have HO:Hid (∀ W,Bq w W->Calls prog 68 #[N1.val d s] W (Rb (.bool (N0.loanOk d)) W)):=fun W hb=>N11.spec_LoanOk d s W hF hpo hfr (hR.below hb)
 have hrs:=hF.m4;have hss:=hF.m5;have hcase:=spec_cases mem d;clear hR hF
 rcases hcase with ⟨g1,hv⟩ | ⟨g1,g2,hv⟩ | hr
 ·rw[g1] at HO
  have HV:Hid (verdict mem d=false):=hv;clear g1 hv;go_enter func72,ntmps72
  go_wp2_with (go_at_call 68;refine (HO.out _ l0).mono ?_;rintro e w1 ⟨rfl,b1⟩)
  go_ret;exact ⟨ret_bool HV.out.symm,l0.trans (b1.mono l0.size)⟩
 ·rw[g1] at HO
  have HV:Hid (verdict mem d=false):=hv;clear g1 hv;go_enter func72,ntmps72
  go_wp2_with (go_at_call 68;refine (HO.out _ l0).mono ?_;rintro e w1 ⟨rfl,b1⟩)
  go_ret;exact ⟨ret_bool HV.out.symm,l0.trans (b1.mono l0.size)⟩
 ·obtain ⟨g1,g2⟩:N0.loanOk d=true/\mem.size=768:=by
   rcases hr with h | h | h | h | h | h <;> exact ⟨h.1,h.2.1⟩
  have hm768:mem.size=768:=g2;obtain ⟨hIr,hk0,hzr,-,-,-,hp6,hp4,hf2,-,-,-,-⟩:=N0.loanOk_is g1;rw[g1] at HO
  have g8:((mem.size:Int) != 768)=false:=by simp;omega
  have hrz:=O0.recd_size mem d.ino hms;have hYl:=D3.gZ_len d.rc;have hZl:=D3.gZ_len (O0.recd mem d.ino)
  have HG1:Hid (∀ W,Calls prog 92 #[.string d.rc] W fun e w'=>∃ a c,e=.returned (.tuple #[I0.val (G0.gK d.rc) (G0.gO d.rc) (G0.gS d.rc) a (G0.gZ d.rc).length c,.bool (G0.isI d.rc)])/\J0.Own W.heap.size w' a (G0.gZ d.rc)/\(G0.gZ d.rc).length<=c/\Bq W w'):=fun W=>G4.spec_GetInode _ W hrs
  have HG2:Hid (∀ W,Calls prog 92 #[.string (O0.recd mem d.ino)] W fun e w'=>∃ a c,e=.returned (.tuple #[I0.val (G0.gK (O0.recd mem d.ino)) (G0.gO (O0.recd mem d.ino)) (G0.gS (O0.recd mem d.ino)) a (G0.gZ (O0.recd mem d.ino)).length c,.bool (G0.isI (O0.recd mem d.ino))])/\J0.Own W.heap.size w' a (G0.gZ (O0.recd mem d.ino))/\(G0.gZ (O0.recd mem d.ino)).length<=c/\Bq W w'):=fun W=>G4.spec_GetInode _ W hrz
  have HRc:Hid (∀ W,Calls prog 69 #[.string mem,Iv d.ino] W (Rw (.string (O0.recd mem d.ino)) W)):=fun W=>O1.l03Rec mem d.ino W hms
  rw[hIr] at HG1
  have HBe:Hid (∀ W,Calls prog 74 #[N1.val d s] W fun e w'=>∃ a' c',e=.returned (.slice a' (inos (N5.oldE d)).length c')/\J0.Own W.heap.size w' a' (inos (N5.oldE d))/\Bq W w'):=fun W=>D7.l05Before d s W hrs hss hIr
  have HNo:Hid (G0.isI (O0.recd mem d.ino)=true->G0.gK (O0.recd mem d.ino)≠0->∀ W,Calls prog 73 #[.string mem,N1.val d s] W fun e w'=>∃ a' c',e=.returned (.tuple #[.slice a' (inos (nodeE mem d.ino)).length c',.bool (nowOk mem d.ino)])/\J0.Own W.heap.size w' a' (inos (nodeE mem d.ino))/\Bq W w'):=fun g3 hkn W=>D7.l05Now mem d s W hm768 g3 hkn
  obtain ⟨es,hes⟩:∃ es,nodeE mem d.ino=es:=⟨_,rfl⟩;have hel:=D6.nodeE_len mem d.ino;rw[hes] at HNo hel hr;obtain ⟨nw,hnw⟩:∃ b,nowOk mem d.ino=b:=⟨_,rfl⟩;rw[hnw] at HNo hr;obtain ⟨Rr,hRr⟩:∃ R,O0.recd mem d.ino=R:=⟨_,rfl⟩;rw[hRr] at HG2 HRc hZl HNo hr;obtain ⟨bI,hbI⟩:∃ b,G0.isI Rr=b:=⟨_,rfl⟩;obtain ⟨K,hK⟩:∃ K,G0.gK d.rc=K:=⟨_,rfl⟩;obtain ⟨O,hO⟩:∃ O,G0.gO d.rc=O:=⟨_,rfl⟩;obtain ⟨S,hS⟩:∃ S,G0.gS d.rc=S:=⟨_,rfl⟩;obtain ⟨Y,hY⟩:∃ Z,G0.gZ d.rc=Z:=⟨_,rfl⟩;obtain ⟨K2,hK2⟩:∃ K,G0.gK Rr=K:=⟨_,rfl⟩;obtain ⟨O2,hO2⟩:∃ O,G0.gO Rr=O:=⟨_,rfl⟩;obtain ⟨S2,hS2⟩:∃ S,G0.gS Rr=S:=⟨_,rfl⟩;obtain ⟨Z,hZ⟩:∃ Z,G0.gZ Rr=Z:=⟨_,rfl⟩;rw[hK,hO,hS,hY] at HG1;rw[hK2,hO2,hS2,hZ,hbI] at HG2;rw[hY] at hYl;rw[hZ] at hZl;rw[hbI,hK2] at HNo;rw[hbI,hK2,hK,hO2,hO,hZ] at hr;rw[hK] at hk0;have HK0:Hid (K≠0):=hk0;have HR:Hid _:=hr;clear hK hO hS hY hK2 hO2 hS2 hZ hbI hes hnw hRr g1 hIr hk0 hzr hr hrz g2;go_enter func72,ntmps72
  go_wp2_with (first
   | (go_at_call 68;refine (HO.out _ l0).mono ?_;rintro e w1 ⟨rfl,b1⟩;have k1:=k0.below b1;have l1:=l0.trans (b1.mono l0.size);have c3:=k1.c3)
   | (go_at_call 69;refine (HRc.out _).mono ?_;rintro e wq ⟨rfl,eq⟩;subst wq;have rq:True:=trivial;clear HG1)
   | (go_at_call 92;have rq':=rq;refine (HG2.out _).mono ?_;rintro e w3 ⟨a2,c2,rfl,ho2,hc2,b3⟩;have n3:=K0.below_new w3 (.cells (Iq K2 O2 S2 a2 Z.length c2) 96);have vs:VS w d s (I0.vals K O S a Y.length c) (I0.vals K2 O2 S2 a2 Z.length c2) w2.heap.size w3.heap.size (w3.heap.size+1) (w3.alloc (.cells (Iq K2 O2 S2 a2 Z.length c2) 96)):=⟨(k2.below b3).below n3,(ob2.below b3).below n3,K0.blk_new (I0.vals K2 O2 S2 a2 Z.length c2) w3 96,⟨Nat.lt_succ_of_lt (Nat.lt_of_lt_of_le k2.b.lt b3.size),Nat.lt_succ_of_lt (Nat.lt_of_lt_of_le ob2.lt b3.size),Nat.lt_succ_self _⟩,(l2.trans (b3.mono l2.size)).trans (n3.mono (Nat.le_trans l2.size b3.size)),(by simp)⟩;have row2:=ho2.row.below n3;have x3:=vs.nb.c3;have hb0:J0.IBuf (w3.heap.size+1) ((w3.alloc (.cells (Iq K2 O2 S2 a2 Z.length c2) 96)).alloc (.cells #[] 3)) (some ⟨w3.heap.size+1,0,none⟩) 0 0 []:=(by have h:=J0.ibuf_made (base:=w3.heap.size+1) (w3.alloc (.cells (Iq K2 O2 S2 a2 Z.length c2) 96)) (by simp);rwa [World.size_alloc] at h))
   | (go_at_call 92;refine (HG1.out _).mono ?_;rintro e w2 ⟨a,c,rfl,ho1,hc1,b2⟩;have n2:=K0.below_new w2 (.cells (Iq K O S a Y.length c) 96);have k2:=(k1.below b2).below n2;have ob2:=K0.blk_new (I0.vals K O S a Y.length c) w2 96;have l2:=(l1.trans (b2.mono l1.size)).trans (n2.mono (Nat.le_trans l1.size b2.size));have c0:=k2.c0)
   | (at_builtin;refine Q1.append_rows (base:=w3.heap.size+1) rfl (.tmp 38) (.tmp 40) rfl hb0 _ _ Z (by rfl) (by rfl) (row2.below (K0.below_new _ _)) (by omega) (by simp) ?_;intro a6 c6 w6 hbuf6 l6;have vs6:=(vs.below (K0.below_new _ _)).keep l6 (Nat.le_refl _)))
  simp only[Nat.zero_add,List.nil_append] at hbuf6 ⊢;obtain ⟨Bo,hBo⟩:∃ B,w2.heap.size=B:=⟨_,rfl⟩;obtain ⟨Bn,hBn⟩:∃ B,w3.heap.size=B:=⟨_,rfl⟩;rw[hBo,hBn] at vs6;rw[hBn] at hbuf6;simp only[hBo,hBn];have v7:=vs6.below (W':=w6.drew) ((Below.refl _ _).drew);clear vs k0 k1 k2 ob2 c3 c0 x3 row2 n2 n3 b1 b2 b3 l1 l2 l0 l6 ho1 ho2 hc1 hc2 hb0 HG2 HRc HO
  rcases HR.out with ⟨-,-,g3,hv⟩ | ⟨-,-,g3,g4,hv⟩ | ⟨-,-,g3,g4,g5,hv⟩ | ⟨-,-,g3,g4,g5,g6,hv⟩ | ⟨-,-,g3,g4,g5,g6,g7,hv⟩ | ⟨-,-,g3,g4,g5,g6,g7,hv⟩
  ·subst g3
   have HV:Hid (verdict mem d=false):=hv;clear hv HR;refine wp_region_held (S:=fun W=>True) (by kernel_rfl) ?_;refine BT.r 0 (.bool false) trivial ?_;refine BT.r 1 (.bool true) trivial ?_;refine BT.r 2 (.bool true) trivial ?_;refine BT.u 3 trivial ?_;refine BT.u 4 trivial ?_;refine BT.u 5 trivial ?_;refine BT.u 6 trivial ?_;refine BT.u 7 trivial ?_;refine BT.r 8 (.bool true) trivial ?_;refine BT.r 9 (.bool true) trivial ?_;refine BT.u 10 trivial ?_;refine BT.u 11 trivial ?_;refine BT.u 12 trivial ?_;refine BT.u 13 trivial ?_;refine BT.u 14 trivial ?_;refine BT.r 15 (.bool true) trivial ?_;refine BT.r 16 (.bool true) trivial ?_;refine BT.u 17 trivial ?_;refine BT.u 18 trivial ?_;refine BT.u 19 trivial ?_;refine BT.u 20 trivial ?_;refine BT.u 21 trivial ?_;refine BT.u 22 trivial ?_;refine BT.u 23 trivial ?_;refine BT.u 24 trivial ?_;refine BT.u 25 trivial ?_;refine BT.u 26 trivial ?_;refine BT.r 27 (.bool true) trivial ?_;refine wpAnyH_done (by kernel_rfl) ?_ _;go_wp2;go_ret;exact ⟨ret_bool HV.out.symm,v7.bel⟩
  ·subst g3
   have HV:Hid (verdict mem d=false):=hv;clear hv HR;have s7:(fun W:World=>Ce W w.heap.size 4 (.slice s.a1 d.pg.length s.c1)/\Ce W w.heap.size 6 (.slice s.a2 d.po.length s.c2)/\Ce W Bo 0 (Iv K)/\Ce W Bo 1 (Iv O)/\Ce W Bn 0 (Iv K2)/\Ce W Bn 1 (Iv O2)) (w6.drew):=⟨v7.arg.c4,v7.arg.c6,v7.ob.c0,v7.ob.c1,v7.nb.c0,v7.nb.c1⟩;refine wp_region_held (S:=fun W=>Ce W w.heap.size 4 (.slice s.a1 d.pg.length s.c1)/\Ce W w.heap.size 6 (.slice s.a2 d.po.length s.c2)/\Ce W Bo 0 (Iv K)/\Ce W Bo 1 (Iv O)/\Ce W Bn 0 (Iv K2)/\Ce W Bn 1 (Iv O2)) (by kernel_rfl) ?_;refine BT.r 0 (.bool true) s7 ?_;refine BT.r 1 (.bool false) s7 ?_;refine BT.r 2 (.bool false) s7 ?_;refine BT.s 3 (Pv Bn 0) s7 ?_;refine BT.s 4 (Iv K2) s7 ?_;refine BT.s 5 (Pv Bo 0) s7 ?_;refine BT.s 6 (Iv K) s7 ?_;refine BT.s 7 (.bool true) s7 ?_;refine BT.r 8 (.bool true) s7 ?_;refine BT.r 9 (.bool true) s7 ?_;refine BT.u 10 s7 ?_;refine BT.u 11 s7 ?_;refine BT.u 12 s7 ?_;refine BT.u 13 s7 ?_;refine BT.u 14 s7 ?_;refine BT.r 15 (.bool true) s7 ?_;refine BT.r 16 (.bool true) s7 ?_;refine BT.u 17 s7 ?_;refine BT.u 18 s7 ?_;refine BT.u 19 s7 ?_;refine BT.u 20 s7 ?_;refine BT.u 21 s7 ?_;refine BT.u 22 s7 ?_;refine BT.u 23 s7 ?_;refine BT.u 24 s7 ?_;refine BT.u 25 s7 ?_;refine BT.u 26 s7 ?_;refine BT.r 27 (.bool true) s7 ?_;refine wpAnyH_done (by kernel_rfl) ?_ _;go_wp2;go_ret;exact ⟨ret_bool HV.out.symm,v7.bel⟩
  ·subst g3
   have HV:Hid (verdict mem d=false):=hv;clear hv HR;have s7:(fun W:World=>Ce W w.heap.size 4 (.slice s.a1 d.pg.length s.c1)/\Ce W w.heap.size 6 (.slice s.a2 d.po.length s.c2)/\Ce W Bo 0 (Iv K)/\Ce W Bo 1 (Iv O)/\Ce W Bn 0 (Iv K2)/\Ce W Bn 1 (Iv O2)) (w6.drew):=⟨v7.arg.c4,v7.arg.c6,v7.ob.c0,v7.ob.c1,v7.nb.c0,v7.nb.c1⟩;refine wp_region_held (S:=fun W=>Ce W w.heap.size 4 (.slice s.a1 d.pg.length s.c1)/\Ce W w.heap.size 6 (.slice s.a2 d.po.length s.c2)/\Ce W Bo 0 (Iv K)/\Ce W Bo 1 (Iv O)/\Ce W Bn 0 (Iv K2)/\Ce W Bn 1 (Iv O2)) (by kernel_rfl) ?_;refine BT.r 0 (.bool true) s7 ?_;refine BT.r 1 (.bool false) s7 ?_;refine BT.r 2 (.bool false) s7 ?_;refine BT.s 3 (Pv Bn 0) s7 ?_;refine BT.s 4 (Iv K2) s7 ?_;refine BT.s 5 (Pv Bo 0) s7 ?_;refine BT.s 6 (Iv K) s7 ?_;refine BT.s 7 (.bool false) s7 ?_;refine BT.r 8 (.bool false) s7 ?_;refine BT.r 9 (.bool false) s7 ?_;refine BT.s 10 (Pv Bn 1) s7 ?_;refine BT.s 11 (Iv O2) s7 ?_;refine BT.s 12 (Pv Bo 1) s7 ?_;refine BT.s 13 (Iv O) s7 ?_;refine BT.s 14 (.bool true) s7 ?_;refine BT.r 15 (.bool true) s7 ?_;refine BT.r 16 (.bool true) s7 ?_;refine BT.u 17 s7 ?_;refine BT.u 18 s7 ?_;refine BT.u 19 s7 ?_;refine BT.u 20 s7 ?_;refine BT.u 21 s7 ?_;refine BT.u 22 s7 ?_;refine BT.u 23 s7 ?_;refine BT.u 24 s7 ?_;refine BT.u 25 s7 ?_;refine BT.u 26 s7 ?_;refine BT.r 27 (.bool true) s7 ?_;refine wpAnyH_done (by kernel_rfl) ?_ _;go_wp2;go_ret;exact ⟨ret_bool HV.out.symm,v7.bel⟩
  ·subst g3
   have HV:Hid (verdict mem d=false):=hv;clear hv HR;have HAm:Hid (N0.among Z (d.pg++d.po)=false):=g6;have s7:(fun W:World=>Ce W w.heap.size 4 (.slice s.a1 d.pg.length s.c1)/\Ce W w.heap.size 6 (.slice s.a2 d.po.length s.c2)/\Ce W Bo 0 (Iv K)/\Ce W Bo 1 (Iv O)/\Ce W Bn 0 (Iv K2)/\Ce W Bn 1 (Iv O2)) (w6.drew):=⟨v7.arg.c4,v7.arg.c6,v7.ob.c0,v7.ob.c1,v7.nb.c0,v7.nb.c1⟩;refine wp_region_held (S:=fun W=>Ce W w.heap.size 4 (.slice s.a1 d.pg.length s.c1)/\Ce W w.heap.size 6 (.slice s.a2 d.po.length s.c2)/\Ce W Bo 0 (Iv K)/\Ce W Bo 1 (Iv O)/\Ce W Bn 0 (Iv K2)/\Ce W Bn 1 (Iv O2)) (by kernel_rfl) ?_;refine BT.r 0 (.bool true) s7 ?_;refine BT.r 1 (.bool false) s7 ?_;refine BT.r 2 (.bool false) s7 ?_;refine BT.s 3 (Pv Bn 0) s7 ?_;refine BT.s 4 (Iv K2) s7 ?_;refine BT.s 5 (Pv Bo 0) s7 ?_;refine BT.s 6 (Iv K) s7 ?_;refine BT.s 7 (.bool false) s7 ?_;refine BT.r 8 (.bool false) s7 ?_;refine BT.r 9 (.bool false) s7 ?_;refine BT.s 10 (Pv Bn 1) s7 ?_;refine BT.s 11 (Iv O2) s7 ?_;refine BT.s 12 (Pv Bo 1) s7 ?_;refine BT.s 13 (Iv O) s7 ?_;refine BT.s 14 (.bool false) s7 ?_;refine BT.r 15 (.bool false) s7 ?_;refine BT.r 16 (.bool false) s7 ?_;refine BT.r 17 (.slice a6 Z.length c6) s7 ?_;refine BT.s 19 (Pv w.heap.size 4) s7 ?_;refine BT.s 20 (.slice s.a1 d.pg.length s.c1) s7 ?_;refine BT.s 22 (Pv w.heap.size 6) s7 ?_;refine BT.s 23 (.slice s.a2 d.po.length s.c2) s7 ?_;have n7:=K0.below_new w6.drew (.cells #[] 3);have v8:=v7.below n7
   have s8:(fun W:World=>Ce W w.heap.size 4 (.slice s.a1 d.pg.length s.c1)/\Ce W w.heap.size 6 (.slice s.a2 d.po.length s.c2)/\Ce W Bo 0 (Iv K)/\Ce W Bo 1 (Iv O)/\Ce W Bn 0 (Iv K2)/\Ce W Bn 1 (Iv O2)) (w6.drew.alloc (.cells #[] 3)):=⟨v8.arg.c4,v8.arg.c6,v8.ob.c0,v8.ob.c1,v8.nb.c0,v8.nb.c1⟩;refine Y0.one_plain (i:=18) (u:=Sv w6.drew.heap.size 0 0) (w':=w6.drew.alloc (.cells #[] 3)) (by kernel_rfl) rfl (by rfl) ?_ s8 ?_
   ·go_simp
   simp only[BZ.z,Act.put,Nat.reduceAdd];refine D7.one_rows (base:=w6.drew.heap.size) (i:=21) (by kernel_rfl) rfl (by rfl) (.tmp 60) (.tmp 62) rfl (J0.ibuf_made w6.drew (Nat.le_refl _)) s.a1 s.c1 d.pg (by rfl) (by rfl) (HL.out _ v8.bel).r1 (by omega) (by simp) ?_;intro a9 c9 w9 hb9 l9;simp only[Nat.zero_add,List.nil_append] at hb9 ⊢;have v9:=v8.keep l9 v7.le;have s9:(fun W:World=>Ce W w.heap.size 4 (.slice s.a1 d.pg.length s.c1)/\Ce W w.heap.size 6 (.slice s.a2 d.po.length s.c2)/\Ce W Bo 0 (Iv K)/\Ce W Bo 1 (Iv O)/\Ce W Bn 0 (Iv K2)/\Ce W Bn 1 (Iv O2)) (w9):=⟨v9.arg.c4,v9.arg.c6,v9.ob.c0,v9.ob.c1,v9.nb.c0,v9.nb.c1⟩;refine ⟨s9,?_⟩;simp only[BZ.z,Act.put,Nat.reduceAdd];refine D7.one_rows (base:=w6.drew.heap.size) (i:=24) (by kernel_rfl) rfl (by rfl) (.tmp 63) (.tmp 65) rfl hb9 s.a2 s.c2 d.po (by rfl) (by rfl) (HL.out _ v9.bel).r2 (by omega) (Nat.le_trans n7.size l9.size) ?_;intro ba bc wb hbb lb;have vb:=v9.keep lb v7.le;have sb:(fun W:World=>Ce W w.heap.size 4 (.slice s.a1 d.pg.length s.c1)/\Ce W w.heap.size 6 (.slice s.a2 d.po.length s.c2)/\Ce W Bo 0 (Iv K)/\Ce W Bo 1 (Iv O)/\Ce W Bn 0 (Iv K2)/\Ce W Bn 1 (Iv O2)) (wb):=⟨vb.arg.c4,vb.arg.c6,vb.ob.c0,vb.ob.c1,vb.nb.c0,vb.nb.c1⟩;refine ⟨sb,?_⟩;simp only[BZ.z,Act.put,Nat.reduceAdd]
   have f6:Bq w6 wb:=((show Bq w6 (w6.drew.alloc (.cells #[] 3)) from ⟨n7.os,n7.tape,n7.output,n7.size,n7.block⟩).trans l9).trans lb
   have hpl:d.pg.length+d.po.length=(d.pg++d.po).length:=List.length_append.symm;have hbx:=hbb;rw[hpl] at hbx;have HA2:=D0.l05Among a6 ba c6 bc Z (d.pg++d.po) wb (by omega) (by rw[List.length_append];omega) (hbuf6.below f6).own.row hbx.own.row;rw[HAm.out,<- hpl] at HA2;clear hpl hbx;refine Y0.one_call2w (i:=25) (by kernel_rfl) rfl (by rfl) (.tmp 59) (.tmp 66) _ rfl ((.slice a6 Z.length c6)) ((.slice ba (d.pg.length+d.po.length) bc)) (by rfl) (by rfl) (enters_of func95 (by kernel_rfl) rfl) ((HA2).mono ?_);rintro e wz ⟨rfl,ez⟩;subst wz;refine ⟨_,rfl,sb,?_⟩;simp only[BZ.z,Act.put,Nat.reduceAdd];refine BT.r 26 (.bool true) sb ?_;refine BT.r 27 (.bool true) sb ?_;refine wpAnyH_done (by kernel_rfl) ?_ _;go_wp2;go_ret;exact ⟨ret_bool HV.out.symm,vb.bel⟩
  ·subst g3
   have HV:Hid (verdict mem d=false):=hv;clear hv HR;have HAm:Hid (N0.among Z (d.pg++d.po)=true):=g6;subst g7
   have hkn:K2≠0:=by
    have h:K2=K:=by simpa using g4
    rw[h];exact HK0.out
   replace HNo:Hid _:=HNo.out rfl hkn;clear hkn;have s7:(fun W:World=>Ce W w.heap.size 4 (.slice s.a1 d.pg.length s.c1)/\Ce W w.heap.size 6 (.slice s.a2 d.po.length s.c2)/\Ce W Bo 0 (Iv K)/\Ce W Bo 1 (Iv O)/\Ce W Bn 0 (Iv K2)/\Ce W Bn 1 (Iv O2)) (w6.drew):=⟨v7.arg.c4,v7.arg.c6,v7.ob.c0,v7.ob.c1,v7.nb.c0,v7.nb.c1⟩;refine wp_region_held (S:=fun W=>Ce W w.heap.size 4 (.slice s.a1 d.pg.length s.c1)/\Ce W w.heap.size 6 (.slice s.a2 d.po.length s.c2)/\Ce W Bo 0 (Iv K)/\Ce W Bo 1 (Iv O)/\Ce W Bn 0 (Iv K2)/\Ce W Bn 1 (Iv O2)) (by kernel_rfl) ?_;refine BT.r 0 (.bool true) s7 ?_;refine BT.r 1 (.bool false) s7 ?_;refine BT.r 2 (.bool false) s7 ?_;refine BT.s 3 (Pv Bn 0) s7 ?_;refine BT.s 4 (Iv K2) s7 ?_;refine BT.s 5 (Pv Bo 0) s7 ?_;refine BT.s 6 (Iv K) s7 ?_;refine BT.s 7 (.bool false) s7 ?_;refine BT.r 8 (.bool false) s7 ?_;refine BT.r 9 (.bool false) s7 ?_;refine BT.s 10 (Pv Bn 1) s7 ?_;refine BT.s 11 (Iv O2) s7 ?_;refine BT.s 12 (Pv Bo 1) s7 ?_;refine BT.s 13 (Iv O) s7 ?_;refine BT.s 14 (.bool false) s7 ?_;refine BT.r 15 (.bool false) s7 ?_;refine BT.r 16 (.bool false) s7 ?_;refine BT.r 17 (.slice a6 Z.length c6) s7 ?_;refine BT.s 19 (Pv w.heap.size 4) s7 ?_;refine BT.s 20 (.slice s.a1 d.pg.length s.c1) s7 ?_;refine BT.s 22 (Pv w.heap.size 6) s7 ?_;refine BT.s 23 (.slice s.a2 d.po.length s.c2) s7 ?_;have n7:=K0.below_new w6.drew (.cells #[] 3);have v8:=v7.below n7
   have s8:(fun W:World=>Ce W w.heap.size 4 (.slice s.a1 d.pg.length s.c1)/\Ce W w.heap.size 6 (.slice s.a2 d.po.length s.c2)/\Ce W Bo 0 (Iv K)/\Ce W Bo 1 (Iv O)/\Ce W Bn 0 (Iv K2)/\Ce W Bn 1 (Iv O2)) (w6.drew.alloc (.cells #[] 3)):=⟨v8.arg.c4,v8.arg.c6,v8.ob.c0,v8.ob.c1,v8.nb.c0,v8.nb.c1⟩;refine Y0.one_plain (i:=18) (u:=Sv w6.drew.heap.size 0 0) (w':=w6.drew.alloc (.cells #[] 3)) (by kernel_rfl) rfl (by rfl) ?_ s8 ?_
   ·go_simp
   simp only[BZ.z,Act.put,Nat.reduceAdd];refine D7.one_rows (base:=w6.drew.heap.size) (i:=21) (by kernel_rfl) rfl (by rfl) (.tmp 60) (.tmp 62) rfl (J0.ibuf_made w6.drew (Nat.le_refl _)) s.a1 s.c1 d.pg (by rfl) (by rfl) (HL.out _ v8.bel).r1 (by omega) (by simp) ?_;intro a9 c9 w9 hb9 l9;simp only[Nat.zero_add,List.nil_append] at hb9 ⊢;have v9:=v8.keep l9 v7.le;have s9:(fun W:World=>Ce W w.heap.size 4 (.slice s.a1 d.pg.length s.c1)/\Ce W w.heap.size 6 (.slice s.a2 d.po.length s.c2)/\Ce W Bo 0 (Iv K)/\Ce W Bo 1 (Iv O)/\Ce W Bn 0 (Iv K2)/\Ce W Bn 1 (Iv O2)) (w9):=⟨v9.arg.c4,v9.arg.c6,v9.ob.c0,v9.ob.c1,v9.nb.c0,v9.nb.c1⟩;refine ⟨s9,?_⟩;simp only[BZ.z,Act.put,Nat.reduceAdd];refine D7.one_rows (base:=w6.drew.heap.size) (i:=24) (by kernel_rfl) rfl (by rfl) (.tmp 63) (.tmp 65) rfl hb9 s.a2 s.c2 d.po (by rfl) (by rfl) (HL.out _ v9.bel).r2 (by omega) (Nat.le_trans n7.size l9.size) ?_;intro ba bc wb hbb lb;have vb:=v9.keep lb v7.le;have sb:(fun W:World=>Ce W w.heap.size 4 (.slice s.a1 d.pg.length s.c1)/\Ce W w.heap.size 6 (.slice s.a2 d.po.length s.c2)/\Ce W Bo 0 (Iv K)/\Ce W Bo 1 (Iv O)/\Ce W Bn 0 (Iv K2)/\Ce W Bn 1 (Iv O2)) (wb):=⟨vb.arg.c4,vb.arg.c6,vb.ob.c0,vb.ob.c1,vb.nb.c0,vb.nb.c1⟩;refine ⟨sb,?_⟩;simp only[BZ.z,Act.put,Nat.reduceAdd]
   have f6:Bq w6 wb:=((show Bq w6 (w6.drew.alloc (.cells #[] 3)) from ⟨n7.os,n7.tape,n7.output,n7.size,n7.block⟩).trans l9).trans lb
   have hpl:d.pg.length+d.po.length=(d.pg++d.po).length:=List.length_append.symm;have hbx:=hbb;rw[hpl] at hbx;have HA2:=D0.l05Among a6 ba c6 bc Z (d.pg++d.po) wb (by omega) (by rw[List.length_append];omega) (hbuf6.below f6).own.row hbx.own.row;rw[HAm.out,<- hpl] at HA2;clear hpl hbx;refine Y0.one_call2w (i:=25) (by kernel_rfl) rfl (by rfl) (.tmp 59) (.tmp 66) _ rfl ((.slice a6 Z.length c6)) ((.slice ba (d.pg.length+d.po.length) bc)) (by rfl) (by rfl) (enters_of func95 (by kernel_rfl) rfl) ((HA2).mono ?_);rintro e wz ⟨rfl,ez⟩;subst wz;refine ⟨_,rfl,sb,?_⟩;simp only[BZ.z,Act.put,Nat.reduceAdd];refine BT.r 26 (.bool false) sb ?_;refine BT.r 27 (.bool false) sb ?_;refine wpAnyH_done (by kernel_rfl) ?_ _;have y0:=vb.arg.c0;have y1:=vb.arg.c1;have y2:=vb.arg.c2;have y3:=vb.arg.c3;have y4:=vb.arg.c4;have y5:=vb.arg.c5;have y6:=vb.arg.c6;have y7:=vb.arg.c7
   go_wp2_with (first
    | (go_at_call 74;refine (HBe.out _).mono ?_;rintro e wc ⟨ab,cb,rfl,ob,bc'⟩;have vc:=vb.below bc';have y0:=vc.arg.c0;have y1:=vc.arg.c1;have y2:=vc.arg.c2;have y3:=vc.arg.c3;have y4:=vc.arg.c4;have y5:=vc.arg.c5;have y6:=vc.arg.c6;have y7:=vc.arg.c7)
    | (go_at_call 73;refine (HNo.out _).mono ?_;rintro e we ⟨an,cn,rfl,on,be'⟩;have ve:=vc.below be';have obe:=ob.below be'))
   go_ret;exact ⟨ret_bool HV.out.symm,ve.bel⟩
  ·subst g3
   have HV:Hid (verdict mem d=entOk mem d Z es):=hv;clear hv HR;have HAm:Hid (N0.among Z (d.pg++d.po)=true):=g6;subst g7
   have hkn:K2≠0:=by
    have h:K2=K:=by simpa using g4
    rw[h];exact HK0.out
   replace HNo:Hid _:=HNo.out rfl hkn;clear hkn;have s7:(fun W:World=>Ce W w.heap.size 4 (.slice s.a1 d.pg.length s.c1)/\Ce W w.heap.size 6 (.slice s.a2 d.po.length s.c2)/\Ce W Bo 0 (Iv K)/\Ce W Bo 1 (Iv O)/\Ce W Bn 0 (Iv K2)/\Ce W Bn 1 (Iv O2)) (w6.drew):=⟨v7.arg.c4,v7.arg.c6,v7.ob.c0,v7.ob.c1,v7.nb.c0,v7.nb.c1⟩;refine wp_region_held (S:=fun W=>Ce W w.heap.size 4 (.slice s.a1 d.pg.length s.c1)/\Ce W w.heap.size 6 (.slice s.a2 d.po.length s.c2)/\Ce W Bo 0 (Iv K)/\Ce W Bo 1 (Iv O)/\Ce W Bn 0 (Iv K2)/\Ce W Bn 1 (Iv O2)) (by kernel_rfl) ?_;refine BT.r 0 (.bool true) s7 ?_;refine BT.r 1 (.bool false) s7 ?_;refine BT.r 2 (.bool false) s7 ?_;refine BT.s 3 (Pv Bn 0) s7 ?_;refine BT.s 4 (Iv K2) s7 ?_;refine BT.s 5 (Pv Bo 0) s7 ?_;refine BT.s 6 (Iv K) s7 ?_;refine BT.s 7 (.bool false) s7 ?_;refine BT.r 8 (.bool false) s7 ?_;refine BT.r 9 (.bool false) s7 ?_;refine BT.s 10 (Pv Bn 1) s7 ?_;refine BT.s 11 (Iv O2) s7 ?_;refine BT.s 12 (Pv Bo 1) s7 ?_;refine BT.s 13 (Iv O) s7 ?_;refine BT.s 14 (.bool false) s7 ?_;refine BT.r 15 (.bool false) s7 ?_;refine BT.r 16 (.bool false) s7 ?_;refine BT.r 17 (.slice a6 Z.length c6) s7 ?_;refine BT.s 19 (Pv w.heap.size 4) s7 ?_;refine BT.s 20 (.slice s.a1 d.pg.length s.c1) s7 ?_;refine BT.s 22 (Pv w.heap.size 6) s7 ?_;refine BT.s 23 (.slice s.a2 d.po.length s.c2) s7 ?_;have n7:=K0.below_new w6.drew (.cells #[] 3);have v8:=v7.below n7
   have s8:(fun W:World=>Ce W w.heap.size 4 (.slice s.a1 d.pg.length s.c1)/\Ce W w.heap.size 6 (.slice s.a2 d.po.length s.c2)/\Ce W Bo 0 (Iv K)/\Ce W Bo 1 (Iv O)/\Ce W Bn 0 (Iv K2)/\Ce W Bn 1 (Iv O2)) (w6.drew.alloc (.cells #[] 3)):=⟨v8.arg.c4,v8.arg.c6,v8.ob.c0,v8.ob.c1,v8.nb.c0,v8.nb.c1⟩;refine Y0.one_plain (i:=18) (u:=Sv w6.drew.heap.size 0 0) (w':=w6.drew.alloc (.cells #[] 3)) (by kernel_rfl) rfl (by rfl) ?_ s8 ?_
   ·go_simp
   simp only[BZ.z,Act.put,Nat.reduceAdd];refine D7.one_rows (base:=w6.drew.heap.size) (i:=21) (by kernel_rfl) rfl (by rfl) (.tmp 60) (.tmp 62) rfl (J0.ibuf_made w6.drew (Nat.le_refl _)) s.a1 s.c1 d.pg (by rfl) (by rfl) (HL.out _ v8.bel).r1 (by omega) (by simp) ?_;intro a9 c9 w9 hb9 l9;simp only[Nat.zero_add,List.nil_append] at hb9 ⊢;have v9:=v8.keep l9 v7.le;have s9:(fun W:World=>Ce W w.heap.size 4 (.slice s.a1 d.pg.length s.c1)/\Ce W w.heap.size 6 (.slice s.a2 d.po.length s.c2)/\Ce W Bo 0 (Iv K)/\Ce W Bo 1 (Iv O)/\Ce W Bn 0 (Iv K2)/\Ce W Bn 1 (Iv O2)) (w9):=⟨v9.arg.c4,v9.arg.c6,v9.ob.c0,v9.ob.c1,v9.nb.c0,v9.nb.c1⟩;refine ⟨s9,?_⟩;simp only[BZ.z,Act.put,Nat.reduceAdd];refine D7.one_rows (base:=w6.drew.heap.size) (i:=24) (by kernel_rfl) rfl (by rfl) (.tmp 63) (.tmp 65) rfl hb9 s.a2 s.c2 d.po (by rfl) (by rfl) (HL.out _ v9.bel).r2 (by omega) (Nat.le_trans n7.size l9.size) ?_;intro ba bc wb hbb lb;have vb:=v9.keep lb v7.le;have sb:(fun W:World=>Ce W w.heap.size 4 (.slice s.a1 d.pg.length s.c1)/\Ce W w.heap.size 6 (.slice s.a2 d.po.length s.c2)/\Ce W Bo 0 (Iv K)/\Ce W Bo 1 (Iv O)/\Ce W Bn 0 (Iv K2)/\Ce W Bn 1 (Iv O2)) (wb):=⟨vb.arg.c4,vb.arg.c6,vb.ob.c0,vb.ob.c1,vb.nb.c0,vb.nb.c1⟩;refine ⟨sb,?_⟩;simp only[BZ.z,Act.put,Nat.reduceAdd]
   have f6:Bq w6 wb:=((show Bq w6 (w6.drew.alloc (.cells #[] 3)) from ⟨n7.os,n7.tape,n7.output,n7.size,n7.block⟩).trans l9).trans lb
   have hpl:d.pg.length+d.po.length=(d.pg++d.po).length:=List.length_append.symm;have hbx:=hbb;rw[hpl] at hbx;have HA2:=D0.l05Among a6 ba c6 bc Z (d.pg++d.po) wb (by omega) (by rw[List.length_append];omega) (hbuf6.below f6).own.row hbx.own.row;rw[HAm.out,<- hpl] at HA2;clear hpl hbx;refine Y0.one_call2w (i:=25) (by kernel_rfl) rfl (by rfl) (.tmp 59) (.tmp 66) _ rfl ((.slice a6 Z.length c6)) ((.slice ba (d.pg.length+d.po.length) bc)) (by rfl) (by rfl) (enters_of func95 (by kernel_rfl) rfl) ((HA2).mono ?_);rintro e wz ⟨rfl,ez⟩;subst wz;refine ⟨_,rfl,sb,?_⟩;simp only[BZ.z,Act.put,Nat.reduceAdd];refine BT.r 26 (.bool false) sb ?_;refine BT.r 27 (.bool false) sb ?_;refine wpAnyH_done (by kernel_rfl) ?_ _;have y0:=vb.arg.c0;have y1:=vb.arg.c1;have y2:=vb.arg.c2;have y3:=vb.arg.c3;have y4:=vb.arg.c4;have y5:=vb.arg.c5;have y6:=vb.arg.c6;have y7:=vb.arg.c7
   go_wp2_with (first
    | (go_at_call 74;refine (HBe.out _).mono ?_;rintro e wc ⟨ab,cb,rfl,ob,bc'⟩;have vc:=vb.below bc';have y0:=vc.arg.c0;have y1:=vc.arg.c1;have y2:=vc.arg.c2;have y3:=vc.arg.c3;have y4:=vc.arg.c4;have y5:=vc.arg.c5;have y6:=vc.arg.c6;have y7:=vc.arg.c7)
    | (go_at_call 73;refine (HNo.out _).mono ?_;rintro e we ⟨an,cn,rfl,on,be'⟩;have ve:=vc.below be';have obe:=ob.below be'))
   have hol:=D6.oldE_len d;have hbe:=(hbuf6.below f6).below (bc'.trans (be'.mono bc'.size))
   have hap:Apt a6 Z.length c6 ab an (inos (N5.oldE d)) (inos es):=by
    intro g hg;have hlt:=(hbuf6.below f6).2.lt g hg;have hsz:=bc'.size;refine ⟨fun h q e=>?_,fun h q e=>?_⟩
    ·have:=(own_lt ob h q e).1
     omega
    ·have:=(own_lt on h q e).1
     omega
   clear y0 y1 y2 y3 y4 y5 y6 y7 sb s9 s8 s7 v9 v8 v7 vc hbuf6 HA2 hb9 hbb f6 vs6 vb
   go_loopw [9,13] (fun v i w'=>∃ (j cp:Nat) (p:Option Addr),j<=es.length/\i=Iv j/\v=.slice p (gath mem d Z es j).length cp/\IBuf (Bn+1) w' p (gath mem d Z es j).length cp (gath mem d Z es j)/\N0.to (entAt mem d es) j=true/\VS w d s (I0.vals K O S a Y.length c) (I0.vals K2 O2 S2 a2 Z.length c2) Bo Bn (Bn+1) w'/\J0.Own wb.heap.size w' ab (inos (N5.oldE d))/\J0.Own wc.heap.size w' an (inos es)/\Apt p (gath mem d Z es j).length cp ab an (inos (N5.oldE d)) (inos es)) (fun _ i _=>es.length-(intOf i).toNat)
   case atStart=>exact ⟨0,c6,a6,Nat.zero_le _,rfl,rfl,hbe,rfl,ve,obe,on,hap⟩
   case round=>
    obtain ⟨j,cp,p,hj,rfl,rfl,hbuf,hok,vr,obr,onr,hapr⟩:=hrel;clear hbe ve obe on hap bc' be' ob;have hgl:=D3.gath_len mem d Z es j
    by_cases hlt:j<es.length
    ·have hat:entAt mem d es j=(had d (T0.ent es j).1 || D2.newOk mem d (T0.ent es j).1):=rfl
     have hga:gath mem d Z es (j+1)=if had d (T0.ent es j).1 then gath mem d Z es j else gath mem d Z es j++G0.gZ (O0.recd mem (T0.ent es j).1):=rfl
     have hge:=D0.inos_get es j hlt
     have hlj:j<(inos es).length:=by rw[D0.inos_length];exact hlt
     obtain ⟨b,off,rfl,hbl,hc⟩:=onr.row.get (k:=j) hlj;have y1:=hc j hlj;rw[hge] at y1;obtain ⟨x,ex⟩:∃ x,(T0.ent es j).1=x:=⟨_,rfl⟩;rw[ex] at y1 hat hga
     have e1:(0:Int)<=(j:Int):=by omega
     have e2:(j:Int)<((inos es).length:Int):=by omega
     clear hlj
     have HH1:Hid (∀ W,J0.Own wb.heap.size W ab (inos (N5.oldE d))->Calls prog 64 #[.slice ab (inos (N5.oldE d)).length cb,Iv x] W (Rw (.bool (had d x)) W)):=fun W h=>N2.hasRow ab cb (inos (N5.oldE d)) x W (by rw[D0.inos_length];omega) h.row
     clear hc hge ex
     cases hh:had d x with
     | true=>
      have HG:Hid (gath mem d Z es (j+1)=gath mem d Z es j):=by show _=_;rw[hga,hh];rfl
      have HOk:Hid (N0.to (entAt mem d es) (j+1)=true):=N0.to_step hok (by rw[hat,hh];rfl);rw[hh] at HH1;clear hat hga hok hh
      go_wp2_with (go_at_call 64;refine (HH1.out _ obr).mono ?_;rintro e wz ⟨rfl,ez⟩;subst wz)
      go_roundw
      case rel=>exact ⟨j+1,cp,p,by omega,by go_num,by rw[HG.out],by rw[HG.out];exact hbuf,HOk.out,vr,obr,onr,by rw[HG.out];exact hapr⟩
      case measure=>simp[intOf];omega
     | false=>
      rw[hh] at HH1;have hrx:=O0.recd_size mem x hms
      have HRx:Hid (∀ W,Calls prog 69 #[.string mem,Iv x] W (Rw (.string (O0.recd mem x)) W)):=fun W=>O1.l03Rec mem x W hms
      have HGx:Hid (∀ W,Calls prog 92 #[.string (O0.recd mem x)] W fun e w'=>∃ a c,e=.returned (.tuple #[I0.val (G0.gK (O0.recd mem x)) (G0.gO (O0.recd mem x)) (G0.gS (O0.recd mem x)) a (G0.gZ (O0.recd mem x)).length c,.bool (G0.isI (O0.recd mem x))])/\J0.Own W.heap.size w' a (G0.gZ (O0.recd mem x))/\(G0.gZ (O0.recd mem x)).length<=c/\Bq W w'):=fun W=>G4.spec_GetInode _ W hrx
      have hxl:=D3.gZ_len (O0.recd mem x);have hnew:=new_spec mem d x
      have HG0:Hid (gath mem d Z es (j+1)=gath mem d Z es j++G0.gZ (O0.recd mem x)):=by show _=_;rw[hga,hh];rfl
      have HAt:Hid (D2.newOk mem d x=true->N0.to (entAt mem d es) (j+1)=true):=fun hn=>N0.to_step hok (by rw[hat,hh,hn];rfl)
      have HBad:Hid (D2.newOk mem d x=false->verdict mem d=false):=fun hn=>by rw[HV.out,entOk,N0.to_bad hlt (by rw[hat,hh,hn];rfl),Bool.false_and]
      obtain ⟨Q,hQ⟩:∃ Q,O0.recd mem x=Q:=⟨_,rfl⟩;rw[hQ] at HRx HGx hxl hnew HG0;obtain ⟨KX,hKX⟩:∃ K,G0.gK Q=K:=⟨_,rfl⟩;obtain ⟨OX,hOX⟩:∃ O,G0.gO Q=O:=⟨_,rfl⟩;obtain ⟨SX,hSX⟩:∃ S,G0.gS Q=S:=⟨_,rfl⟩;obtain ⟨YX,hYX⟩:∃ Z,G0.gZ Q=Z:=⟨_,rfl⟩;obtain ⟨bI,hbI⟩:∃ b,G0.isI Q=b:=⟨_,rfl⟩;obtain ⟨nk,hnk⟩:∃ b,D2.newOk mem d x=b:=⟨_,rfl⟩;rw[hKX,hOX,hSX,hYX,hbI] at HGx hnew;rw[hYX] at hxl HG0;rw[hnk] at hnew HAt HBad;clear hat hga hok hh hQ hKX hOX hSX hYX hbI hnk hrx;obtain ⟨G,hG⟩:∃ G,gath mem d Z es j=G:=⟨_,rfl⟩;rw[hG] at HG0 hbuf hgl hapr ⊢;clear hG;have HNw:Hid _:=hnew;clear hnew
      go_wp2_with (first
       | (go_at_call 64;refine (HH1.out _ obr).mono ?_;rintro e wz ⟨rfl,ez⟩;subst wz)
       | (go_at_call 69;refine (HRx.out _).mono ?_;rintro e wz ⟨rfl,ez⟩;subst wz)
       | (go_at_call 92;refine (HGx.out _).mono ?_;rintro e w7 ⟨ax,cx,rfl,hox,hcx,b7⟩;have n7:=K0.below_new w7 (.cells (Iq KX OX SX ax YX.length cx) 96);have kx:=K0.blk_new (I0.vals KX OX SX ax YX.length cx) w7 96;have f7:=b7.trans (n7.mono b7.size);have vx:=(vr.below b7).below n7;have obx:=(obr.below b7).below n7;have onx:=(onr.below b7).below n7;have rowx:=hox.row.below n7;have y2:=(f7.cell (p:=⟨b,off+j,none⟩) hbl).trans y1))
      obtain ⟨Bx,hBx⟩:∃ B,w7.heap.size=B:=⟨_,rfl⟩;obtain ⟨Wx,hWx⟩:∃ Wx,w7.alloc (.cells (Iq KX OX SX ax YX.length cx) 96)=Wx:=⟨_,rfl⟩;rw[hBx,hWx] at kx;rw[hWx] at f7 vx obx onx rowx y2 ⊢;simp only[hBx]
      have HF:Hid (∀ m,Calls prog 64 #[.slice s.a3 d.fr.length s.c3,Iv x] (Wx.drewN m) fun e w'=>e=.returned (.bool (P0.has d.fr x))/\w'=Wx.drewN m):=fun m=>N2.hasRow s.a3 s.c3 d.fr x _ (by omega) ((HL.out _ vx.bel).r3.drewN m)
      have HAx:Hid (∀ m,Calls prog 95 #[.slice ax YX.length cx,.slice s.a2 d.po.length s.c2] (Wx.drewN m) fun e w'=>e=.returned (.bool (N0.among YX d.po))/\w'=Wx.drewN m):=fun m=>D0.l05Among ax s.a2 cx s.c2 YX d.po _ (by omega) (by omega) (rowx.drewN m) ((HL.out _ vx.bel).r2.drewN m)
      have z1:=vx.arg.c1;have z6:=vx.arg.c6;have z7:=vx.arg.c7;have p0:=kx.c0;have p1:=kx.c1;have p2:=kx.c2;have p3:=kx.c3;clear hWx hBx HRx HGx HH1
      rcases HNw.out with ⟨gh,hn⟩ | ⟨gh,gI,hn⟩ | ⟨gh,gI,gk,hn⟩ | ⟨gh,gI,gk,go,hn⟩ | ⟨gh,gI,gk,go,gA,hn⟩ | ⟨gh,gI,gk,go,gA,gd,gS,hn⟩ | ⟨gh,gI,gk,go,gA,gd,gS,hn⟩ | ⟨gh,gI,gk,go,gA,gd,hn⟩
      ·subst hn
       go_quiet (((go_at_call 64;exact quiet_bool (HF.out _) gh)))
       go_wp2;go_ret;exact ⟨ret_bool (HBad.out (by trivial)).symm,K0.below_drewN vx.bel nq⟩
      ·subst hn
       subst gI
       go_quiet (((go_at_call 64;exact quiet_bool (HF.out _) gh)))
       go_wp2;go_ret;exact ⟨ret_bool (HBad.out (by trivial)).symm,K0.below_drewN vx.bel nq⟩
      ·subst hn
       subst gI
       go_quiet (((go_at_call 64;exact quiet_bool (HF.out _) gh)))
       go_wp2;go_ret;exact ⟨ret_bool (HBad.out (by trivial)).symm,K0.below_drewN vx.bel nq⟩
      ·subst hn
       subst gI
       go_quiet (((go_at_call 64;exact quiet_bool (HF.out _) gh)))
       go_wp2;go_ret;exact ⟨ret_bool (HBad.out (by trivial)).symm,K0.below_drewN vx.bel nq⟩
      ·subst hn
       subst gI
       go_quiet (((first | (go_at_call 64;exact quiet_bool (HF.out _) gh) | (go_at_call 95;exact quiet_bool (HAx.out _) gA))))
       go_wp2;go_ret;exact ⟨ret_bool (HBad.out (by trivial)).symm,K0.below_drewN vx.bel nq⟩
      ·subst hn
       subst gI
       go_quiet (((first | (go_at_call 64;exact quiet_bool (HF.out _) gh) | (go_at_call 95;exact quiet_bool (HAx.out _) gA))))
       go_wp2;go_ret;exact ⟨ret_bool (HBad.out (by trivial)).symm,K0.below_drewN vx.bel nq⟩
      ·subst hn
       subst gI
       go_quiet (((first | (go_at_call 64;exact quiet_bool (HF.out _) gh) | (go_at_call 95;exact quiet_bool (HAx.out _) gA))))
       have p3':=(kx.drewN nq).c3;have hbx:=(hbuf.below f7).drewN nq
       go_wp2_with (at_builtin;refine D7.append_rows2 rfl (.tmp 144) (.tmp 146) rfl hbx _ _ YX (by rfl) (by rfl) (rowx.drewN nq) (by omega) (Nat.le_trans vr.le f7.size) ?_;intro a9 c9 w9 hb9 hg9 hw9)
       have vs9:=(vx.below (K0.below_drewN (Below.refl _ _) nq)).grown hg9 (J0.own_block hbx);have ob9:=own_keep (obx.drewN nq) hg9 (fun hz q e er=>(hapr q er).1 hz q e rfl);have on9:=own_keep (onx.drewN nq) hg9 (fun hz q e er=>(hapr q er).2 hz q e rfl)
       have ap9:Apt a9 (G.length+YX.length) c9 ab (some ⟨b,off,none⟩) (inos (N5.oldE d)) (inos es):=by
        intro g hgg
        rcases hw9 g hgg with h | h
        ·exact hapr g h
        ·refine ⟨fun hz q e=>?_,fun hz q e=>?_⟩
         ·have h2:=(own_lt obx hz q e).2
          have h3:g=Wx.heap.size:=h;omega
         ·have h2:=(own_lt onx hz q e).2
          have h3:g=Wx.heap.size:=h;omega
       go_roundw
       case rel=>exact ⟨j+1,c9,a9,by omega,by go_num,by rw[HG0.out,List.length_append],by rw[HG0.out,List.length_append];exact hb9,HAt.out (by trivial),vs9,ob9,on9,by rw[HG0.out,List.length_append];exact ap9⟩
       case measure=>simp[intOf];omega
      ·subst hn
       subst gI
       go_quiet (((first | (go_at_call 64;exact quiet_bool (HF.out _) gh) | (go_at_call 95;exact quiet_bool (HAx.out _) gA))))
       have p3':=(kx.drewN nq).c3;have hbx:=(hbuf.below f7).drewN nq
       go_wp2_with (at_builtin;refine D7.append_rows2 rfl (.tmp 144) (.tmp 146) rfl hbx _ _ YX (by rfl) (by rfl) (rowx.drewN nq) (by omega) (Nat.le_trans vr.le f7.size) ?_;intro a9 c9 w9 hb9 hg9 hw9)
       have vs9:=(vx.below (K0.below_drewN (Below.refl _ _) nq)).grown hg9 (J0.own_block hbx);have ob9:=own_keep (obx.drewN nq) hg9 (fun hz q e er=>(hapr q er).1 hz q e rfl);have on9:=own_keep (onx.drewN nq) hg9 (fun hz q e er=>(hapr q er).2 hz q e rfl)
       have ap9:Apt a9 (G.length+YX.length) c9 ab (some ⟨b,off,none⟩) (inos (N5.oldE d)) (inos es):=by
        intro g hgg
        rcases hw9 g hgg with h | h
        ·exact hapr g h
        ·refine ⟨fun hz q e=>?_,fun hz q e=>?_⟩
         ·have h2:=(own_lt obx hz q e).2
          have h3:g=Wx.heap.size:=h;omega
         ·have h2:=(own_lt onx hz q e).2
          have h3:g=Wx.heap.size:=h;omega
       go_roundw
       case rel=>exact ⟨j+1,c9,a9,by omega,by go_num,by rw[HG0.out,List.length_append],by rw[HG0.out,List.length_append];exact hb9,HAt.out (by trivial),vs9,ob9,on9,by rw[HG0.out,List.length_append];exact ap9⟩
       case measure=>simp[intOf];omega
    ·obtain rfl:j=es.length:=by omega
     have e7:¬ es.length<(inos es).length:=by rw[D0.inos_length];omega
     have e6:decide (es.length<(inos es).length)=false:=decide_eq_false e7
     have e8:decide ((es.length:Int)<((inos es).length:Int))=false:=by rw[D0.inos_length];simp
     have HR:Hid (P0.pagesOk (gath mem d Z es es.length)=entOk mem d Z es):=by show _=_;rw[entOk,hok,Bool.true_and]
     have HP:=P1.l03Pages p cp (gath mem d Z es es.length) wr (by omega) hbuf.fits hbuf.own.row;clear hok hbuf
     go_wp2_with (go_at_call 59;refine HP.mono ?_;rintro e w9 ⟨rfl,n9,rfl⟩)
     go_ret;exact ⟨ret_bool (HR.out.trans HV.out.symm),K0.below_drewN vr.bel n9⟩
end E6
end Go.Proofs.YtlejhfnjmkdobaaGreatDoor
