/- Joined texts. -/
import Derived.Test.YtlejhfnjmkdobaaGreatDoorJtZK
import Derived.Test.YtlejhfnjmkdobaaGreatDoorJtZJ
set_option linter.unusedVariables false
set_option linter.unusedSimpArgs false
set_option maxRecDepth 10000
set_option maxHeartbeats 16000000
namespace Go.Proofs.YtlejhfnjmkdobaaGreatDoor
open ChangeShapes WideShapes ChangeAt RowKit
open Go.Proofs.Tryz
namespace KS
open N0 (Ln)
open N1 (Sl Lists Fit LB)
open Z0 (dat Kp Lns kval)
open Z4 (Bk bk_new truth)
open KO (gath Out)
open KP (once)
open KT (outS)
open US (used)
open TW (sound)
def lAt (k:Kp) (j:Nat):Bool:=KL.lOk (truth k) (used (truth k)) (dat k.ds j) && (decide (j=0) || decide ((dat k.ds (j-1)).ino<(dat k.ds j).ino))
def outs (k:Kp):Bool:=(outS k.mem k.ds k.ds.length).toList == (outS k.dur k.ds k.ds.length).toList
def sK (k:Kp):Bool:=D1.ok k.mem k.dur && (B1.inB k.ck 0 999999 && (sound (truth k) && (once (gath (fun d:Ln=>d.po) k.ds k.ds.length) && (once (gath (fun d:Ln=>d.ino :: d.fr) k.ds k.ds.length) && (outs k && N0.to (lAt k) k.ds.length)))))
theorem truth_size (k:Kp):(truth k).size=k.mem.size:=Z4.unAll_size _ _ _
theorem spec_KeeperOk (k:Kp) (a:Option Addr) (c:Nat) (ss:Nat->Sl) (w:World) (hm1:k.mem.size<=1048576) (hm2:k.dur.size<=1048576) (ht:k.ds.length+Z1.tot k.ds k.ds.length<=1048576) (hF:Z4.Fits k.ds ss) (hR:Lns w a k.ds ss) :
  Calls prog 17 #[kval k a c] w (Rb (.bool (sK k)) w):=by
 have xc:=bk_new w k a c
 have hn:k.ds.length<=1048576:=by omega
 have hg1:(gath (fun d:Ln=>d.po) k.ds k.ds.length).length<=1048576:=by
  have h1:=KO.gath_len (fun d:Ln=>d.po) k.ds 0 (fun d=>by unfold N3.total;omega) k.ds.length;omega
 have hg2:(gath (fun d:Ln=>d.ino :: d.fr) k.ds k.ds.length).length<=1048576:=by
  have h1:=KO.gath_len (fun d:Ln=>d.ino :: d.fr) k.ds 0 (fun d=>by unfold N3.total;simp only[List.length_cons];omega) k.ds.length;omega
 have htsz:=truth_size k
 have HL:Hid (∀ W,Bq w W->Lns W a k.ds ss):=fun W hb=>hR.below hb
 have HF:Hid (Z4.Fits k.ds ss):=hF
 have HTr:Hid (∀ W,Bq w W->Calls prog 30 #[kval k a c] W (Rb (.string (truth k)) W)):=fun W hb=>Z4.spec_Truth k a c ss W (by omega) hn hF (hR.below hb)
 have HDv:Hid (∀ W,Calls prog 31 #[.agg #[.string k.mem,.string k.dur]] W (Rb (.bool (D1.ok k.mem k.dur)) W)):=fun W=>(D1.spec_DevOk k.mem k.dur W (by unfold maxLen;omega) (by unfold maxLen;omega)).mono fun e w' ⟨he,hw⟩=>⟨he,by rw[hw];exact K0.below_new _ _⟩
 have HSo:Hid (∀ W,Calls prog 33 #[.string (truth k)] W (Rb (.bool (sound (truth k))) W)):=fun W=>TS.spec_Sound (truth k) W (by omega)
 have HUs:Hid (∀ W,Calls prog 38 #[.string (truth k)] W fun e w'=>∃ a c,e=.returned (.slice a (used (truth k)).length c)/\P0.Row w' a (used (truth k))/\Bq W w'):=fun W=>(US.spec_Used (truth k) W (by omega)).mono fun e w' ⟨a,c,he,ho,hb⟩=>⟨a,c,he,ho.row,hb⟩
 have HPo:Hid (∀ W,Bq w W->Calls prog 35 #[kval k a c] W (Out (gath (fun d:Ln=>d.po) k.ds k.ds.length) W)):=fun W hb=>KO.l06Pools k a c ss W hn ht (hR.below hb)
 have HLe:Hid (∀ W,Bq w W->Calls prog 36 #[kval k a c] W (Out (gath (fun d:Ln=>d.ino :: d.fr) k.ds k.ds.length) W)):=fun W hb=>KP.l06Lent k a c ss W hn ht (hR.below hb)
 have HOu:Hid (∀ W,Bq w W->Calls prog 37 #[kval k a c] W (Rb (.bool (outs k)) W)):=fun W hb=>KT.l06Outside k a c ss W (by omega) (by omega) hn hF (hR.below hb)
 have HT1:Hid (∀ a c W,(gath (fun d:Ln=>d.po) k.ds k.ds.length).length<=c->P0.Row W a (gath (fun d:Ln=>d.po) k.ds k.ds.length)->Calls prog 34 #[.slice a (gath (fun d:Ln=>d.po) k.ds k.ds.length).length c] W fun e w'=>e=.returned (.bool (!(once (gath (fun d:Ln=>d.po) k.ds k.ds.length))))/\∃ n,w'=W.drewN n):=fun a c W hc h=>KP.l06Twice a c _ W (by omega) hc h
 have HT2:Hid (∀ a c W,(gath (fun d:Ln=>d.ino :: d.fr) k.ds k.ds.length).length<=c->P0.Row W a (gath (fun d:Ln=>d.ino :: d.fr) k.ds k.ds.length)->Calls prog 34 #[.slice a (gath (fun d:Ln=>d.ino :: d.fr) k.ds k.ds.length).length c] W fun e w'=>e=.returned (.bool (!(once (gath (fun d:Ln=>d.ino :: d.fr) k.ds k.ds.length))))/\∃ n,w'=W.drewN n):=fun a c W hc h=>KP.l06Twice a c _ W (by omega) hc h
 have HLk:Hid (∀ (j:Nat) (ua:Option Addr) (uc:Nat) W,(truth k).size=768->Bq w W->P0.Row W ua (used (truth k))->j<k.ds.length->Calls prog 39 #[.string (truth k),.slice ua (used (truth k)).length uc,N1.val (dat k.ds j) (ss j)] W (Rb (.bool (KL.lOk (truth k) (used (truth k)) (dat k.ds j))) W)):=fun j ua uc W h1 hb hu hj=>by
  obtain ⟨f1,f2,f3⟩:=hF j hj;exact KL.l06LoanOk (truth k) ua uc (used (truth k)) (dat k.ds j) (ss j) W h1 f1 f2 f3 (US.used_len _) ((hR.below hb).sub j hj) hu
 have HD:Hid (D1.ok k.mem k.dur=true->(truth k).size=768):=fun h=>by rw[truth_size];exact (D1.ok_true h).1
 have c0:=xc.arg.c0;have c1:=xc.arg.c1;have c2:=xc.arg.c2;have c3:=xc.arg.c3;clear hR hF;unfold sK;obtain ⟨m,em⟩:∃ m,truth k=m:=⟨_,rfl⟩;obtain ⟨us,eu⟩:∃ us,used m=us:=⟨_,rfl⟩;rw[em,eu] at HUs HLk;rw[em] at HTr HSo HD ⊢;obtain ⟨g1,eg1⟩:∃ g,gath (fun d:Ln=>d.po) k.ds k.ds.length=g:=⟨_,rfl⟩;obtain ⟨g2,eg2⟩:∃ g,gath (fun d:Ln=>d.ino :: d.fr) k.ds k.ds.length=g:=⟨_,rfl⟩;rw[eg1] at HPo HT1 ⊢;rw[eg2] at HLe HT2 ⊢
 have HLA:Hid (∀ j,lAt k j=(KL.lOk m us (dat k.ds j) && (decide (j=0) || decide ((dat k.ds (j-1)).ino<(dat k.ds j).ino)))):=fun j=>by
  show lAt k j=_
  unfold lAt;rw[em,eu]
 clear em eu eg1 eg2 htsz hg1 hg2
 cases hc0:D1.ok k.mem k.dur with
 | false=>
  rw[hc0] at HDv;go_enter func17,ntmps17
  go_wp2_with (first
   | (go_at_call 30;refine (HTr.out _ xc.bel).mono ?_;rintro e w1 ⟨rfl,b1⟩;replace xc:=xc.below b1;replace c0:=xc.arg.c0;replace c1:=xc.arg.c1;replace c2:=xc.arg.c2;replace c3:=xc.arg.c3)
   | (go_at_call 31;refine (HDv.out _).mono ?_;rintro e w1 ⟨rfl,b1⟩;replace xc:=xc.below b1;replace c0:=xc.arg.c0;replace c1:=xc.arg.c1;replace c2:=xc.arg.c2;replace c3:=xc.arg.c3))
  go_ret;exact ⟨rfl,xc.bel⟩
 | true=>
  rw[hc0] at HDv;have hm:m.size=768:=HD.out hc0
  cases hc1:B1.inB k.ck 0 999999 with
  | false=>
   go_enter func17,ntmps17
   go_wp2_with (first
    | (go_at_call 30;refine (HTr.out _ xc.bel).mono ?_;rintro e w1 ⟨rfl,b1⟩;replace xc:=xc.below b1;replace c0:=xc.arg.c0;replace c1:=xc.arg.c1;replace c2:=xc.arg.c2;replace c3:=xc.arg.c3)
    | (go_at_call 31;refine (HDv.out _).mono ?_;rintro e w1 ⟨rfl,b1⟩;replace xc:=xc.below b1;replace c0:=xc.arg.c0;replace c1:=xc.arg.c1;replace c2:=xc.arg.c2;replace c3:=xc.arg.c3)
    | (go_at_call 32;refine (B1.l01In_any _ _ _ _).mono ?_;rintro e w' ⟨rfl,rfl⟩))
   go_ret;exact ⟨rfl,xc.bel⟩
  | true=>
   cases hc2:sound m with
   | false=>
    rw[hc2] at HSo;go_enter func17,ntmps17
    go_wp2_with (first
     | (go_at_call 30;refine (HTr.out _ xc.bel).mono ?_;rintro e w1 ⟨rfl,b1⟩;replace xc:=xc.below b1;replace c0:=xc.arg.c0;replace c1:=xc.arg.c1;replace c2:=xc.arg.c2;replace c3:=xc.arg.c3)
     | (go_at_call 31;refine (HDv.out _).mono ?_;rintro e w1 ⟨rfl,b1⟩;replace xc:=xc.below b1;replace c0:=xc.arg.c0;replace c1:=xc.arg.c1;replace c2:=xc.arg.c2;replace c3:=xc.arg.c3)
     | (go_at_call 32;refine (B1.l01In_any _ _ _ _).mono ?_;rintro e w' ⟨rfl,rfl⟩)
     | (go_at_call 33;refine (HSo.out _).mono ?_;rintro e w1 ⟨rfl,b1⟩;replace xc:=xc.below b1;replace c0:=xc.arg.c0;replace c1:=xc.arg.c1;replace c2:=xc.arg.c2;replace c3:=xc.arg.c3))
    go_ret;exact ⟨rfl,xc.bel⟩
   | true=>
    rw[hc2] at HSo
    cases hc3:once g1 with
    | false=>
     rw[hc3] at HT1;go_enter func17,ntmps17
     go_wp2_with (first
      | (go_at_call 30;refine (HTr.out _ xc.bel).mono ?_;rintro e w1 ⟨rfl,b1⟩;replace xc:=xc.below b1;replace c0:=xc.arg.c0;replace c1:=xc.arg.c1;replace c2:=xc.arg.c2;replace c3:=xc.arg.c3)
      | (go_at_call 31;refine (HDv.out _).mono ?_;rintro e w1 ⟨rfl,b1⟩;replace xc:=xc.below b1;replace c0:=xc.arg.c0;replace c1:=xc.arg.c1;replace c2:=xc.arg.c2;replace c3:=xc.arg.c3)
      | (go_at_call 32;refine (B1.l01In_any _ _ _ _).mono ?_;rintro e w' ⟨rfl,rfl⟩)
      | (go_at_call 33;refine (HSo.out _).mono ?_;rintro e w1 ⟨rfl,b1⟩;replace xc:=xc.below b1;replace c0:=xc.arg.c0;replace c1:=xc.arg.c1;replace c2:=xc.arg.c2;replace c3:=xc.arg.c3)
      | (go_at_call 35;refine (HPo.out _ xc.bel).mono ?_;rintro e w1 ⟨ga,gc,rfl,go1,gc1,b1⟩;replace xc:=xc.below b1;replace c0:=xc.arg.c0;replace c1:=xc.arg.c1;replace c2:=xc.arg.c2;replace c3:=xc.arg.c3;have gr:=go1.row)
      | (go_at_call 34;refine (HT1.out _ _ _ gc1 gr).mono ?_;rintro e w1 ⟨rfl,n1,rfl⟩;replace xc:=xc.below (K0.below_drewN (Below.refl _ _) n1);replace c0:=xc.arg.c0;replace c1:=xc.arg.c1;replace c2:=xc.arg.c2;replace c3:=xc.arg.c3;clear HT1 gr gc1))
     go_ret;exact ⟨rfl,xc.bel⟩
    | true=>
     rw[hc3] at HT1
     cases hc4:once g2 with
     | false=>
      rw[hc4] at HT2;go_enter func17,ntmps17
      go_wp2_with (first
       | (go_at_call 30;refine (HTr.out _ xc.bel).mono ?_;rintro e w1 ⟨rfl,b1⟩;replace xc:=xc.below b1;replace c0:=xc.arg.c0;replace c1:=xc.arg.c1;replace c2:=xc.arg.c2;replace c3:=xc.arg.c3)
       | (go_at_call 31;refine (HDv.out _).mono ?_;rintro e w1 ⟨rfl,b1⟩;replace xc:=xc.below b1;replace c0:=xc.arg.c0;replace c1:=xc.arg.c1;replace c2:=xc.arg.c2;replace c3:=xc.arg.c3)
       | (go_at_call 32;refine (B1.l01In_any _ _ _ _).mono ?_;rintro e w' ⟨rfl,rfl⟩)
       | (go_at_call 33;refine (HSo.out _).mono ?_;rintro e w1 ⟨rfl,b1⟩;replace xc:=xc.below b1;replace c0:=xc.arg.c0;replace c1:=xc.arg.c1;replace c2:=xc.arg.c2;replace c3:=xc.arg.c3)
       | (go_at_call 35;refine (HPo.out _ xc.bel).mono ?_;rintro e w1 ⟨ga,gc,rfl,go1,gc1,b1⟩;replace xc:=xc.below b1;replace c0:=xc.arg.c0;replace c1:=xc.arg.c1;replace c2:=xc.arg.c2;replace c3:=xc.arg.c3;have gr:=go1.row)
       | (go_at_call 36;refine (HLe.out _ xc.bel).mono ?_;rintro e w1 ⟨ha,hc,rfl,ho1,hc1,b1⟩;replace xc:=xc.below b1;replace c0:=xc.arg.c0;replace c1:=xc.arg.c1;replace c2:=xc.arg.c2;replace c3:=xc.arg.c3;have hr:=ho1.row)
       | (go_at_call 34;refine (HT1.out _ _ _ gc1 gr).mono ?_;rintro e w1 ⟨rfl,n1,rfl⟩;replace xc:=xc.below (K0.below_drewN (Below.refl _ _) n1);replace c0:=xc.arg.c0;replace c1:=xc.arg.c1;replace c2:=xc.arg.c2;replace c3:=xc.arg.c3;clear HT1 gr gc1)
       | (go_at_call 34;refine (HT2.out _ _ _ hc1 hr).mono ?_;rintro e w1 ⟨rfl,n1,rfl⟩;replace xc:=xc.below (K0.below_drewN (Below.refl _ _) n1);replace c0:=xc.arg.c0;replace c1:=xc.arg.c1;replace c2:=xc.arg.c2;replace c3:=xc.arg.c3))
      go_ret;exact ⟨rfl,xc.bel⟩
     | true=>
      rw[hc4] at HT2
      cases hc5:outs k with
      | false=>
       rw[hc5] at HOu;go_enter func17,ntmps17
       go_wp2_with (first
        | (go_at_call 30;refine (HTr.out _ xc.bel).mono ?_;rintro e w1 ⟨rfl,b1⟩;replace xc:=xc.below b1;replace c0:=xc.arg.c0;replace c1:=xc.arg.c1;replace c2:=xc.arg.c2;replace c3:=xc.arg.c3)
        | (go_at_call 31;refine (HDv.out _).mono ?_;rintro e w1 ⟨rfl,b1⟩;replace xc:=xc.below b1;replace c0:=xc.arg.c0;replace c1:=xc.arg.c1;replace c2:=xc.arg.c2;replace c3:=xc.arg.c3)
        | (go_at_call 32;refine (B1.l01In_any _ _ _ _).mono ?_;rintro e w' ⟨rfl,rfl⟩)
        | (go_at_call 33;refine (HSo.out _).mono ?_;rintro e w1 ⟨rfl,b1⟩;replace xc:=xc.below b1;replace c0:=xc.arg.c0;replace c1:=xc.arg.c1;replace c2:=xc.arg.c2;replace c3:=xc.arg.c3)
        | (go_at_call 35;refine (HPo.out _ xc.bel).mono ?_;rintro e w1 ⟨ga,gc,rfl,go1,gc1,b1⟩;replace xc:=xc.below b1;replace c0:=xc.arg.c0;replace c1:=xc.arg.c1;replace c2:=xc.arg.c2;replace c3:=xc.arg.c3;have gr:=go1.row)
        | (go_at_call 36;refine (HLe.out _ xc.bel).mono ?_;rintro e w1 ⟨ha,hc,rfl,ho1,hc1,b1⟩;replace xc:=xc.below b1;replace c0:=xc.arg.c0;replace c1:=xc.arg.c1;replace c2:=xc.arg.c2;replace c3:=xc.arg.c3;have hr:=ho1.row)
        | (go_at_call 34;refine (HT1.out _ _ _ gc1 gr).mono ?_;rintro e w1 ⟨rfl,n1,rfl⟩;replace xc:=xc.below (K0.below_drewN (Below.refl _ _) n1);replace c0:=xc.arg.c0;replace c1:=xc.arg.c1;replace c2:=xc.arg.c2;replace c3:=xc.arg.c3;clear HT1 gr gc1)
        | (go_at_call 34;refine (HT2.out _ _ _ hc1 hr).mono ?_;rintro e w1 ⟨rfl,n1,rfl⟩;replace xc:=xc.below (K0.below_drewN (Below.refl _ _) n1);replace c0:=xc.arg.c0;replace c1:=xc.arg.c1;replace c2:=xc.arg.c2;replace c3:=xc.arg.c3)
        | (go_at_call 37;refine (HOu.out _ xc.bel).mono ?_;rintro e w1 ⟨rfl,b1⟩;replace xc:=xc.below b1;replace c0:=xc.arg.c0;replace c1:=xc.arg.c1;replace c2:=xc.arg.c2;replace c3:=xc.arg.c3))
       go_ret;exact ⟨rfl,xc.bel⟩
      | true=>
       rw[hc5] at HOu;go_enter func17,ntmps17
       go_wp2_with (first
        | (go_at_call 30;refine (HTr.out _ xc.bel).mono ?_;rintro e w1 ⟨rfl,b1⟩;replace xc:=xc.below b1;replace c0:=xc.arg.c0;replace c1:=xc.arg.c1;replace c2:=xc.arg.c2;replace c3:=xc.arg.c3)
        | (go_at_call 31;refine (HDv.out _).mono ?_;rintro e w1 ⟨rfl,b1⟩;replace xc:=xc.below b1;replace c0:=xc.arg.c0;replace c1:=xc.arg.c1;replace c2:=xc.arg.c2;replace c3:=xc.arg.c3)
        | (go_at_call 32;refine (B1.l01In_any _ _ _ _).mono ?_;rintro e w' ⟨rfl,rfl⟩)
        | (go_at_call 33;refine (HSo.out _).mono ?_;rintro e w1 ⟨rfl,b1⟩;replace xc:=xc.below b1;replace c0:=xc.arg.c0;replace c1:=xc.arg.c1;replace c2:=xc.arg.c2;replace c3:=xc.arg.c3)
        | (go_at_call 35;refine (HPo.out _ xc.bel).mono ?_;rintro e w1 ⟨ga,gc,rfl,go1,gc1,b1⟩;replace xc:=xc.below b1;replace c0:=xc.arg.c0;replace c1:=xc.arg.c1;replace c2:=xc.arg.c2;replace c3:=xc.arg.c3;have gr:=go1.row)
        | (go_at_call 36;refine (HLe.out _ xc.bel).mono ?_;rintro e w1 ⟨ha,hc,rfl,ho1,hc1,b1⟩;replace xc:=xc.below b1;replace c0:=xc.arg.c0;replace c1:=xc.arg.c1;replace c2:=xc.arg.c2;replace c3:=xc.arg.c3;have hr:=ho1.row)
        | (go_at_call 34;refine (HT1.out _ _ _ gc1 gr).mono ?_;rintro e w1 ⟨rfl,n1,rfl⟩;replace xc:=xc.below (K0.below_drewN (Below.refl _ _) n1);replace c0:=xc.arg.c0;replace c1:=xc.arg.c1;replace c2:=xc.arg.c2;replace c3:=xc.arg.c3;clear HT1 gr gc1)
        | (go_at_call 34;refine (HT2.out _ _ _ hc1 hr).mono ?_;rintro e w1 ⟨rfl,n1,rfl⟩;replace xc:=xc.below (K0.below_drewN (Below.refl _ _) n1);replace c0:=xc.arg.c0;replace c1:=xc.arg.c1;replace c2:=xc.arg.c2;replace c3:=xc.arg.c3)
        | (go_at_call 37;refine (HOu.out _ xc.bel).mono ?_;rintro e w1 ⟨rfl,b1⟩;replace xc:=xc.below b1;replace c0:=xc.arg.c0;replace c1:=xc.arg.c1;replace c2:=xc.arg.c2;replace c3:=xc.arg.c3)
        | (go_at_call 38;refine (HUs.out _).mono ?_;rintro e w1 ⟨ua,uc,rfl,ur,b1⟩;replace xc:=xc.below b1;replace c0:=xc.arg.c0;replace c1:=xc.arg.c1;replace c2:=xc.arg.c2;replace c3:=xc.arg.c3))
       have ru:=ur;clear c0 c1 c2 c3 HTr HDv HSo HUs HPo HLe HOu HT2 HD
       go_loopw [5] (fun i w'=>∃ j:Nat,j<=k.ds.length/\N0.to (lAt k) j=true/\i=Iv j/\Bk w k a c w'/\P0.Row w' ua us) (fun i _=>k.ds.length-(intOf i).toNat)
       case atStart=>exact ⟨0,Nat.zero_le _,rfl,rfl,xc,ru⟩
       case round=>
        obtain ⟨j,hj,hto,rfl,xr,rr⟩:=hrel;clear xc ru ur;have c2:=xr.arg.c2
        by_cases hlt:j<k.ds.length
        ·obtain ⟨b,off,hab,hlt0,hc⟩:=(HL.out _ xr.bel).row.get hlt
         have hat:=HLA.out j
         have HC:Hid (∀ W,Bq w W->P0.Row W ua us->Calls prog 39 #[.string m,.slice ua us.length uc,N1.val (dat k.ds j) (ss j)] W (Rb (.bool (KL.lOk m us (dat k.ds j))) W)):=fun W h1 h2=>HLk.out j ua uc W hm h1 h2 hlt
         have HAt:Hid (∀ i,i<k.ds.length->∀ W,Bq w W->Z0.At W b (off+i*8) (dat k.ds i) (ss i)):=fun i hi W hW=>by
          obtain ⟨b',off',hab',_,hc'⟩:=(HL.out W hW).row.get hlt;rw[hab] at hab';cases hab';exact hc' i hi
         have HC2:Hid (∀ W,K0.Blk w.heap.size (Z0.kvals k a c) W->Ce W w.heap.size 2 (.slice (some ⟨b,off,none⟩) k.ds.length c)):=fun W h=>by
          have:=h.c2
          rwa [hab] at this
         have HA1:Hid (∀ W,Bq w W->Z0.At W b (off+j*8) (dat k.ds j) (ss j)):=fun W hW=>HAt.out j hlt W hW
         have hprev:∀ p,p<j->Hid (∀ W,Bq w W->Ce W b (off+p*8) (Iv (dat k.ds p).ino)):=fun p hp W hW=>(HAt.out p (by omega) W hW).1
         obtain ⟨d,ed⟩:∃ d,dat k.ds j=d:=⟨_,rfl⟩;obtain ⟨s,es⟩:∃ s,ss j=s:=⟨_,rfl⟩;rw[ed,es] at HC HA1;rw[ed] at hat;rw[hab] at c2
         have e1:(0:Int)<=(j:Int):=by omega
         have e2:(j:Int)<(k.ds.length:Int):=by omega
         have x0:Bk w k a c wr.drew:=xr.below ((Below.refl _ _).drew);have r0u:P0.Row wr.drew ua us:=rr.below ((Below.refl _ _).drew);clear hab ed es hc HAt HLk HLA HL HF
         cases hok:KL.lOk m us d with
         | false=>
          rw[hok] at HC hat;have HT:Hid (N0.to (lAt k) k.ds.length=false):=N0.to_bad hlt hat
          have HS:Hid (∀ W,Bq w W->K0.Blk w.heap.size (Z0.kvals k a c) W->Ce W w.heap.size 2 (.slice (some ⟨b,off,none⟩) k.ds.length c)/\Ce W b (off+j*8) (Iv d.ino)/\Ce W b (off+j*8+1) (Iv d.cl)/\Ce W b (off+j*8+2) (Iv d.un)/\Ce W b (off+j*8+3) (.string d.rc)/\Ce W b (off+j*8+4) (.slice s.a1 d.pg.length s.c1)/\Ce W b (off+j*8+5) (.string d.sav)/\Ce W b (off+j*8+6) (.slice s.a2 d.po.length s.c2)/\Ce W b (off+j*8+7) (.slice s.a3 d.fr.length s.c3)):=fun W h1 h2=>⟨HC2.out W h2,HA1.out W h1⟩
          have s0:=HS.out _ x0.bel x0.arg;clear hat hok hprev;go_wp2;refine wp_region_held (S:=fun W=>Ce W w.heap.size 2 (.slice (some ⟨b,off,none⟩) k.ds.length c)/\Ce W b (off+j*8) (Iv d.ino)/\Ce W b (off+j*8+1) (Iv d.cl)/\Ce W b (off+j*8+2) (Iv d.un)/\Ce W b (off+j*8+3) (.string d.rc)/\Ce W b (off+j*8+4) (.slice s.a1 d.pg.length s.c1)/\Ce W b (off+j*8+5) (.string d.sav)/\Ce W b (off+j*8+6) (.slice s.a2 d.po.length s.c2)/\Ce W b (off+j*8+7) (.slice s.a3 d.fr.length s.c3)) (by kernel_rfl) ?_;refine BT.r 0 (.string m) s0 ?_;refine BT.r 1 (.slice ua us.length uc) s0 ?_;refine BT.s 2 (Pv w.heap.size 2) s0 ?_;refine BT.s 3 (.slice (some ⟨b,off,none⟩) k.ds.length c) s0 ?_;refine BT.r 4 (Iv (j:Int)) s0 ?_;refine BT.s 5 (Pv b (off+j*8)) s0 ?_;refine BT.s 6 (N1.val d s) s0 ?_;refine Y0.one_call3w (i:=7) (by kernel_rfl) rfl (by rfl) (.tmp 47) (.tmp 48) (.tmp 53) _ rfl (.string m) (.slice ua us.length uc) (N1.val d s) (by rfl) (by rfl) (by rfl) (enters_of func39 (by kernel_rfl) rfl) ((HC.out _ x0.bel r0u).mono ?_);rintro e w3 ⟨rfl,b3⟩;have x3:=x0.below b3;have s3:=HS.out _ x3.bel x3.arg;refine ⟨_,rfl,s3,?_⟩;simp only[BZ.z,Act.put,Nat.reduceAdd];refine BT.r 8 (.bool true) s3 ?_;refine BT.r 9 (.bool true) s3 ?_;refine BT.u 10 s3 ?_;refine BT.u 11 s3 ?_;refine BT.u 12 s3 ?_;refine BT.u 13 s3 ?_;refine BT.u 14 s3 ?_;refine BT.u 15 s3 ?_;refine BT.u 16 s3 ?_;refine BT.u 17 s3 ?_;refine BT.u 18 s3 ?_
          refine BT.u 19 s3 ?_;refine BT.u 20 s3 ?_;refine BT.u 21 s3 ?_;refine BT.u 22 s3 ?_;refine BT.u 23 s3 ?_;refine BT.u 24 s3 ?_;refine BT.u 25 s3 ?_;refine BT.u 26 s3 ?_;refine BT.u 27 s3 ?_;refine BT.r 28 (.bool true) s3 ?_;refine wpAnyH_done (by kernel_rfl) ?_ _;go_wp2;go_ret;exact ⟨by rw[HT.out];rfl,x3.bel⟩
         | true=>
          rw[hok] at HC hat;clear hok
          by_cases hj0:j=0
          ·have HT:Hid (N0.to (lAt k) (j+1)=true):=N0.to_step hto (by rw[hat,decide_eq_true hj0];rfl)
           have HS:Hid (∀ W,Bq w W->K0.Blk w.heap.size (Z0.kvals k a c) W->Ce W w.heap.size 2 (.slice (some ⟨b,off,none⟩) k.ds.length c)/\Ce W b (off+j*8) (Iv d.ino)/\Ce W b (off+j*8+1) (Iv d.cl)/\Ce W b (off+j*8+2) (Iv d.un)/\Ce W b (off+j*8+3) (.string d.rc)/\Ce W b (off+j*8+4) (.slice s.a1 d.pg.length s.c1)/\Ce W b (off+j*8+5) (.string d.sav)/\Ce W b (off+j*8+6) (.slice s.a2 d.po.length s.c2)/\Ce W b (off+j*8+7) (.slice s.a3 d.fr.length s.c3)):=fun W h1 h2=>⟨HC2.out W h2,HA1.out W h1⟩
           have s0:=HS.out _ x0.bel x0.arg
           have e3:¬ (0:Int)<(j:Int):=by omega
           clear hat hprev hj0;go_wp2;refine wp_region_held (S:=fun W=>Ce W w.heap.size 2 (.slice (some ⟨b,off,none⟩) k.ds.length c)/\Ce W b (off+j*8) (Iv d.ino)/\Ce W b (off+j*8+1) (Iv d.cl)/\Ce W b (off+j*8+2) (Iv d.un)/\Ce W b (off+j*8+3) (.string d.rc)/\Ce W b (off+j*8+4) (.slice s.a1 d.pg.length s.c1)/\Ce W b (off+j*8+5) (.string d.sav)/\Ce W b (off+j*8+6) (.slice s.a2 d.po.length s.c2)/\Ce W b (off+j*8+7) (.slice s.a3 d.fr.length s.c3)) (by kernel_rfl) ?_;refine BT.r 0 (.string m) s0 ?_;refine BT.r 1 (.slice ua us.length uc) s0 ?_;refine BT.s 2 (Pv w.heap.size 2) s0 ?_;refine BT.s 3 (.slice (some ⟨b,off,none⟩) k.ds.length c) s0 ?_;refine BT.r 4 (Iv (j:Int)) s0 ?_;refine BT.s 5 (Pv b (off+j*8)) s0 ?_;refine BT.s 6 (N1.val d s) s0 ?_;refine Y0.one_call3w (i:=7) (by kernel_rfl) rfl (by rfl) (.tmp 47) (.tmp 48) (.tmp 53) _ rfl (.string m) (.slice ua us.length uc) (N1.val d s) (by rfl) (by rfl) (by rfl) (enters_of func39 (by kernel_rfl) rfl) ((HC.out _ x0.bel r0u).mono ?_);rintro e w3 ⟨rfl,b3⟩;have x3:=x0.below b3;have s3:=HS.out _ x3.bel x3.arg;refine ⟨_,rfl,s3,?_⟩;simp only[BZ.z,Act.put,Nat.reduceAdd];refine BT.r 8 (.bool false) s3 ?_;refine BT.r 9 (.bool false) s3 ?_;refine BT.r 10 (Iv (j:Int)) s3 ?_;refine wpAnyH_take (i:=11) (v:=.bool false) rfl (by kernel_rfl) (by kernel_rfl) (by kernel_rfl) (fun _ _ _ h=>h) (Or.inl ⟨by rfl,fun w' hS'=>?_⟩) s3 ?_
           ·obtain ⟨m2,q0,q1,q2,q3,q4,q5,q6,q7⟩:=hS'
            (go_simp;omega)
           simp only[BZ.z,Act.put,Nat.reduceAdd];refine BT.r 12 (.bool false) s3 ?_;refine BT.u 13 s3 ?_;refine BT.u 14 s3 ?_;refine BT.u 15 s3 ?_;refine BT.u 16 s3 ?_;refine BT.u 17 s3 ?_;refine BT.u 18 s3 ?_;refine BT.u 19 s3 ?_;refine BT.u 20 s3 ?_;refine BT.u 21 s3 ?_;refine BT.u 22 s3 ?_;refine BT.u 23 s3 ?_;refine BT.u 24 s3 ?_;refine BT.u 25 s3 ?_;refine BT.u 26 s3 ?_;refine BT.r 27 (.bool false) s3 ?_;refine BT.r 28 (.bool false) s3 ?_;refine wpAnyH_done (by kernel_rfl) ?_ _;have r3:=r0u.below b3;go_wp2;refine ⟨⟨j+1,by omega,HT.out,by go_num,x3,r3⟩,?_⟩;simp[intOf];omega
          ·obtain ⟨p,hp⟩:∃ p,j=p+1:=⟨j-1,by omega⟩
           have hpp:=hprev p (by omega)
           have hjp:j-1=p:=by omega
           rw[hjp,decide_eq_false hj0,Bool.false_or,Bool.true_and] at hat;obtain ⟨io,eio⟩:∃ io,(dat k.ds p).ino=io:=⟨_,rfl⟩;rw[eio] at hat hpp
           have HS:Hid (∀ W,Bq w W->K0.Blk w.heap.size (Z0.kvals k a c) W->Ce W w.heap.size 2 (.slice (some ⟨b,off,none⟩) k.ds.length c)/\Ce W b (off+j*8) (Iv d.ino)/\Ce W b (off+j*8+1) (Iv d.cl)/\Ce W b (off+j*8+2) (Iv d.un)/\Ce W b (off+j*8+3) (.string d.rc)/\Ce W b (off+j*8+4) (.slice s.a1 d.pg.length s.c1)/\Ce W b (off+j*8+5) (.string d.sav)/\Ce W b (off+j*8+6) (.slice s.a2 d.po.length s.c2)/\Ce W b (off+j*8+7) (.slice s.a3 d.fr.length s.c3)/\Ce W b (off+p*8) (Iv io)):=fun W h1 h2=>⟨HC2.out W h2,(HA1.out W h1).1,(HA1.out W h1).2.1,(HA1.out W h1).2.2.1,(HA1.out W h1).2.2.2.1,(HA1.out W h1).2.2.2.2.1,(HA1.out W h1).2.2.2.2.2.1,(HA1.out W h1).2.2.2.2.2.2.1,(HA1.out W h1).2.2.2.2.2.2.2,hpp.out W h1⟩
           have s0:=HS.out _ x0.bel x0.arg
           have e3':(0:Int)<(j:Int):=by omega
           have e4:IntKind.i64.wrap ((j:Int)-1)=(p:Int):=by rw[IntKind.wrap_i64];omega
           have e5:(0:Int)<=(p:Int):=by omega
           have e6:(p:Int)<(k.ds.length:Int):=by omega
           clear hprev hjp eio hj0
           by_cases hlo:io<d.ino
           ·have e7:¬ d.ino<=io:=by omega
            have HT:Hid (N0.to (lAt k) (j+1)=true):=N0.to_step hto (by rw[hat,decide_eq_true hlo]);clear hat hp;go_wp2;refine wp_region_held (S:=fun W=>Ce W w.heap.size 2 (.slice (some ⟨b,off,none⟩) k.ds.length c)/\Ce W b (off+j*8) (Iv d.ino)/\Ce W b (off+j*8+1) (Iv d.cl)/\Ce W b (off+j*8+2) (Iv d.un)/\Ce W b (off+j*8+3) (.string d.rc)/\Ce W b (off+j*8+4) (.slice s.a1 d.pg.length s.c1)/\Ce W b (off+j*8+5) (.string d.sav)/\Ce W b (off+j*8+6) (.slice s.a2 d.po.length s.c2)/\Ce W b (off+j*8+7) (.slice s.a3 d.fr.length s.c3)/\Ce W b (off+p*8) (Iv io)) (by kernel_rfl) ?_;refine BT.r 0 (.string m) s0 ?_;refine BT.r 1 (.slice ua us.length uc) s0 ?_;refine BT.s 2 (Pv w.heap.size 2) s0 ?_;refine BT.s 3 (.slice (some ⟨b,off,none⟩) k.ds.length c) s0 ?_;refine BT.r 4 (Iv (j:Int)) s0 ?_;refine BT.s 5 (Pv b (off+j*8)) s0 ?_;refine BT.s 6 (N1.val d s) s0 ?_;refine Y0.one_call3w (i:=7) (by kernel_rfl) rfl (by rfl) (.tmp 47) (.tmp 48) (.tmp 53) _ rfl (.string m) (.slice ua us.length uc) (N1.val d s) (by rfl) (by rfl) (by rfl) (enters_of func39 (by kernel_rfl) rfl) ((HC.out _ x0.bel r0u).mono ?_);rintro e w3 ⟨rfl,b3⟩;have x3:=x0.below b3;have s3:=HS.out _ x3.bel x3.arg;refine ⟨_,rfl,s3,?_⟩;simp only[BZ.z,Act.put,Nat.reduceAdd];refine BT.r 8 (.bool false) s3 ?_;refine BT.r 9 (.bool false) s3 ?_;refine BT.r 10 (Iv (j:Int)) s3 ?_
            refine wpAnyH_take (i:=11) (v:=.bool true) rfl (by kernel_rfl) (by kernel_rfl) (by kernel_rfl) (fun _ _ _ h=>h) (Or.inl ⟨by rfl,fun w' hS'=>?_⟩) s3 ?_
            ·obtain ⟨m2,q0,q1,q2,q3,q4,q5,q6,q7,r0⟩:=hS'
             (go_simp;omega)
            simp only[BZ.z,Act.put,Nat.reduceAdd];refine BT.r 12 (.bool true) s3 ?_;refine BT.s 13 (Pv w.heap.size 2) s3 ?_;refine BT.s 14 (.slice (some ⟨b,off,none⟩) k.ds.length c) s3 ?_;refine BT.r 15 (Iv (j:Int)) s3 ?_;refine BT.s 16 (Pv b (off+j*8)) s3 ?_;refine BT.s 17 (Pv b (off+j*8)) s3 ?_;refine BT.s 18 (Iv d.ino) s3 ?_;refine BT.s 19 (Pv w.heap.size 2) s3 ?_;refine BT.s 20 (.slice (some ⟨b,off,none⟩) k.ds.length c) s3 ?_;refine BT.r 21 (Iv (j:Int)) s3 ?_;refine BT.s 22 (Iv (p:Int)) s3 ?_;refine BT.s 23 (Pv b (off+p*8)) s3 ?_;refine BT.s 24 (Pv b (off+p*8)) s3 ?_;refine BT.s 25 (Iv io) s3 ?_;refine BT.s 26 (.bool false) s3 ?_;refine BT.r 27 (.bool false) s3 ?_;refine BT.r 28 (.bool false) s3 ?_;refine wpAnyH_done (by kernel_rfl) ?_ _;have r3:=r0u.below b3;go_wp2;refine ⟨⟨j+1,by omega,HT.out,by go_num,x3,r3⟩,?_⟩;simp[intOf];omega
           ·have e7:d.ino<=io:=by omega
            have HT:Hid (N0.to (lAt k) k.ds.length=false):=N0.to_bad hlt (by rw[hat,decide_eq_false hlo]);clear hat hp;go_wp2;refine wp_region_held (S:=fun W=>Ce W w.heap.size 2 (.slice (some ⟨b,off,none⟩) k.ds.length c)/\Ce W b (off+j*8) (Iv d.ino)/\Ce W b (off+j*8+1) (Iv d.cl)/\Ce W b (off+j*8+2) (Iv d.un)/\Ce W b (off+j*8+3) (.string d.rc)/\Ce W b (off+j*8+4) (.slice s.a1 d.pg.length s.c1)/\Ce W b (off+j*8+5) (.string d.sav)/\Ce W b (off+j*8+6) (.slice s.a2 d.po.length s.c2)/\Ce W b (off+j*8+7) (.slice s.a3 d.fr.length s.c3)/\Ce W b (off+p*8) (Iv io)) (by kernel_rfl) ?_;refine BT.r 0 (.string m) s0 ?_;refine BT.r 1 (.slice ua us.length uc) s0 ?_;refine BT.s 2 (Pv w.heap.size 2) s0 ?_;refine BT.s 3 (.slice (some ⟨b,off,none⟩) k.ds.length c) s0 ?_;refine BT.r 4 (Iv (j:Int)) s0 ?_;refine BT.s 5 (Pv b (off+j*8)) s0 ?_;refine BT.s 6 (N1.val d s) s0 ?_;refine Y0.one_call3w (i:=7) (by kernel_rfl) rfl (by rfl) (.tmp 47) (.tmp 48) (.tmp 53) _ rfl (.string m) (.slice ua us.length uc) (N1.val d s) (by rfl) (by rfl) (by rfl) (enters_of func39 (by kernel_rfl) rfl) ((HC.out _ x0.bel r0u).mono ?_);rintro e w3 ⟨rfl,b3⟩;have x3:=x0.below b3;have s3:=HS.out _ x3.bel x3.arg;refine ⟨_,rfl,s3,?_⟩;simp only[BZ.z,Act.put,Nat.reduceAdd];refine BT.r 8 (.bool false) s3 ?_;refine BT.r 9 (.bool false) s3 ?_;refine BT.r 10 (Iv (j:Int)) s3 ?_
            refine wpAnyH_take (i:=11) (v:=.bool true) rfl (by kernel_rfl) (by kernel_rfl) (by kernel_rfl) (fun _ _ _ h=>h) (Or.inl ⟨by rfl,fun w' hS'=>?_⟩) s3 ?_
            ·obtain ⟨m2,q0,q1,q2,q3,q4,q5,q6,q7,r0⟩:=hS'
             (go_simp;omega)
            simp only[BZ.z,Act.put,Nat.reduceAdd];refine BT.r 12 (.bool true) s3 ?_;refine BT.s 13 (Pv w.heap.size 2) s3 ?_;refine BT.s 14 (.slice (some ⟨b,off,none⟩) k.ds.length c) s3 ?_;refine BT.r 15 (Iv (j:Int)) s3 ?_;refine BT.s 16 (Pv b (off+j*8)) s3 ?_;refine BT.s 17 (Pv b (off+j*8)) s3 ?_;refine BT.s 18 (Iv d.ino) s3 ?_;refine BT.s 19 (Pv w.heap.size 2) s3 ?_;refine BT.s 20 (.slice (some ⟨b,off,none⟩) k.ds.length c) s3 ?_;refine BT.r 21 (Iv (j:Int)) s3 ?_;refine BT.s 22 (Iv (p:Int)) s3 ?_;refine BT.s 23 (Pv b (off+p*8)) s3 ?_;refine BT.s 24 (Pv b (off+p*8)) s3 ?_;refine BT.s 25 (Iv io) s3 ?_;refine BT.s 26 (.bool true) s3 ?_;refine BT.r 27 (.bool true) s3 ?_;refine BT.r 28 (.bool true) s3 ?_;refine wpAnyH_done (by kernel_rfl) ?_ _;go_wp2;go_ret;exact ⟨by rw[HT.out];rfl,x3.bel⟩
        ·obtain rfl:j=k.ds.length:=by omega
         have HT:Hid (N0.to (lAt k) k.ds.length=true):=hto;clear HL HF HLk HLA hto;go_wp2;go_ret;exact ⟨by rw[HT.out];rfl,xr.bel⟩
end KS
end Go.Proofs.YtlejhfnjmkdobaaGreatDoor
