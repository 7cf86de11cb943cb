/- Joined texts. -/
import Derived.Test.YtlejhfnjmkdobaaGreatDoorJtK
set_option linter.unusedVariables false
set_option linter.unusedSimpArgs false
set_option maxRecDepth 10000
set_option maxHeartbeats 16000000
namespace Go.Proofs.YtlejhfnjmkdobaaGreatDoor
open ChangeShapes WideShapes ChangeAt RowKit
open Go.Proofs.Tryz
namespace O2
open I0 (val vals)
def Ans (mem:ByteArray) (i:Int) (w:World) (e:Ending) (w':World):Prop:=
 ∃ a c,e=.returned (.tuple #[val (O0.lK mem i) (O0.lO mem i) (O0.lS mem i) a (O0.lZ mem i).length c,.string (O0.lD mem i),.bool (O0.isL mem i)])/\J0.Own w.heap.size w' a (O0.lZ mem i)/\(O0.lZ mem i).length<=c/\Bq w w'
theorem ans_no {mem:ByteArray} {i:Int} {w w':World} (h:O0.isL mem i=false) (hb:Bq w w'):Ans mem i w (.returned (.tuple #[val 0 0 0 none 0 0,.string ⟨#[]⟩,.bool false])) w':=by
 obtain ⟨h1,h2,h3,h4,h5⟩:=O0.l_no h;exact ⟨none,0,by rw[h1,h2,h3,h4,h5,h];rfl,by rw[h4];exact Or.inl rfl,by rw[h4];exact Nat.le_refl _,hb⟩
theorem ans_yes {mem:ByteArray} {i:Int} {w w':World} {a:Option Addr} {c:Nat} (h:O0.isL mem i=true) (ho:J0.Own w.heap.size w' a (G0.gZ (O0.recd mem i))) (hc:(G0.gZ (O0.recd mem i)).length<=c) (hb:Bq w w') :
  Ans mem i w (.returned (.tuple #[val (G0.gK (O0.recd mem i)) (G0.gO (O0.recd mem i)) (G0.gS (O0.recd mem i)) a (G0.gZ (O0.recd mem i)).length c,.string ((O0.joined mem (G0.gZ (O0.recd mem i)) (G0.gZ (O0.recd mem i)).length).extract 0 (G0.gS (O0.recd mem i)).toNat),.bool true])) w':=by
 obtain ⟨h1,h2,h3,h4,h5⟩:=O0.l_yes h;exact ⟨a,c,by rw[h1,h2,h3,h4,h5,h],by rw[h4];exact ho,by rw[h4];exact hc,hb⟩
theorem read_yes {s:ByteArray} {W:World} (hs:s.size<=281474976710656) (h:G0.isI s=true) {v:Value->Value} (hv:∀ x,I1.rec (B1.byteAt s 0) x=v x) :
  Calls prog 155 #[.string s] W fun e w'=>∃ a c,e=.returned (.tuple #[v (val (G0.gK s) (G0.gO s) (G0.gS s) a (G0.gZ s).length c),.bool true])/\J0.Own W.heap.size w' a (G0.gZ s)/\(G0.gZ s).length<=c/\Bq W w':=by
 obtain ⟨e1,e2,e3,e4⟩:=G0.g_yes h;rw[e1,e2,e3,e4];exact G3.read_yes hs h hv
structure Ls (w:World) (B:Nat) (k o s:Int) (a:Option Addr) (zs:List Int) (c:Nat) (W:World):Prop where
 rs:G3.Rs w a zs W
 nb:K0.Blk B (vals k o s a zs.length c) W
 ne:w.heap.size<B
variable {w W W' : World} {B : Nat} {k o s : Int} {a : Option Addr} {zs : List Int} {c : Nat}
theorem Ls.below (h:Ls w B k o s a zs c W) (hb:Bq W W'):Ls w B k o s a zs c W':=⟨h.rs.below hb,h.nb.below hb,h.ne⟩
theorem Ls.drew (h:Ls w B k o s a zs c W):Ls w B k o s a zs c W.drew:=⟨⟨h.rs.res.drew,h.rs.own.drew,h.rs.bel.drew⟩,h.nb.drew,h.ne⟩
theorem ls_new (h:G3.Rs w a zs W):Ls w W.heap.size k o s a zs c (W.alloc (.cells (Iq k o s a zs.length c) 96)):=
 ⟨h.below (K0.below_new _ _),K0.blk_new (vals k o s a zs.length c) W 96,h.res.lt⟩
theorem load_kind (T:TypeId) (mem:ByteArray) (i:Int) (w:World) (hm:mem.size=768) (hI:G0.isI (O0.recd mem i)=true) (hL:O0.isL mem i=true)
  (hT:∀ x,I1.rec (B1.byteAt (O0.recd mem i) 0) x=.iface T x)
  (hF:∀ k o s a n c W,Calls prog 156 #[.iface T (val k o s a n c)] W (Rb (.bool false) W))
  (hO:∀ k o s a n c W,Calls prog 157 #[.iface T (val k o s a n c)] W (Rb (val k o s a n c) W)) :
  Calls prog 119 #[.string mem,Iv i] w (Ans mem i w):=by
 have hms:mem.size<=281474976710656:=by omega
 have g8:((mem.size:Int) != 768)=false:=by simp;omega
 have hrs:=O0.recd_size mem i hms;have hg:=O0.got hI
 have HF:Hid (∀ a c w',J0.Own w.heap.size w' a (G0.gZ (O0.recd mem i))->(G0.gZ (O0.recd mem i)).length<=c->Bq w w'->Ans mem i w (.returned (.tuple #[val (G0.gK (O0.recd mem i)) (G0.gO (O0.recd mem i)) (G0.gS (O0.recd mem i)) a (G0.gZ (O0.recd mem i)).length c,.string ((O0.joined mem (G0.gZ (O0.recd mem i)) (G0.gZ (O0.recd mem i)).length).extract 0 (G0.gS (O0.recd mem i)).toNat),.bool true])) w'):=fun a c w'=>ans_yes hL
 have hr:Hid (∀ W,Calls prog 155 #[.string (O0.recd mem i)] W fun e w'=>∃ a c,e=.returned (.tuple #[.iface T (val (G0.gK (O0.recd mem i)) (G0.gO (O0.recd mem i)) (G0.gS (O0.recd mem i)) a (G0.gZ (O0.recd mem i)).length c),.bool true])/\J0.Own W.heap.size w' a (G0.gZ (O0.recd mem i))/\(G0.gZ (O0.recd mem i)).length<=c/\Bq W w'):=fun W=>read_yes hrs hI hT
 have hpt:Hid (∀ W,Calls prog 124 #[.string mem,Iv (L1.recAt i),Iv 16] W (Rb (.string (O0.recd mem i)) W)):=fun W=>B2.impl_Part _ _ _ _ hms
 have hFF:Hid (∀ k o s a n c W,Calls prog 156 #[.iface T (val k o s a n c)] W (Rb (.bool false) W)):=hF;have hOO:Hid (∀ k o s a n c W,Calls prog 157 #[.iface T (val k o s a n c)] W (Rb (val k o s a n c) W)):=hO;clear hT hI hL hrs hF hO;obtain ⟨R,hR⟩:∃ R,O0.recd mem i=R:=⟨_,rfl⟩;rw[hR] at hg HF hr hpt;obtain ⟨K,hK⟩:∃ K,G0.gK R=K:=⟨_,rfl⟩;obtain ⟨O,hO⟩:∃ O,G0.gO R=O:=⟨_,rfl⟩;obtain ⟨S,hS⟩:∃ S,G0.gS R=S:=⟨_,rfl⟩;obtain ⟨Z,hZ⟩:∃ Z,G0.gZ R=Z:=⟨_,rfl⟩;rw[hK,hO,hS,hZ] at HF hr;rw[hK,hS,hZ] at hg;obtain ⟨⟨s0,s1⟩,zl,s2,hp,-⟩:=hg;clear hK hO hS hZ hR;have hl0:=K0.below_new w (.cells (Iq 0 0 0 none 0 0) 96);go_enter func119,ntmps119
 go_wp2_with (first
  | (go_at_call 123;refine (L1.impl_RecAt _ _).mono ?_;rintro e w' ⟨rfl,rfl⟩)
  | (go_at_call 124;refine (hpt.out _).mono ?_;rintro e w1 ⟨rfl,b1⟩)
  | (go_at_call 155;refine (hr.out _).mono ?_;rintro e w2 ⟨a,c,rfl,ho,hc,b2⟩;have r2:G3.Rs w a Z w2:=G3.rs_new (b1.trans (b2.mono b1.size)) (ho.mono b1.size))
  | (go_at_call 156;refine (hFF.out _ _ _ _ _ _ _).mono ?_;rintro e w3 ⟨rfl,b3⟩;have r3:=r2.below b3)
  | (go_at_call 157;refine (hOO.out _ _ _ _ _ _ _).mono ?_;rintro e w4 ⟨rfl,b4⟩;have r4:=r3.below b4;have l4:=ls_new (k:=K) (o:=O) (s:=S) (c:=c) r4))
 have l5:=l4.drew;have hRd:P0.Row (w4.alloc (.cells (Iq K O S a Z.length c) 96)).drew a Z:=l5.rs.own.row
 go_region_with ((go_at_call 158;refine (O1.dataOf mem _ _ _ _ _ Z _ hm hp zl s0 s2 hRd).mono ?_;rintro e w5 ⟨rfl,b5⟩;have l6:=l5.below b5;have x0:=l6.nb.c0;have x1:=l6.nb.c1;have x2:=l6.nb.c2;have x3:=l6.nb.c3;have c0:=l6.rs.res.c0;have c1:=l6.rs.res.c1;have c2:=l6.rs.res.c2;have c3:=l6.rs.res.c3;have f0:=l6.rs.res.f0;have f1:=l6.rs.res.f1;have f2:=l6.rs.res.f2;have f3:=l6.rs.res.f3))
 all_goals
  have q:=l6.rs.res.put4 (Iv K) (Iv O) (Iv S) (.slice a Z.length c);have d:=l6.rs.done (Iv K) (Iv O) (Iv S) (.slice a Z.length c);go_wp2;exact bodyPost_ret (v:=.tuple #[val K O S a Z.length c,.string ((O0.joined mem Z Z.length).extract 0 S.toNat),.bool true]) (by simp[results,results119,go_sem,q.c0,q.c1,q.c2,q.c3]) rfl (HF.out _ _ _ d.1 hc d.2)
end O2
namespace O3
open I0 (val vals)
open O2 (Ans ans_no ans_yes)
theorem impl_Load (mem:ByteArray) (i:Int) (w:World) (hms:mem.size<=281474976710656):Calls prog 119 #[.string mem,Iv i] w (Ans mem i w):=by
 have hrs:=O0.recd_size mem i hms
 have hpt:Hid (∀ W,Calls prog 124 #[.string mem,Iv (L1.recAt i),Iv 16] W (Rb (.string (O0.recd mem i)) W)):=fun W=>B2.impl_Part _ _ _ _ hms
 have hl0:=K0.below_new w (.cells (Iq 0 0 0 none 0 0) 96)
 by_cases hm:mem.size=768
 ·have g8:((mem.size:Int) != 768)=false:=by simp;omega
  by_cases hI:G0.isI (O0.recd mem i)=true
  ·by_cases h0:B1.byteAt (O0.recd mem i) 0=0
   ·have HF:Hid (∀ w',Bq w w'->Ans mem i w (.returned (.tuple #[val 0 0 0 none 0 0,.string ⟨#[]⟩,.bool false])) w'):=fun w'=>ans_no (O0.isL_free h0)
    have hr:Hid (∀ W,Calls prog 155 #[.string (O0.recd mem i)] W fun e w'=>∃ a c,e=.returned (.tuple #[.iface 234 (val (G0.gK (O0.recd mem i)) (G0.gO (O0.recd mem i)) (G0.gS (O0.recd mem i)) a (G0.gZ (O0.recd mem i)).length c),.bool true])/\J0.Own W.heap.size w' a (G0.gZ (O0.recd mem i))/\(G0.gZ (O0.recd mem i)).length<=c/\Bq W w'):=fun W=>O2.read_yes hrs hI (fun x=>by rw[I1.rec,if_pos h0])
    clear hI h0;go_enter func119,ntmps119
    go_wp2_with (first
     | (go_at_call 123;refine (L1.impl_RecAt _ _).mono ?_;rintro e w' ⟨rfl,rfl⟩)
     | (go_at_call 124;refine (hpt.out _).mono ?_;rintro e w1 ⟨rfl,b1⟩)
     | (go_at_call 155;refine (hr.out _).mono ?_;rintro e w2 ⟨a,c,rfl,ho,hc,b2⟩;have r2:G3.Rs w a _ w2:=G3.rs_new (b1.trans (b2.mono b1.size)) (ho.mono b1.size))
     | (go_at_call 156;refine (G1.isFree0 _ _ _ _ _ _ _ rfl _).mono ?_;rintro e w3 ⟨rfl,b3⟩;have r3:=r2.below b3;have c0:=r3.res.c0;have c1:=r3.res.c1;have c2:=r3.res.c2;have c3:=r3.res.c3;have f0:=r3.res.f0;have f1:=r3.res.f1;have f2:=r3.res.f2;have f3:=r3.res.f3))
    have q:=r3.res.put4 (Iv 0) (Iv 0) (Iv 0) (.slice none 0 0);have d:=r3.done (Iv 0) (Iv 0) (Iv 0) (.slice none 0 0);exact bodyPost_ret (v:=.tuple #[val 0 0 0 none 0 0,.string ⟨#[]⟩,.bool false]) (by simp[results,results119,go_sem,q.c0,q.c1,q.c2,q.c3]) rfl (HF.out _ d.2)
   ·have hL:=O0.isL_of hm hI h0
    by_cases h1:B1.byteAt (O0.recd mem i) 0=1
    ·exact O2.load_kind 236 mem i w hm hI hL (fun x=>by rw[I1.rec,if_neg h0,if_pos h1]) (fun k o s a n c W=>G1.isFree1 _ k o s a n c rfl W) (fun k o s a n c W=>G1.inodeOf1 k o s a n c W)
    ·have h2:B1.byteAt (O0.recd mem i) 0=2:=by
      have:=R0.ok_bounds (G0.isI_ok hI).2.2;omega
     exact O2.load_kind 238 mem i w hm hI hL (fun x=>by rw[I1.rec,if_neg h0,if_neg h1,if_pos h2]) (fun k o s a n c W=>G1.isFree2 _ k o s a n c rfl W) (fun k o s a n c W=>G1.inodeOf2 k o s a n c W)
  ·have hI':G0.isI (O0.recd mem i)=false:=by simpa using hI
   have HF:Hid (∀ w',Bq w w'->Ans mem i w (.returned (.tuple #[val 0 0 0 none 0 0,.string ⟨#[]⟩,.bool false])) w'):=fun w'=>ans_no (O0.isL_rec hI')
   have hr:Hid (∀ W,Calls prog 155 #[.string (O0.recd mem i)] W (Rb (.tuple #[.nilIface,.bool false]) W)):=fun W=>G3.read_no hrs hI'
   clear hI hI';go_enter func119,ntmps119
   go_wp2_with (first
    | (go_at_call 123;refine (L1.impl_RecAt _ _).mono ?_;rintro e w' ⟨rfl,rfl⟩)
    | (go_at_call 124;refine (hpt.out _).mono ?_;rintro e w1 ⟨rfl,b1⟩)
    | (go_at_call 155;refine (hr.out _).mono ?_;rintro e w2 ⟨rfl,b2⟩;have r2:G3.Rs w none [] w2:=G3.rs_new (b1.trans (b2.mono b1.size)) (Or.inl rfl);have c0:=r2.res.c0;have c1:=r2.res.c1;have c2:=r2.res.c2;have c3:=r2.res.c3;have f0:=r2.res.f0;have f1:=r2.res.f1;have f2:=r2.res.f2;have f3:=r2.res.f3))
   have q:=r2.res.put4 (Iv 0) (Iv 0) (Iv 0) (.slice none 0 0);have d:=r2.done (Iv 0) (Iv 0) (Iv 0) (.slice none 0 0);exact bodyPost_ret (v:=.tuple #[val 0 0 0 none 0 0,.string ⟨#[]⟩,.bool false]) (by simp[results,results119,go_sem,q.c0,q.c1,q.c2,q.c3]) rfl (HF.out _ d.2)
 ·have g8:((mem.size:Int) != 768)=true:=by simp;omega
  have HF:Hid (∀ w',Bq w w'->Ans mem i w (.returned (.tuple #[val 0 0 0 none 0 0,.string ⟨#[]⟩,.bool false])) w'):=fun w'=>ans_no (O0.isL_size hm)
  go_enter func119,ntmps119;go_wp2;refine bodyPost_ret (v:=.tuple #[val 0 0 0 none 0 0,.string ⟨#[]⟩,.bool false]) (by simp[results,results119,go_sem]) rfl (HF.out _ ?_)
  go_grown
open O2 (Ls ls_new)
theorem spec_Load (mem:ByteArray) (i:Int) (w:World) (hms:mem.size<=281474976710656):Calls prog 61 #[.string mem,Iv i] w (Ans mem i w):=by
 have hrs:=O0.recd_size mem i hms
 have hG:Hid (∀ W,Calls prog 92 #[.string (O0.recd mem i)] W (G3.Ans (O0.recd mem i) W)):=fun W=>G4.spec_GetInode _ _ hrs
 have hRc:Hid (∀ W,_):=fun W=>O1.l03Rec mem i W hms
 by_cases hL:O0.isL mem i=true
 ·have hl:=hL
  simp only[O0.isL,Bool.and_eq_true,decide_eq_true_eq,Bool.not_eq_true'] at hl;obtain ⟨hm,hI,hk⟩:=hl;have hk':¬ B1.byteAt (O0.recd mem i) 0=0:=of_decide_eq_false hk
  have g8:((mem.size:Int) != 768)=false:=by simp;omega
  have hg:=O0.got hI
  have hK0:(G0.gK (O0.recd mem i) == 0)=false:=by
   rw[(G0.g_yes hI).1]
   simpa using hk'
  have HF:Hid (∀ a c w',J0.Own w.heap.size w' a (G0.gZ (O0.recd mem i))->(G0.gZ (O0.recd mem i)).length<=c->Bq w w'->Ans mem i w (.returned (.tuple #[val (G0.gK (O0.recd mem i)) (G0.gO (O0.recd mem i)) (G0.gS (O0.recd mem i)) a (G0.gZ (O0.recd mem i)).length c,.string ((O0.joined mem (G0.gZ (O0.recd mem i)) (G0.gZ (O0.recd mem i)).length).extract 0 (G0.gS (O0.recd mem i)).toNat),.bool true])) w'):=fun a c w'=>ans_yes hL
  have hA:Hid (∀ W e w',G3.Ans (O0.recd mem i) W e w'->∃ a c,e=.returned (.tuple #[val (G0.gK (O0.recd mem i)) (G0.gO (O0.recd mem i)) (G0.gS (O0.recd mem i)) a (G0.gZ (O0.recd mem i)).length c,.bool true])/\J0.Own W.heap.size w' a (G0.gZ (O0.recd mem i))/\(G0.gZ (O0.recd mem i)).length<=c/\Bq W w'):=fun W e w' ⟨a,c,he,ho,hc,hb⟩=>⟨a,c,by rw[he,hI],ho,hc,hb⟩
  clear hk hk' hL hI hrs;obtain ⟨R,hR⟩:∃ R,O0.recd mem i=R:=⟨_,rfl⟩;rw[hR] at hg HF hA hG hRc hK0;obtain ⟨K,hK⟩:∃ K,G0.gK R=K:=⟨_,rfl⟩;obtain ⟨O,hO⟩:∃ O,G0.gO R=O:=⟨_,rfl⟩;obtain ⟨S,hS⟩:∃ S,G0.gS R=S:=⟨_,rfl⟩;obtain ⟨Z,hZ⟩:∃ Z,G0.gZ R=Z:=⟨_,rfl⟩;rw[hK,hO,hS,hZ] at HF hA;rw[hK,hS,hZ] at hg;rw[hK] at hK0;obtain ⟨⟨s0,s1⟩,zl,s2,hp,-⟩:=hg;clear hK hO hS hZ hR;go_enter func61,ntmps61
  go_wp2_with (first
   | (go_at_call 69;refine (hRc.out _).mono ?_;rintro e w' ⟨rfl,rfl⟩)
   | (go_at_call 92;refine (hG.out _).mono ?_;intro e w1 hans;obtain ⟨a,c,rfl,ho,hc,b1⟩:=hA.out _ _ _ hans;clear hans;have r1:G3.Rs w a Z w1:=G3.rs_new b1 ho;have l1:=ls_new (k:=K) (o:=O) (s:=S) (c:=c) r1))
  obtain ⟨W1,hW1⟩:∃ W1,w1.alloc (.cells (Iq K O S a Z.length c) 96)=W1:=⟨_,rfl⟩;rw[hW1] at l1 ⊢;have x0:=l1.nb.c0;have x1:=l1.nb.c1;have x2:=l1.nb.c2;have x3:=l1.nb.c3;clear hW1 b1 ho r1
  go_loop [9,10] (fun t j=>∃ k:Nat,k<=Z.length/\j=Iv k/\t=.string (O0.joined mem Z k)) (fun _ j=>Z.length-(intOf j).toNat)
  case atStart=>exact ⟨0,Nat.zero_le _,rfl,rfl⟩
  case round=>
   obtain ⟨k,hk,rfl,rfl⟩:=hrel;have hjs:=O0.joined_size hm hp k hk
   by_cases hlt:k<Z.length
   ·obtain ⟨b,off,rfl,hb,hcell⟩:=l1.rs.own.row.get hlt
    have y1:=hcell k hlt;have hz:=R0.pages_bounds hp hlt;have hu:O0.joined mem Z (k+1)=O0.joined mem Z k++B2.part mem (Z.getD k 0*32) 32:=rfl;obtain ⟨z,ez⟩:∃ z,Z.getD k 0=z:=⟨_,rfl⟩;rw[ez] at y1 hz hu;have hps:=O0.page_size hm hz.1 hz.2
    have e1:(0:Int)<=(k:Int):=by omega
    have e2:(k:Int)<(Z.length:Int):=by omega
    have zz:32*k+32<=9223372036854775807:=by omega
    have hpg:Hid (∀ W,Calls prog 71 #[.string mem,Iv z] W fun e w'=>e=.returned (.string (B2.part mem (z*32) 32))/\W=w'):=fun W=>(O1.l03Page mem z W hms hz.1 hz.2).mono fun _ _ h=>⟨h.1,h.2.symm⟩
    have HU:Hid (O0.joined mem Z (k+1)=O0.joined mem Z k++B2.part mem (z*32) 32):=hu;clear hu ez hcell hz
    go_wp2_with (go_at_call 71;refine (hpg.out _).mono ?_;rintro e w' ⟨rfl,rfl⟩)
    go_round
    case rel=>exact ⟨k+1,by omega,by go_num,by rw[HU.out]⟩
    case measure=>simp[intOf];omega
   ·obtain rfl:k=Z.length:=by omega
    have i1:S<=32*(Z.length:Int):=s2;have c0:=l1.rs.res.c0;have c1:=l1.rs.res.c1;have c2:=l1.rs.res.c2;have c3:=l1.rs.res.c3;have f0:=l1.rs.res.f0;have f1:=l1.rs.res.f1;have f2:=l1.rs.res.f2;have f3:=l1.rs.res.f3
    have i2:S<=((32*Z.length:Nat):Int):=by omega
    have hnb:=(((l1.nb.setOther (B':=w.heap.size) (by have:=l1.ne;omega) 0 (Iv K)).setOther (B':=w.heap.size) (by have:=l1.ne;omega) 1 (Iv O)).setOther (B':=w.heap.size) (by have:=l1.ne;omega) 2 (Iv S)).setOther (B':=w.heap.size) (by have:=l1.ne;omega) 3 (.slice a Z.length c);have y2:=hnb.c2;clear hnb;go_wp2
    go_region
    all_goals
     have q:=l1.rs.res.put4 (Iv K) (Iv O) (Iv S) (.slice a Z.length c);have d:=l1.rs.done (Iv K) (Iv O) (Iv S) (.slice a Z.length c);go_wp2;refine bodyPost_ret (v:=.tuple #[val K O S a Z.length c,.string ((O0.joined mem Z Z.length).extract 0 S.toNat),.bool true]) (by simp[results,results61,go_sem,q.c0,q.c1,q.c2,q.c3]) rfl (HF.out _ _ _ ?_ hc ?_)
     ·exact d.1.drew
     ·exact d.2.drew
 ·have hL':O0.isL mem i=false:=by simpa using hL
  have HF:Hid (∀ w',Bq w w'->Ans mem i w (.returned (.tuple #[val 0 0 0 none 0 0,.string ⟨#[]⟩,.bool false])) w'):=fun w'=>ans_no hL'
  have hA:Hid (∀ W e w',G3.Ans (O0.recd mem i) W e w'->∃ a c,e=.returned (.tuple #[val (G0.gK (O0.recd mem i)) (G0.gO (O0.recd mem i)) (G0.gS (O0.recd mem i)) a (G0.gZ (O0.recd mem i)).length c,.bool (G0.isI (O0.recd mem i))])/\J0.Own W.heap.size w' a (G0.gZ (O0.recd mem i))/\(G0.gZ (O0.recd mem i)).length<=c/\Bq W w'):=fun W e w' h=>h
  have hcase:((mem.size:Int) != 768)=true\/(((mem.size:Int) != 768)=false/\G0.isI (O0.recd mem i)=false)\/(((mem.size:Int) != 768)=false/\G0.isI (O0.recd mem i)=true/\(G0.gK (O0.recd mem i) == 0)=true):=by
   by_cases hm:mem.size=768
   ·right
    have g8:((mem.size:Int) != 768)=false:=by simp;omega
    cases hI:G0.isI (O0.recd mem i) with
    | false=>exact Or.inl ⟨g8,rfl⟩
    | true=>
     refine Or.inr ⟨g8,rfl,?_⟩;rw[(G0.g_yes hI).1]
     by_cases h0:B1.byteAt (O0.recd mem i) 0=0
     ·simpa using h0
     ·rw[O0.isL_of hm hI h0] at hL'
      cases hL'
   ·left
    simp;omega
  clear hL hL' hrs;obtain ⟨R,hR⟩:∃ R,O0.recd mem i=R:=⟨_,rfl⟩;rw[hR] at hA hG hRc hcase;obtain ⟨K,hK⟩:∃ K,G0.gK R=K:=⟨_,rfl⟩;obtain ⟨O,hO⟩:∃ O,G0.gO R=O:=⟨_,rfl⟩;obtain ⟨S,hS⟩:∃ S,G0.gS R=S:=⟨_,rfl⟩;obtain ⟨Z,hZ⟩:∃ Z,G0.gZ R=Z:=⟨_,rfl⟩;rw[hK,hO,hS,hZ] at hA;rw[hK] at hcase;clear hK hO hS hZ hR
  rcases hcase with g8 | ⟨g8,gI⟩ | ⟨g8,gI,gK⟩
  all_goals
   go_enter func61,ntmps61
   go_wp2_with (first
    | (go_at_call 69;refine (hRc.out _).mono ?_;rintro e w' ⟨rfl,rfl⟩)
    | (go_at_call 92;refine (hG.out _).mono ?_;intro e w1 hans;obtain ⟨a,c,rfl,ho,hc,b1⟩:=hA.out _ _ _ hans;clear hans;have r1:G3.Rs w a Z w1:=G3.rs_new b1 ho;have l1:=ls_new (k:=K) (o:=O) (s:=S) (c:=c) r1;have x0:=l1.nb.c0;have c0:=l1.rs.res.c0;have c1:=l1.rs.res.c1;have c2:=l1.rs.res.c2;have c3:=l1.rs.res.c3;have f0:=l1.rs.res.f0;have f1:=l1.rs.res.f1;have f2:=l1.rs.res.f2;have f3:=l1.rs.res.f3))
   have q:=l1.rs.res.put4 (Iv 0) (Iv 0) (Iv 0) (.slice none 0 0);have d:=l1.rs.done (Iv 0) (Iv 0) (Iv 0) (.slice none 0 0);exact bodyPost_ret (v:=.tuple #[val 0 0 0 none 0 0,.string ⟨#[]⟩,.bool false]) (by simp[results,results61,go_sem,q.c0,q.c1,q.c2,q.c3]) rfl (HF.out _ d.2)
end O3
end Go.Proofs.YtlejhfnjmkdobaaGreatDoor
