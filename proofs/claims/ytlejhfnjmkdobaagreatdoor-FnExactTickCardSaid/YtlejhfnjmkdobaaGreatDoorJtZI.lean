/- Joined texts. -/
import Derived.Test.YtlejhfnjmkdobaaGreatDoorJtZE
import Derived.Stop.LaidTwo
set_option linter.unusedVariables false
set_option linter.unusedSimpArgs false
set_option maxRecDepth 10000
set_option maxHeartbeats 16000000
namespace Go.Proofs.YtlejhfnjmkdobaaGreatDoor
open ChangeShapes WideShapes ChangeAt RowKit
open Go.Proofs.Tryz
namespace Y5
open J0 (IBuf Own)
open I2 (ints)
open Y2 (step_rows row_grown ibuf_mono)
def ins (zs:List Int) (x:Int):List Int:=zs.takeWhile (fun z=>decide (z<x))++x :: zs.dropWhile (fun z=>decide (z<x))
theorem ins_at {zs:List Int} {x:Int} {k:Nat} (hk:k<=zs.length) (h1:∀ j,j<k->zs.getD j 0<x) (h2:k<zs.length->¬ zs.getD k 0<x):ins zs x=zs.take k++x :: zs.drop k:=by
 induction zs generalizing k with
 | nil=>cases k <;> rfl
 | cons z zs ih=>
  cases k with
  | zero=>
   have h:=h2 (by simp)
   have h':¬ z<x:=by simpa using h
   simp[ins,List.takeWhile_cons,List.dropWhile_cons,h']
  | succ k=>
   have h:=h1 0 (by omega)
   have h':z<x:=by simpa using h
   have hi:=ih (k:=k) (by simpa using hk) (fun j hj=>by simpa using h1 (j+1) (by omega)) (fun hl=>by simpa using h2 (by simpa using hl));unfold ins at hi ⊢;simp only[List.takeWhile_cons,List.dropWhile_cons,decide_eq_true h',if_true,List.cons_append,List.take_succ_cons,List.drop_succ_cons];rw[hi]
theorem ins_length (zs:List Int) (x:Int):(ins zs x).length=zs.length+1:=by
 unfold ins;have:=congrArg List.length (List.takeWhile_append_dropWhile (p:=fun z=>decide (z<x)) (l:=zs));simp only[List.length_append,List.length_cons] at this ⊢;omega
theorem ins_perm (zs:List Int) (x:Int):(ins zs x).Perm (x :: zs):=by
 unfold ins;refine (List.perm_middle).trans ?_;rw[List.takeWhile_append_dropWhile]
theorem ins_sorted {zs:List Int} (x:Int) (h:zs.Pairwise (·<=·)):(ins zs x).Pairwise (·<=·):=by
 induction zs with
 | nil=>simp[ins]
 | cons z zs ih=>
  have hz:=List.pairwise_cons.1 h
  by_cases hx:z<x
  ·have:ins (z :: zs) x=z :: ins zs x:=by simp[ins,List.takeWhile_cons,List.dropWhile_cons,hx]
   rw[this,List.pairwise_cons];refine ⟨fun y hy=>?_,ih hz.2⟩
   rcases List.mem_cons.1 ((ins_perm zs x).mem_iff.1 hy) with rfl | hm
   ·omega
   ·exact hz.1 y hm
  ·have:ins (z :: zs) x=x :: z :: zs:=by simp[ins,List.takeWhile_cons,List.dropWhile_cons,hx]
   rw[this,List.pairwise_cons];refine ⟨fun y hy=>?_,h⟩
   rcases List.mem_cons.1 hy with rfl | hm
   ·omega
   ·have:=hz.1 y hm
    omega
theorem ret_len {a:Option Addr} {c n m:Nat} (h:n=m):Ending.returned (.slice a n c)=.returned (.slice a m c):=by rw[h]
theorem row_drop {W:World} {g off k:Nat} {zs:List Int} (h:P0.Row W (some ⟨g,off,none⟩) zs) (hk:k<=zs.length):P0.Row W (some ⟨g,off+k,none⟩) (zs.drop k):=by
 rcases h with h | ⟨b,o,e,hlt,hc⟩
 ·subst h
  exact Or.inl (by simp)
 ·cases e
  refine Or.inr ⟨g,off+k,rfl,hlt,fun j hj=>?_⟩;rw[List.length_drop] at hj;have:=hc (k+j) (by omega);rw[show off+k+j=off+(k+j) by omega,this,P0.getD_get _ _ (by omega),P0.getD_get _ _ (by rw[List.length_drop];omega),List.getElem_drop]
theorem row_take {W:World} {g off k:Nat} {zs:List Int} (h:P0.Row W (some ⟨g,off,none⟩) zs) (hk:k<=zs.length):P0.Row W (some ⟨g,off,none⟩) (zs.take k):=by
 rcases h with h | ⟨b,o,e,hlt,hc⟩
 ·subst h
  exact Or.inl (by simp)
 ·cases e
  refine Or.inr ⟨g,off,rfl,hlt,fun j hj=>?_⟩;rw[List.length_take] at hj;rw[hc j (by omega),P0.getD_get _ _ (by omega),P0.getD_get _ _ (by rw[List.length_take];omega),List.getElem_take]
theorem l04Add (g off c:Nat) (zs:List Int) (x:Int) (w:World) (hn:zs.length<=1048576) (hc:zs.length<=c) (hR:P0.Row w (some ⟨g,off,none⟩) zs) :
  Calls prog 67 #[.slice (some ⟨g,off,none⟩) zs.length c,Iv x] w fun e w'=>∃ a' c',e=.returned (.slice a' (zs.length+1) c')/\IBuf w.heap.size w' a' (zs.length+1) c' (ins zs x)/\Bq w w':=by
 go_enter func67,ntmps67;go_wp2
 go_loop [5] (fun i=>∃ k:Nat,k<=zs.length/\(∀ j,j<k->zs.getD j 0<x)/\i=Iv k) (fun i=>zs.length-(intOf i).toNat)
 case atStart=>exact ⟨0,Nat.zero_le _,fun j hj=>absurd hj (by omega),rfl⟩
 case round=>
  obtain ⟨k,hk,hless,rfl⟩:=hrel
  have hgo:(k<zs.length/\zs.getD k 0<x)\/((k<zs.length->¬ zs.getD k 0<x)):=by
   by_cases h1:k<zs.length
   ·by_cases h2:zs.getD k 0<x
    ·exact Or.inl ⟨h1,h2⟩
    ·exact Or.inr fun _=>h2
   ·exact Or.inr fun h=>absurd h h1
  rcases hgo with ⟨hlt,x2⟩ | hend
  ·obtain ⟨b,of2,hab,_,hcl⟩:=hR.get hlt
   cases hab;have x1:=hcl k hlt
   have HL:Hid (∀ j,j<k+1->zs.getD j 0<x):=fun j hj=>by
    by_cases h:j=k
    ·subst h;exact x2
    ·exact hless j (by omega)
   obtain ⟨z,ez⟩:∃ z,zs.getD k 0=z:=⟨_,rfl⟩;rw[ez] at x1 x2
   have e1:(0:Int)<=(k:Int):=by omega
   have e2:(k:Int)<(zs.length:Int):=by omega
   clear ez hcl hR hless;go_wp2
   go_round
   case rel=>exact ⟨k+1,by omega,HL.out,by go_num⟩
   case measure=>simp[intOf];omega
  ·have HI:Hid (ins zs x=zs.take k++x :: zs.drop k):=ins_at hk hless hend
   have e1:(0:Int)<=(k:Int):=by omega
   have e2:(k:Int)<=(c:Int):=by omega
   have e3:(k:Int)<=(zs.length:Int):=by omega
   have L0:Bq w w.drew:=(Below.refl _ _).drew;have L1:=L0.alloc L0.size (.cells #[] 3);have L2:=L1.alloc L1.size (.cells #[Iv x] 3);have M1:=L0.alloc L0.size (.cells #[Iv x] 3);have L3:=M1.alloc M1.size (.cells #[] 3);have B1:=J0.ibuf_made w.drew L0.size;have B2:=B1.alloc (.cells #[Iv x] 3);have B3:=J0.ibuf_made (w.drew.alloc (.cells #[Iv x] 3)) M1.size;have X2:=Y1.row_one (w.drew.alloc (.cells #[] 3)) x;have X3:=(Y1.row_one w.drew x).alloc (.cells #[] 3);have hTr:=row_take (k:=k) hR hk;have hDr:=row_drop (k:=k) hR hk
   have hTl:(zs.take k).length=k:=by rw[List.length_take];omega
   have hDl:(zs.drop k).length=zs.length-k:=List.length_drop
   have hsum:k+(zs.length-k)=zs.length:=by omega
   have htest:(k=zs.length)\/(k<zs.length/\∃ z,Ce w g (off+k) (Iv z)/\decide (z<x)=false):=by
    by_cases h:k<zs.length
    ·right
     obtain ⟨b,of2,hab,_,hcl⟩:=hR.get h;cases hab;exact ⟨h,_,hcl k h,by simpa using hend h⟩
    ·left;omega
   obtain ⟨T,hT⟩:∃ T,zs.take k=T:=⟨_,rfl⟩;obtain ⟨D,hD⟩:∃ D,zs.drop k=D:=⟨_,rfl⟩;rw[hT] at HI hTr hTl;rw[hD] at HI hDr hDl;clear hT hD hless hend hR
   rcases htest with hkn | ⟨hkn,z,hz,hzx⟩
   ·subst hkn
    obtain rfl:D=[]:=List.eq_nil_of_length_eq_zero (by omega)
    have e9:decide ((zs.length:Int)<(zs.length:Int))=false:=by simp
    clear hDr hDl hsum
    by_cases hcn:c=zs.length
    ·subst c
     clear hk hc;go_wp2
     go_region_law (first
      | (refine step_rows rfl (.tmp 27) (.tmp 30) rfl f8 (some ⟨g,off,none⟩) (0) [] (by simp[Act.eval,Act.put,hTl]) (by simp[Act.eval,Act.put,hTl]) (Or.inl rfl) (by simp only[List.length_cons,List.length_nil];omega) l8.size ?_;intro a9 c9 w9 f9 g9;have l9:=l8.trans (D7.run_below f8 l8.size g9))
      | (refine step_rows rfl (.tmp 24) (.tmp 26) rfl f7 _ _ [x] (by simp[Act.eval,Act.put,hTl]) (by simp[Act.eval,Act.put];rfl) x7 (by simp only[List.length_cons,List.length_nil];omega) l7.size ?_;intro a8 c8 w8 f8 g8;have l8:=l7.trans (D7.run_below f7 l7.size g8))
      | (refine step_rows rfl (.tmp 24) (.tmp 26) rfl (f7.alloc (.cells #[Iv x] 3)) (some ⟨w7.heap.size,0,none⟩) 1 [x] (by simp[Act.eval,Act.put,hTl]) (by simp[Act.eval,Act.put]) (Y1.row_one w7 x) (by simp only[List.length_cons,List.length_nil];omega) (l7.alloc l7.size _).size ?_;intro a8 c8 w8 f8 g8;have l8:=(l7.alloc l7.size (.cells #[Iv x] 3)).trans (D7.run_below (f7.alloc (.cells #[Iv x] 3)) (l7.alloc l7.size (.cells #[Iv x] 3)).size g8))
      | (refine step_rows rfl (.tmp 20) (.tmp 23) rfl B1 (some ⟨g,off,none⟩) zs.length T (by simp[Act.eval,Act.put]) (by simp[Act.eval,Act.put,hTl]) (hTr.below L1) (by omega) L1.size ?_;intro a7 c7 w7 f7 g7;have l7:=L1.trans (D7.run_below B1 L1.size g7))
      | (refine step_rows rfl (.tmp 20) (.tmp 23) rfl B2 (some ⟨g,off,none⟩) zs.length T (by simp[Act.eval,Act.put]) (by simp[Act.eval,Act.put,hTl]) (hTr.below L2) (by omega) L2.size ?_;intro a7 c7 w7 f7 g7;have l7:=L2.trans (D7.run_below B2 L2.size g7);have x7:=row_grown X2 g7 (by rintro p ⟨⟩ h;simp[Value.ownBlock] at h))
      | (refine step_rows rfl (.tmp 20) (.tmp 23) rfl B3 (some ⟨g,off,none⟩) zs.length T (by simp[Act.eval,Act.put]) (by simp[Act.eval,Act.put,hTl]) (hTr.below L3) (by omega) L3.size ?_;intro a7 c7 w7 f7 g7;have l7:=L3.trans (D7.run_below B3 L3.size g7);have x7:=row_grown X3 g7 (by rintro p ⟨⟩ h;simp[Value.ownBlock] at h)))
     all_goals
      have f9:IBuf w.heap.size w9 a9 (zs.length+1) c9 (ins zs x):=by
       rw[HI.out];have hf:=f9;simp only[List.nil_append,List.append_assoc,List.cons_append,List.append_nil] at hf;rw[show 0+T.length + [x].length+([]:List Int).length=zs.length+1 by simp only[List.length_cons,List.length_nil];omega] at hf;exact hf
      go_wp2;go_ret;exact ⟨a9,c9,by rfl,f9,l9⟩
    ·clear hk
     go_wp2
     go_region_law (first
      | (refine step_rows rfl (.tmp 27) (.tmp 30) rfl f8 (some ⟨g,off+zs.length,none⟩) (c-zs.length) [] (by simp[Act.eval,Act.put,hTl]) (by simp[Act.eval,Act.put,hTl]) (Or.inl rfl) (by simp only[List.length_cons,List.length_nil];omega) l8.size ?_;intro a9 c9 w9 f9 g9;have l9:=l8.trans (D7.run_below f8 l8.size g9))
      | (refine step_rows rfl (.tmp 24) (.tmp 26) rfl f7 _ _ [x] (by simp[Act.eval,Act.put,hTl]) (by simp[Act.eval,Act.put];rfl) x7 (by simp only[List.length_cons,List.length_nil];omega) l7.size ?_;intro a8 c8 w8 f8 g8;have l8:=l7.trans (D7.run_below f7 l7.size g8))
      | (refine step_rows rfl (.tmp 24) (.tmp 26) rfl (f7.alloc (.cells #[Iv x] 3)) (some ⟨w7.heap.size,0,none⟩) 1 [x] (by simp[Act.eval,Act.put,hTl]) (by simp[Act.eval,Act.put]) (Y1.row_one w7 x) (by simp only[List.length_cons,List.length_nil];omega) (l7.alloc l7.size _).size ?_;intro a8 c8 w8 f8 g8;have l8:=(l7.alloc l7.size (.cells #[Iv x] 3)).trans (D7.run_below (f7.alloc (.cells #[Iv x] 3)) (l7.alloc l7.size (.cells #[Iv x] 3)).size g8))
      | (refine step_rows rfl (.tmp 20) (.tmp 23) rfl B1 (some ⟨g,off,none⟩) c T (by simp[Act.eval,Act.put]) (by simp[Act.eval,Act.put,hTl]) (hTr.below L1) (by omega) L1.size ?_;intro a7 c7 w7 f7 g7;have l7:=L1.trans (D7.run_below B1 L1.size g7))
      | (refine step_rows rfl (.tmp 20) (.tmp 23) rfl B2 (some ⟨g,off,none⟩) c T (by simp[Act.eval,Act.put]) (by simp[Act.eval,Act.put,hTl]) (hTr.below L2) (by omega) L2.size ?_;intro a7 c7 w7 f7 g7;have l7:=L2.trans (D7.run_below B2 L2.size g7);have x7:=row_grown X2 g7 (by rintro p ⟨⟩ h;simp[Value.ownBlock] at h))
      | (refine step_rows rfl (.tmp 20) (.tmp 23) rfl B3 (some ⟨g,off,none⟩) c T (by simp[Act.eval,Act.put]) (by simp[Act.eval,Act.put,hTl]) (hTr.below L3) (by omega) L3.size ?_;intro a7 c7 w7 f7 g7;have l7:=L3.trans (D7.run_below B3 L3.size g7);have x7:=row_grown X3 g7 (by rintro p ⟨⟩ h;simp[Value.ownBlock] at h)))
     all_goals
      have f9:IBuf w.heap.size w9 a9 (zs.length+1) c9 (ins zs x):=by
       rw[HI.out];have hf:=f9;simp only[List.nil_append,List.append_assoc,List.cons_append,List.append_nil] at hf;rw[show 0+T.length + [x].length+([]:List Int).length=zs.length+1 by simp only[List.length_cons,List.length_nil];omega] at hf;exact hf
      go_wp2;go_ret;exact ⟨a9,c9,by rfl,f9,l9⟩
   ·have e4:(k:Int)<(zs.length:Int):=by omega
    have hck:¬ c=k:=by omega
    go_wp2
    go_region_law (first
     | (refine step_rows rfl (.tmp 27) (.tmp 30) rfl f8 (some ⟨g,off+k,none⟩) (c-k) D (by simp[Act.eval,Act.put,hTl,hDl]) (by simp[Act.eval,Act.put,hTl,hDl]) (hDr.below l8) (by simp only[List.length_cons,List.length_nil];omega) l8.size ?_;intro a9 c9 w9 f9 g9;have l9:=l8.trans (D7.run_below f8 l8.size g9))
     | (refine step_rows rfl (.tmp 24) (.tmp 26) rfl f7 _ _ [x] (by simp[Act.eval,Act.put,hTl,hDl]) (by simp[Act.eval,Act.put];rfl) x7 (by simp only[List.length_cons,List.length_nil];omega) l7.size ?_;intro a8 c8 w8 f8 g8;have l8:=l7.trans (D7.run_below f7 l7.size g8))
     | (refine step_rows rfl (.tmp 24) (.tmp 26) rfl (f7.alloc (.cells #[Iv x] 3)) (some ⟨w7.heap.size,0,none⟩) 1 [x] (by simp[Act.eval,Act.put,hTl,hDl]) (by simp[Act.eval,Act.put]) (Y1.row_one w7 x) (by simp only[List.length_cons,List.length_nil];omega) (l7.alloc l7.size _).size ?_;intro a8 c8 w8 f8 g8;have l8:=(l7.alloc l7.size (.cells #[Iv x] 3)).trans (D7.run_below (f7.alloc (.cells #[Iv x] 3)) (l7.alloc l7.size (.cells #[Iv x] 3)).size g8))
     | (refine step_rows rfl (.tmp 20) (.tmp 23) rfl B1 (some ⟨g,off,none⟩) c T (by simp[Act.eval,Act.put]) (by simp[Act.eval,Act.put,hTl,hDl]) (hTr.below L1) (by omega) L1.size ?_;intro a7 c7 w7 f7 g7;have l7:=L1.trans (D7.run_below B1 L1.size g7))
     | (refine step_rows rfl (.tmp 20) (.tmp 23) rfl B2 (some ⟨g,off,none⟩) c T (by simp[Act.eval,Act.put]) (by simp[Act.eval,Act.put,hTl,hDl]) (hTr.below L2) (by omega) L2.size ?_;intro a7 c7 w7 f7 g7;have l7:=L2.trans (D7.run_below B2 L2.size g7);have x7:=row_grown X2 g7 (by rintro p ⟨⟩ h;simp[Value.ownBlock] at h))
     | (refine step_rows rfl (.tmp 20) (.tmp 23) rfl B3 (some ⟨g,off,none⟩) c T (by simp[Act.eval,Act.put]) (by simp[Act.eval,Act.put,hTl,hDl]) (hTr.below L3) (by omega) L3.size ?_;intro a7 c7 w7 f7 g7;have l7:=L3.trans (D7.run_below B3 L3.size g7);have x7:=row_grown X3 g7 (by rintro p ⟨⟩ h;simp[Value.ownBlock] at h)))
    all_goals
     have f9:IBuf w.heap.size w9 a9 (zs.length+1) c9 (ins zs x):=by
      rw[HI.out];have hf:=f9;simp only[List.nil_append,List.append_assoc,List.cons_append,List.append_nil] at hf;rw[show 0+T.length + [x].length+D.length=zs.length+1 by simp only[List.length_cons,List.length_nil];omega] at hf;exact hf
     go_wp2;go_ret;exact ⟨a9,c9,by refine ret_len ?_;omega,f9,l9⟩
end Y5
namespace Y6
open J0 (IBuf Own)
open I2 (ints)
open Y5 (ins)
open Y2 (ibuf_mono)
def srt (zs:List Int):List Int:=zs.foldl ins []
theorem srt_snoc (zs:List Int) (x:Int):srt (zs ++ [x])=ins (srt zs) x:=by simp[srt,List.foldl_append]
theorem foldl_perm (zs acc:List Int):(zs.foldl ins acc).Perm (acc++zs):=by
 induction zs generalizing acc with
 | nil=>simp
 | cons z zs ih=>
  refine (ih (ins acc z)).trans ?_;refine ((Y5.ins_perm acc z).append_right zs).trans ?_;exact (List.perm_middle (l₁:=acc) (l₂:=zs) (a:=z)).symm
theorem srt_perm (zs:List Int):(srt zs).Perm zs:=foldl_perm zs []
theorem srt_length (zs:List Int):(srt zs).length=zs.length:=(srt_perm zs).length_eq
theorem foldl_sorted (zs acc:List Int) (h:acc.Pairwise (·<=·)):(zs.foldl ins acc).Pairwise (·<=·):=by
 induction zs generalizing acc with
 | nil=>exact h
 | cons z zs ih=>exact ih _ (Y5.ins_sorted z h)
theorem srt_sorted (zs:List Int):(srt zs).Pairwise (·<=·):=foldl_sorted zs [] List.Pairwise.nil
theorem sorted_one:∀ {xs ys:List Int},xs.Perm ys->xs.Pairwise (·<=·)->ys.Pairwise (·<=·)->xs=ys
 | [],ys,hp,_,_=>(List.nil_perm.1 hp).symm
 | x :: xs,[],hp,_,_=>absurd hp.length_eq (by simp)
 | x :: xs,y :: ys,hp,h1,h2=>by
  have q1:=List.pairwise_cons.1 h1;have q2:=List.pairwise_cons.1 h2;have hx:x ∈ y :: ys:=hp.mem_iff.1 (by simp);have hy:y ∈ x :: xs:=hp.mem_iff.2 (by simp)
  obtain rfl:x=y:=by
   rcases List.mem_cons.1 hx with e | m1
   ·exact e
   ·rcases List.mem_cons.1 hy with e | m2
    ·exact e.symm
    ·have:=q1.1 y m2
     have:=q2.1 x m1;omega
  rw[sorted_one (List.perm_cons x |>.1 hp) q1.2 q2.2]
theorem merge_srt (zs:List Int):zs.mergeSort (fun x y=>decide (x<=y))=srt zs:=by
 refine sorted_one ((List.mergeSort_perm zs _).trans (srt_perm zs).symm) ?_ (srt_sorted zs);have:=List.pairwise_mergeSort (le:=fun x y:Int=>decide (x<=y)) (fun a b c h1 h2=>by simp only[decide_eq_true_eq] at h1 h2 ⊢;omega) (fun a b=>by simp only[Bool.or_eq_true,decide_eq_true_eq];omega) zs
 exact this.imp fun h=>by simpa using h
def kept (b:Bool) (zs al:List Int):List Int:=zs.filter fun z=>P0.has al z == b
theorem kept_yes {b:Bool} {zs al:List Int} {k:Nat} (hk:k<zs.length) (h:P0.has al (zs.getD k 0)=b):srt (kept b (zs.take (k+1)) al)=ins (srt (kept b (zs.take k) al)) (zs.getD k 0):=by
 rw[<- srt_snoc];unfold kept;rw[List.take_succ_eq_append_getElem hk,List.filter_append,P0.getD_get _ _ hk];rw[P0.getD_get _ _ hk] at h;simp[h]
theorem kept_no {b:Bool} {zs al:List Int} {k:Nat} (hk:k<zs.length) (h:P0.has al (zs.getD k 0)=!b):srt (kept b (zs.take (k+1)) al)=srt (kept b (zs.take k) al):=by
 unfold kept;rw[List.take_succ_eq_append_getElem hk,List.filter_append];rw[P0.getD_get _ _ hk] at h
 cases b <;> simp[h]
theorem kept_len (b:Bool) (zs al:List Int) (k:Nat):(srt (kept b (zs.take k) al)).length<=zs.length:=by
 rw[srt_length];exact Nat.le_trans (List.length_filter_le _ _) (by rw[List.length_take];omega)
theorem l05OnlyB (b:Bool) (a1 a2:Option Addr) (c1 c2:Nat) (zs al:List Int) (w:World) (h1:zs.length<=1048576) (h2:al.length<=281474976710656) (R1:P0.Row w a1 zs) (R2:P0.Row w a2 al) :
  Calls prog 42 #[.slice a1 zs.length c1,.slice a2 al.length c2,.bool b] w fun e w'=>∃ a c,e=.returned (.slice a (srt (kept b zs al)).length c)/\IBuf w.heap.size w' a (srt (kept b zs al)).length c (srt (kept b zs al))/\Bq w w':=by
 have b0:=J0.ibuf_made w (Nat.le_refl _);have l0:=K0.below_new w (.cells #[] 3);go_enter func42,ntmps42;go_wp2
 go_loopw [7,8] (fun v i w'=>∃ (k n c g:Nat),k<=zs.length/\i=Iv k/\v=Sv g n c/\IBuf w.heap.size w' (some ⟨g,0,none⟩) n c (srt (kept b (zs.take k) al))/\Bq w w') (fun _ i _=>zs.length-(intOf i).toNat)
 case atStart=>exact ⟨0,0,0,_,Nat.zero_le _,rfl,rfl,b0,l0⟩
 case round=>
  obtain ⟨k,n,c',g,hk,rfl,rfl,hbuf,hbel⟩:=hrel;clear b0 l0
  by_cases hlt:k<zs.length
  ·obtain ⟨bb,off,hab,_,hc⟩:=(R1.below hbel).get hlt
   have x1:=hc k hlt
   have hyes:=fun h=>kept_yes (b:=b) (zs:=zs) (al:=al) hlt h
   have hno:=fun h=>kept_no (b:=b) (zs:=zs) (al:=al) hlt h
   have hln:=kept_len b zs al k;obtain ⟨z,ez⟩:∃ z,zs.getD k 0=z:=⟨_,rfl⟩;rw[ez] at x1 hyes hno;have hH:Hid (Calls prog 64 #[.slice a2 al.length c2,Iv z] wr (Rw (.bool (P0.has al z)) wr)):=N2.hasRow a2 c2 al z wr h2 (R2.below hbel);obtain ⟨O,hO⟩:∃ O,srt (kept b (zs.take k) al)=O:=⟨_,rfl⟩;rw[hO] at hbuf hyes hno hln;obtain rfl:n=O.length:=hbuf.1;have hA:Hid (Calls prog 67 #[Sv g O.length c',Iv z] wr fun e w'=>∃ a' c',e=.returned (.slice a' (O.length+1) c')/\IBuf wr.heap.size w' a' (O.length+1) c' (ins O z)/\Bq wr w'):=Y5.l04Add g 0 c' O z wr (by omega) hbuf.fits hbuf.own.row;rw[hab]
   have e1:(0:Int)<=(k:Int):=by omega
   have e2:(k:Int)<(zs.length:Int):=by omega
   by_cases h:P0.has al z=b
   ·have HS:Hid (ins O z=srt (kept b (zs.take (k+1)) al)):=(hyes h).symm
    rw[h] at hH;clear ez hc hyes hno h R1 R2 hO hbuf
    have hbb:(b == b)=true:=by simp
    go_wp2_with (first
     | (go_at_call 64;refine (hH.out).mono ?_;rintro e w' ⟨rfl,rfl⟩)
     | (go_at_call 67;refine (hA.out).mono ?_;rintro e w3 ⟨a3,c3,rfl,f3,b3⟩))
    obtain ⟨g3,rfl⟩:∃ g3,a3=some ⟨g3,0,none⟩:=by
     rcases f3.own with h0 | ⟨g3,e3,_⟩
     ·exact absurd (congrArg List.length h0) (by rw[Y5.ins_length];simp)
     ·exact ⟨g3,e3⟩
    go_roundw
    case rel=>exact ⟨k+1,_,c3,g3,by omega,by go_num,rfl,by rw[<- HS.out];exact ibuf_mono f3 hbel.size,hbel.trans (b3.mono hbel.size)⟩
    case measure=>simp[intOf];omega
   ·have h':P0.has al z=!b:=by
     cases b <;> cases hh:P0.has al z <;> simp_all
    have HS:Hid (srt (kept b (zs.take (k+1)) al)=O):=hno h';rw[h'] at hH
    have hbb:((!b) == b)=false:=by cases b <;> rfl
    clear ez hc hyes hno h h' R1 R2 hO
    go_wp2_with (go_at_call 64;refine (hH.out).mono ?_;rintro e w' ⟨rfl,rfl⟩)
    go_roundw
    case rel=>exact ⟨k+1,_,c',g,by omega,by go_num,rfl,by rw[HS.out];exact hbuf,hbel⟩
    case measure=>simp[intOf];omega
  ·obtain rfl:k=zs.length:=by omega
   have HF:Hid (IBuf w.heap.size wr (some ⟨g,0,none⟩) n c' (srt (kept b zs al))):=by
    show IBuf _ _ _ _ _ _
    rw[List.take_length] at hbuf;exact hbuf
   have e9:decide ((zs.length:Int)<(zs.length:Int))=false:=by simp
   clear hbuf R1 R2;go_wp2;go_ret;exact ⟨_,c',by rw[<- HF.out.1];rfl,by rw[<- HF.out.1];exact HF.out,hbel⟩
theorem l05Only (b:Bool) (a1 a2:Option Addr) (c1 c2:Nat) (zs al:List Int) (w:World) (h1:zs.length<=1048576) (h2:al.length<=281474976710656) (R1:P0.Row w a1 zs) (R2:P0.Row w a2 al) :
  Calls prog 42 #[.slice a1 zs.length c1,.slice a2 al.length c2,.bool b] w fun e w'=>∃ a c,e=.returned (.slice a (srt (kept b zs al)).length c)/\(srt (kept b zs al)).length<=c/\J0.Own w.heap.size w' a (srt (kept b zs al))/\Bq w w':=
 (l05OnlyB b a1 a2 c1 c2 zs al w h1 h2 R1 R2).mono fun e w' ⟨a,c,he,hb,hw⟩=>⟨a,c,he,hb.fits,hb.own,hw⟩
end Y6
namespace TTF
open TE (Errs Lies)
theorem laid_step {P:Program} {n nm:String} {text:List UInt8} {r:List (String × DataW Unit)} {W:World} {ps:List MemPlace} {g:Nat} {ti tp te ts:TypeId} {ms:Array (String × TypeId)} {f:Field}
  (h:DataW.LaidVars P W ((n,.iface nm (.ptr (.agg [.lit (.string text)]))) :: r) ps)
  (hrows:∀ b off,MemPlace.cell b off ∈ ps->(∃ c t,W.heap[b]? = some (.cells c t (0,0)))/\∀ u v,Ce W b off (.iface u v)->Value.okWide P W .any 0 u v)
  (hg:P.globalNamed n=some g) (ht:(P.globals[g]?).map (·.type)=some ti)
  (hi:P.underlying ti=some (.interface ms)) (hrow:∀ u,P.typeName? 3 u=some nm->u=tp)
  (hp:P.underlying tp=some (.pointer te)) (he:P.underlying te=some (.struct #[f])) (hft:f.type=ts) (hfo:f.offset=0) (hs:P.underlying ts=some .string) (hc:P.cellsOf te=1) (hcs:P.cellsOf ts=1) :
  ∃ (a:Addr) (q:List MemPlace),Ce W g 0 (.iface tp (.pointer (some a)))/\(∃ c t,W.heap[a.block]? = some (.cells c t (0,0)))/\(∃ c t,W.heap[g]? = some (.cells c t (0,0)))/\MemPlace.cell a.block a.off ∈ ps/\(∀ b off,MemPlace.cell b off ∈ q->MemPlace.cell b off ∈ ps)/\(ps.Nodup->MemPlace.cell a.block a.off ∉ q/\q.Nodup)/\DataW.LaidVars P W r q:=by
 obtain ⟨g0,t0,cs0,f0,p0,q0,hg0,ht0,hv0,hd0,hr,e0⟩:=h;obtain rfl:=Option.some.inj (hg.symm.trans hg0);obtain rfl:=Option.some.inj (ht.symm.trans ht0);subst e0;obtain ⟨l0⟩:=cs0;have hcell:=World.var?_cell hg0 hv0 0
 have ok0:∀ u v,l0=[.iface u v]->Value.okWide P W .any 0 u v:=fun u v e=>by
  subst e;exact (hrows g 0 (by simp[MemPlace.row])).2 u v (by simpa using hcell)
 obtain ⟨a0,s0,rfl,hc0,hs0,hz0,rfl⟩:=errorString_of_trod hi hrow hp he hft hfo hs hc hcs hd0 ok0;refine ⟨a0,q0,by simpa using hcell,(hrows a0.block a0.off (by simp[MemPlace.row])).1,(hrows g 0 (by simp[MemPlace.row])).1,by simp[MemPlace.row],fun b off h=>List.mem_append_right _ h,fun hn=>?_,hr⟩;simp[MemPlace.row] at hn;refine ⟨?_,?_⟩
 ·intro h
  simp_all
 ·simp_all
theorem gN:prog.globalNamed "loop.example/g00278/impl.errNoFile" = some 0:=by kernel_rfl
theorem gD:prog.globalNamed "loop.example/g00278/impl.errDenied" = some 1:=by kernel_rfl
theorem gB:prog.globalNamed "loop.example/g00278/impl.errBusy" = some 2:=by kernel_rfl
theorem gF:prog.globalNamed "loop.example/g00278/impl.errFault" = some 3:=by kernel_rfl
theorem gR:prog.globalNamed "loop.example/g00278/impl.errRejected" = some 4:=by kernel_rfl
theorem tN:(prog.globals[0]?).map (·.type)=some 54:=by kernel_rfl
theorem tD:(prog.globals[1]?).map (·.type)=some 54:=by kernel_rfl
theorem tB:(prog.globals[2]?).map (·.type)=some 54:=by kernel_rfl
theorem tF:(prog.globals[3]?).map (·.type)=some 54:=by kernel_rfl
theorem tR:(prog.globals[4]?).map (·.type)=some 54:=by kernel_rfl
theorem cE:prog.cellsOf 296=1:=by kernel_rfl
theorem cS:prog.cellsOf 9=1:=by kernel_rfl
theorem star : "*" ++ "errors.errorString" = "*errors.errorString":=by decide
theorem rowE (u:TypeId) (h:prog.typeName? 3 u=some "*errors.errorString"):u=273:=
 typeName_ptr_named (nm:= "errors.errorString") (by rw[star];kernel_rfl) (by kernel_rfl) (by decide) u (by rw[star];exact h)
theorem errs {xN xD xB xF xR:List UInt8} {r:List (String × DataW Unit)} {W:World} (h:laidMet prog (("loop.example/g00278/impl.errNoFile",.iface "*errors.errorString" (.ptr (.agg [.lit (.string xN)]))) :: ("loop.example/g00278/impl.errDenied",.iface "*errors.errorString" (.ptr (.agg [.lit (.string xD)]))) :: ("loop.example/g00278/impl.errBusy",.iface "*errors.errorString" (.ptr (.agg [.lit (.string xB)]))) :: ("loop.example/g00278/impl.errFault",.iface "*errors.errorString" (.ptr (.agg [.lit (.string xF)]))) :: ("loop.example/g00278/impl.errRejected",.iface "*errors.errorString" (.ptr (.agg [.lit (.string xR)]))) :: r) W) :
  ∃ pN pD pB pF pR,Errs pN pD pB pF pR W.heap.size W:=by
 obtain ⟨ps,hv,hnd,hrows⟩:=h;obtain ⟨pN,q1,c1,l1,g1,m1,s1,u1,v1⟩:=laid_step hv hrows gN tN underlying54 rowE underlying273 underlying296 rfl rfl underlying9 cE cS;obtain ⟨n1,d1⟩:=u1 hnd;obtain ⟨pD,q2,c2,l2,g2,m2,s2,u2,v2⟩:=laid_step v1 (fun b off h=>hrows b off (s1 b off h)) gD tD underlying54 rowE underlying273 underlying296 rfl rfl underlying9 cE cS;obtain ⟨n2,d2⟩:=u2 d1;obtain ⟨pB,q3,c3,l3,g3,m3,s3,u3,v3⟩:=laid_step v2 (fun b off h=>hrows b off (s1 b off (s2 b off h))) gB tB underlying54 rowE underlying273 underlying296 rfl rfl underlying9 cE cS;obtain ⟨n3,d3⟩:=u3 d2;obtain ⟨pF,q4,c4,l4,g4,m4,s4,u4,v4⟩:=laid_step v3 (fun b off h=>hrows b off (s1 b off (s2 b off (s3 b off h)))) gF tF underlying54 rowE underlying273 underlying296 rfl rfl underlying9 cE cS;obtain ⟨n4,d4⟩:=u4 d3;obtain ⟨pR,q5,c5,l5,g5,m5,s5,u5,v5⟩:=laid_step v4 (fun b off h=>hrows b off (s1 b off (s2 b off (s3 b off (s4 b off h))))) gR tR underlying54 rowE underlying273 underlying296 rfl rfl underlying9 cE cS
 have lt:∀ x:Nat,(∃ c t,W.heap[x]? = some (.cells c t (0,0)))->x<W.heap.size:=fun x ⟨c,t,hb⟩=>(Array.getElem?_eq_some_iff.1 hb).1
 refine ⟨pN,pD,pB,pF,pR,⟨c1,c2,c3,c4,c5,l1,l2,l3,l4,l5,lt _ l1,lt _ l2,lt _ l3,lt _ l4,lt _ l5,⟨lt _ g1,lt _ g2,lt _ g3,lt _ g4,lt _ g5⟩,?_,?_,?_,?_⟩⟩
 ·rintro rfl
  exact n1 (s2 _ _ (s3 _ _ (s4 _ _ m5)))
 ·rintro rfl
  exact n2 (s3 _ _ (s4 _ _ m5))
 ·rintro rfl
  exact n3 (s4 _ _ m5)
 ·rintro rfl
  exact n4 m5
end TTF
end Go.Proofs.YtlejhfnjmkdobaaGreatDoor
