/- Joined texts. -/
import Derived.Test.YtlejhfnjmkdobaaGreatDoorJtZO
import Derived.Test.YtlejhfnjmkdobaaGreatDoorJtZP
import Derived.Test.YtlejhfnjmkdobaaGreatDoorJtZL
import Derived.Test.YtlejhfnjmkdobaaGreatDoorJtZM
set_option linter.unusedVariables false
set_option linter.unusedSimpArgs false
set_option maxRecDepth 10000
set_option maxHeartbeats 16000000
namespace Go.Proofs.YtlejhfnjmkdobaaGreatDoor
open Go.Proofs.Tryz
namespace KY
open Go
open N0 (Ln)
open Z0 (dat Kp)
open Z4 (truth)
open KO (gath)
open KP (once once_iff)
open US (used)
open TW (sound tK)
open KV (fin)
theorem app_inj {a b c d:ByteArray} (h:a++b=c++d) (hs:a.size=c.size):a=c/\b=d:=by
 have h1:=congrArg (fun x=>x.data.toList) h;simp only[ByteArray.data_append,Array.toList_append] at h1
 have ha:a.data.toList.length=c.data.toList.length:=by rw[<- Lib.size_eq,<- Lib.size_eq];exact hs
 obtain ⟨h2,h3⟩:=List.append_inj h1 ha;exact ⟨ByteArray.ext (Array.toList_inj.1 h2),ByteArray.ext (Array.toList_inj.1 h3)⟩
theorem ext_cut (s:ByteArray) (i n:Nat):s.extract 0 (i+n)=s.extract 0 i++s.extract i (i+n):=by
 apply ByteArray.ext
 apply Array.toList_inj.1
 rw[ByteArray.data_append,Array.toList_append,Lib.extract_data,Lib.extract_data,Lib.extract_data,List.drop_zero,Nat.sub_zero,Nat.sub_zero,Nat.add_sub_cancel_left,List.take_add]
theorem pages_eq {m:ByteArray} (hm:m.size=768) (d:Ln) (hp:P0.pagesOk d.pg=true) (hsv:d.sav.size=d.pg.length*32):∀ k,k<=d.pg.length->(N0.to (KL.pgAt m d) k=true ↔ O0.joined m d.pg k=d.sav.extract 0 (k*32))
 | 0,_=>by
  constructor
  ·intro _
   apply ByteArray.ext
   apply Array.toList_inj.1
   rw[Lib.extract_data];simp[O0.joined]
  ·intro _
   rfl
 | k+1,hk=>by
  have ih:=pages_eq hm d hp hsv k (by omega);have hjs:=O0.joined_size hm hp k (by omega)
  have hxs:(d.sav.extract 0 (k*32)).size=k*32:=by rw[ByteArray.size_extract];omega
  have hpt:B2.part d.sav ((k:Int)*32) 32=d.sav.extract (k*32) (k*32+32):=by
   rw[B2.part,show B2.lies d.sav.size ((k:Int)*32) 32=true from decide_eq_true (by omega),if_pos rfl,show ((k:Int)*32).toNat=k*32 by omega,show ((k:Int)*32+32).toNat=k*32+32 by omega]
  rw[N0.to_succ,Bool.and_eq_true,ih,O0.joined,show (k+1)*32=k*32+32 by omega,ext_cut];unfold KL.pgAt;rw[decide_eq_true_eq,hpt];constructor
  ·rintro ⟨h1,h2⟩
   rw[h1,h2]
  ·intro h
   obtain ⟨h1,h2⟩:=app_inj h (by omega);exact ⟨h1,h2.symm⟩
theorem nulls16:R0.putI 0 0 0 []=B4.zeros 16:=by decide +kernel
theorem free_rec {s:ByteArray} (h:G0.isI s=true):G0.gK s=0 ↔ s=B4.zeros 16:=by
 have h':=h;simp only[G0.isI,Bool.and_eq_true,decide_eq_true_eq,beq_iff_eq] at h';obtain ⟨hs,ht⟩:=h';rw[ByteArray.toList_eq,ByteArray.toList_eq] at ht;have ht':G0.txt s=s:=ByteArray.ext (Array.toList_inj.1 ht);rw[G0.gK,if_pos h];constructor
 ·intro h0
  have hok:I0.ok (B1.byteAt s 0) (B1.byteAt s 1) (B6.pairAt s 2) (G0.pgs s (G0.cnt s))=true:=by
   cases hk:I0.ok (B1.byteAt s 0) (B1.byteAt s 1) (B6.pairAt s 2) (G0.pgs s (G0.cnt s)) with
   | true=>rfl
   | false=>
    have:(G0.txt s).size=0:=by
     rw[G0.txt,R0.putI,hk];rfl
    rw[ht',hs] at this;omega
  have h1:=hok;rw[h0,I0.ok,if_pos rfl,I0.free] at h1;simp only[Bool.and_eq_true,decide_eq_true_eq] at h1;obtain ⟨a1,a2,a3⟩:=h1;have a4:G0.pgs s (G0.cnt s)=[]:=List.eq_nil_of_length_eq_zero a3;rw[<- ht',G0.txt,h0,a1,a2,a4];exact nulls16
 ·intro hz
  rw[hz];decide +kernel
theorem mem_to (m:ByteArray) (P:Nat->ByteArray):∀ n (z:Int),z ∈ (FI.filesTo m P n).map (fun f=>f.ino) ↔ ∃ i,i<n/\z=(i:Int)/\tK m i≠0
 | 0,z=>by simp[FI.filesTo]
 | n+1,z=>by
  rw[FI.filesTo,List.map_append,List.mem_append,mem_to m P n z]
  by_cases hk:tK m n=0
  ·rw[if_pos hk]
   constructor
   ·rintro (⟨i,h1,h2,h3⟩ | h)
    ·exact ⟨i,by omega,h2,h3⟩
    ·cases h
   ·rintro ⟨i,h1,h2,h3⟩
    by_cases hi:i=n
    ·rw[hi] at h3
     exact absurd hk h3
    ·exact Or.inl ⟨i,by omega,h2,h3⟩
  ·rw[if_neg hk]
   constructor
   ·rintro (⟨i,h1,h2,h3⟩ | h)
    ·exact ⟨i,by omega,h2,h3⟩
    ·simp only[List.map_cons,List.map_nil,List.mem_singleton] at h
     exact ⟨n,by omega,by rw[h];rfl,hk⟩
   ·rintro ⟨i,h1,h2,h3⟩
    by_cases hi:i=n
    ·right
     subst hi;simp only[List.map_cons,List.map_nil,List.mem_singleton];rw[h2];rfl
    ·exact Or.inl ⟨i,by omega,h2,h3⟩
theorem fresh_eq {m:ByteArray} (hs:sound m=true) {z:Int} (h1:1<=z) (h7:z<=7):O0.recd m z=B4.zeros 16 ↔ ¬ z ∈ fin m:=by
 obtain ⟨hm,hn,_,_⟩:=FI.sound_parts hs;obtain ⟨i,rfl⟩:∃ i:Nat,z=(i:Int):=⟨z.toNat,by omega⟩;have hno:=N0.to_iff.1 hn i (by omega)
 have hI:G0.isI (O0.recd m (i:Int))=true:=by
  simp only[D1.nodeOk,Bool.and_eq_true] at hno;exact hno.1
 rw[<- free_rec hI];unfold fin FI.files;rw[if_pos hs,mem_to];constructor
 ·rintro h ⟨j,hj,he,hk⟩
  have:j=i:=by omega
  subst this;exact hk h
 ·intro h
  by_cases hk:tK m i=0
  ·exact hk
  ·exact absurd ⟨i,by omega,rfl,hk⟩ h
theorem apart_iff (pg po:List Int):N0.apart pg po=true ↔ ∀ z ∈ po,¬ z ∈ pg:=by
 unfold N0.apart;rw[N0.to_iff];constructor
 ·intro h z hz
  obtain ⟨i,hi,rfl⟩:=N0.mem_getD hz;have:=h i hi;simp only[N0.apAt,Bool.not_eq_true'] at this;intro hc;rw[N0.has_iff.2 hc] at this;cases this
 ·intro h i hi
  have:=h _ (N0.getD_mem hi);simp only[N0.apAt,Bool.not_eq_true']
  cases hh:P0.has pg (po.getD i 0) with
  | false=>rfl
  | true=>exact absurd (N0.has_iff.1 hh) this
theorem kept_iff (po us:List Int):(Y6.srt (Y6.kept true po us)).length=0 ↔ N0.apart us po=true:=by
 rw[Y6.srt_length,apart_iff];unfold Y6.kept;rw[List.length_eq_zero_iff,List.filter_eq_nil_iff];constructor
 ·intro h z hz hc
  exact h z hz (by rw[N0.has_iff.2 hc];rfl)
 ·intro h z hz hc
  have h1:P0.has us z=true:=by simpa using hc
  exact h z hz (N0.has_iff.1 h1)
theorem lOk_has {m:ByteArray} (hs:sound m=true) (d:Ln):KL.lOk m (used m) d=KH.has m (used m) (fin m) d:=by
 obtain ⟨hm,_,_,_⟩:=FI.sound_parts hs;unfold KL.lOk KH.has
 cases hok:N0.loanOk d with
 | false=>rfl
 | true=>
  obtain ⟨hI,hK,hgz,hsv,hio,-,hp6,hp4,hp2,hpp,hfi,-,-⟩:=N0.loanOk_is hok;rw[Bool.true_and,Bool.true_and]
  by_cases hrc:O0.recd m d.ino=d.rc
  ·rw[decide_eq_true hrc,decide_eq_true hrc.symm]
   have hl:O0.isL m d.ino=true:=O0.isL_of hm (by rw[hrc];exact hI) (by
    rw[hrc];rw[G0.gK,if_pos hI] at hK
    exact hK)
   rw[hl,Bool.true_and,Bool.true_and,Bool.true_and]
   have e1:N0.to (KL.pgAt m d) d.pg.length=decide (O0.joined m d.pg d.pg.length=d.sav):=by
    rw[Bool.eq_iff_iff,pages_eq hm d (KH.pagesOk_left hpp) hsv d.pg.length (Nat.le_refl _),decide_eq_true_eq]
    have hx:d.sav.extract 0 (d.pg.length*32)=d.sav:=by
     apply ByteArray.ext
     apply Array.toList_inj.1
     rw[Lib.extract_data,List.drop_zero,Nat.sub_zero,<- hsv,Lib.size_eq,List.take_length]
    rw[hx]
   have e2:N0.to (KL.frAt m d) d.fr.length=N0.apart (fin m) d.fr:=by
    rw[Bool.eq_iff_iff,apart_iff,N0.to_iff];constructor
    ·intro h z hz
     obtain ⟨i,hi,rfl⟩:=N0.mem_getD hz;have h1:=h i hi;unfold KL.frAt at h1;have h2:=hfi _ hz;exact (fresh_eq hs h2.1 h2.2).1 (of_decide_eq_true h1)
    ·intro h i hi
     have hz:=N0.getD_mem hi;have h2:=hfi _ hz;unfold KL.frAt;exact decide_eq_true ((fresh_eq hs h2.1 h2.2).2 (h _ hz))
   have e3:decide ((Y6.srt (Y6.kept true d.po (used m))).length=0)=N0.apart (used m) d.po:=by
    rw[Bool.eq_iff_iff,decide_eq_true_eq];exact kept_iff _ _
   rw[e1,e2,e3]
  ·rw[decide_eq_false hrc,decide_eq_false (fun h=>hrc h.symm),Bool.false_and,Bool.false_and,Bool.and_false]
theorem gath_perm (f h:Ln->List Int) (ds:List Ln):∀ k,(gath f ds k++gath h ds k).Perm (gath (fun d=>f d++h d) ds k)
 | 0=>List.Perm.refl _
 | k+1=>by
  rw[gath,gath,gath];refine List.Perm.trans ?_ ((gath_perm f h ds k).append_right _);rw[List.append_assoc,List.append_assoc];exact (List.perm_append_comm_assoc _ _ _).append_left _
theorem once_perm {xs ys:List Int} (h:xs.Perm ys):once xs=once ys:=by
 rw[Bool.eq_iff_iff,once_iff,once_iff];exact h.nodup_iff
theorem asc_iff (k:Kp):N0.asc (KI.ginos k.ds)=true ↔ ∀ j,j<k.ds.length->(j=0\/(dat k.ds (j-1)).ino<(dat k.ds j).ino):=by
 have hl:=KI.gi_len k.ds k.ds.length;unfold N0.asc KI.ginos;rw[N0.to_iff,hl];constructor
 ·intro h j hj
  have h1:=h j hj;simp only[N0.ascAt,Bool.or_eq_true,decide_eq_true_eq] at h1
  rcases h1 with h1 | h1
  ·exact Or.inl h1
  ·right
   rwa [KI.gi_get _ _ _ (by omega),KI.gi_get _ _ _ hj] at h1
 ·intro h j hj
  simp only[N0.ascAt,Bool.or_eq_true,decide_eq_true_eq]
  rcases h j hj with h1 | h1
  ·exact Or.inl h1
  ·right
   rwa [KI.gi_get _ _ _ (by omega),KI.gi_get _ _ _ hj]
theorem sK_eq (k:Kp):KS.sK k=KI.iK k:=by
 unfold KS.sK KI.iK
 cases hd:D1.ok k.mem k.dur with
 | false=>rfl
 | true=>
  obtain ⟨h1,h2⟩:=D1.ok_true hd
  have hck:B1.inB k.ck 0 999999=(!decide (k.ck<0) && !decide (999999<k.ck)):=by
   rw[Bool.eq_iff_iff,N0.inB_iff,Bool.and_eq_true,Bool.not_eq_true',Bool.not_eq_true',decide_eq_false_iff_not,decide_eq_false_iff_not];omega
  rw[hck]
  cases hs:sound (truth k) with
  | false=>simp
  | true=>
   have e1:once (gath (fun d:Ln=>d.ino :: d.fr) k.ds k.ds.length)=once (KI.ginos k.ds++KI.gfr k.ds):=(once_perm (gath_perm (fun d:Ln=>[d.ino]) (fun d:Ln=>d.fr) k.ds k.ds.length)).symm;have e2:KS.outs k=KI.lasts k:=(KX.rest_eq k.mem k.dur h1 h2 k.ds k.ds.length).symm
   have e3:N0.to (KS.lAt k) k.ds.length=(N0.asc (KI.ginos k.ds) && N0.to (KI.hAt k) k.ds.length):=by
    rw[Bool.eq_iff_iff,Bool.and_eq_true,asc_iff,N0.to_iff,N0.to_iff]
    have hh:∀ j,KS.lAt k j=(KI.hAt k j && (decide (j=0) || decide ((dat k.ds (j-1)).ino<(dat k.ds j).ino))):=fun j=>by
     unfold KS.lAt KI.hAt;rw[lOk_has hs]
    constructor
    ·intro h
     refine ⟨fun j hj=>?_,fun j hj=>?_⟩
     ·have h3:=h j hj
      rw[hh] at h3;simp only[Bool.and_eq_true,Bool.or_eq_true,decide_eq_true_eq] at h3;exact h3.2
     ·have h3:=h j hj
      rw[hh] at h3;simp only[Bool.and_eq_true] at h3;exact h3.1
    ·rintro ⟨h3,h4⟩ j hj
     rw[hh,h4 j hj];simp only[Bool.true_and,Bool.or_eq_true,decide_eq_true_eq];exact h3 j hj
   rw[e1,e2,e3]
   show _=_
   generalize once (KI.ginos k.ds++KI.gfr k.ds)=b1
   generalize KI.lasts k=b2
   generalize N0.asc (KI.ginos k.ds)=b3
   generalize N0.to (KI.hAt k) k.ds.length=b4
   generalize once (KI.gpo k.ds)=b5
   generalize decide (k.ck<0)=b6
   generalize decide (999999<k.ck)=b7
   cases b1 <;> cases b2 <;> cases b3 <;> cases b4 <;> cases b5 <;> cases b6 <;> cases b7 <;> rfl
end KY
namespace TP
open Go
open N0 (Ln)
open Z0 (dat Kp dat_get)
open Z4 (truth)
open KO (gath)
open KQ (layN)
open WI (rl)
open N13 (undo)
open Y8 (gone)
open Y1 (come)
open Y6 (kept srt)
open TW (sound tK tE)
open KV (fin)
def w1 (p:ByteArray × ByteArray) (i:Int):ByteArray × ByteArray:=(D2.stored p.1 p.2 (L1.recAt i) (B4.zeros 16),F3.flushed (D2.stored p.1 p.2 (L1.recAt i) (B4.zeros 16)) p.2 (L1.recAt i) 16)
def wN (zs:List Int) (p:ByteArray × ByteArray):Nat->ByteArray × ByteArray
 | 0=>p
 | n+1=>w1 (wN zs p n) (zs.getD n 0)
def wF (zs al:List Int) (p:ByteArray × ByteArray):Nat->ByteArray × ByteArray
 | 0=>p
 | n+1=>if P0.has al (zs.getD n 0)=true then wF zs al p n else w1 (wF zs al p n) (zs.getD n 0)
theorem laid_size (s:ByteArray) (i:Int) (t:ByteArray):(B5.laid s i t).size=s.size:=by
 unfold B5.laid
 split
 ·rename_i h
  obtain ⟨h0,h1,h2⟩:=B2.lies_true h;rw[ByteArray.size_append,ByteArray.size_append,ByteArray.size_extract,ByteArray.size_extract];omega
 ·rfl
theorem stored_size (a b:ByteArray) (i:Int) (t:ByteArray):(D2.stored a b i t).size=a.size:=by
 unfold D2.stored
 split
 ·exact laid_size _ _ _
 ·rfl
theorem flushed_size (a b:ByteArray) (i n:Int) (hb:b.size=768):(F3.flushed a b i n).size=768:=by
 unfold F3.flushed
 split
 ·show (X0.mix _ _ _).toArray.size=768
  rw[List.size_toArray,X0.mix_len]
 ·exact hb
def Ok (p:ByteArray × ByteArray):Prop:=p.1.size=768/\p.2.size=768
theorem w1_ok {p:ByteArray × ByteArray} (h:Ok p) (i:Int):Ok (w1 p i):=⟨(stored_size _ _ _ _).trans h.1,flushed_size _ _ _ _ h.2⟩
theorem wN_ok {p:ByteArray × ByteArray} (h:Ok p) (zs:List Int):∀ n,Ok (wN zs p n)
 | 0=>h
 | n+1=>w1_ok (wN_ok h zs n) _
theorem wF_ok {p:ByteArray × ByteArray} (h:Ok p) (zs al:List Int):∀ n,Ok (wF zs al p n)
 | 0=>h
 | n+1=>by
  rw[wF]
  split
  ·exact wF_ok h zs al n
  ·exact w1_ok (wF_ok h zs al n) _
theorem wN_congr {p:ByteArray × ByteArray} {xs ys:List Int}:∀ n,(∀ i,i<n->xs.getD i 0=ys.getD i 0)->wN xs p n=wN ys p n
 | 0,_=>rfl
 | n+1,h=>by rw[wN,wN,wN_congr n (fun i hi=>h i (by omega)),h n (by omega)]
theorem wN_app (xs ys:List Int) (p:ByteArray × ByteArray):∀ n,wN (xs++ys) p (xs.length+n)=wN ys (wN xs p xs.length) n
 | 0=>by
  rw[Nat.add_zero,wN]
  exact wN_congr _ fun i hi=>by rw[List.getD_eq_getElem?_getD,List.getD_eq_getElem?_getD,List.getElem?_append_left hi]
 | n+1=>by
  rw[<- Nat.add_assoc,wN,wN_app xs ys p n,wN]
  congr 1
  rw[List.getD_eq_getElem?_getD,List.getD_eq_getElem?_getD,List.getElem?_append_right (by omega),Nat.add_sub_cancel_left]
theorem wF_eq (zs al:List Int) (p:ByteArray × ByteArray):∀ n,n<=zs.length->wF zs al p n=wN (kept false (zs.take n) al) p (kept false (zs.take n) al).length
 | 0,_=>by simp[wF,kept,wN]
 | n+1,hn=>by
  rw[wF,wF_eq zs al p n (by omega)]
  cases h:P0.has al (zs.getD n 0) with
  | true=>rw[if_pos rfl,Y8.kept_no (by omega) h]
  | false=>
   rw[if_neg (by decide),Y8.kept_yes (by omega) h,List.length_append,show [zs.getD n 0].length=0+1 from rfl,wN_app,wN,wN]
   rfl
theorem wF_all (zs fs al:List Int) (p:ByteArray × ByteArray):wF fs al (wN zs p zs.length) fs.length=wN (zs++kept false fs al) p (zs++kept false fs al).length:=by
 rw[wF_eq _ _ _ _ (Nat.le_refl _),List.take_length,List.length_append,wN_app]
theorem kept_srt {b:Bool} {zs al:List Int} (h:N0.asc zs=true):srt (kept b zs al)=kept b zs al:=by
 refine Y6.sorted_one (Y6.srt_perm _) (Y6.srt_sorted _) ?_;have h1:=N0.asc_iff.1 h;exact ((h1.sublist (List.filter_sublist)).imp fun h=>Int.le_of_lt h)
def okI (k:Kp) (x:Int):Bool:=!(P0.has (gath (fun d:Ln=>[d.ino]) k.ds k.ds.length) x || (decide (O0.lK (truth k) x=2) && !decide (O0.lS (truth k) x=0)))
def okS (k:Kp) (x:Int):Bool:=!(P0.has (gath (fun d:Ln=>d.ino :: d.fr) k.ds k.ds.length) x || (decide (O0.lK (truth k) x=2) && decide (0<O0.lS (truth k) x)))
def mayI (k:Kp) (d:Ln):Bool:=D6.verdict k.mem d && N0.to (fun j=>okI k ((gone k.mem d).getD j 0)) (gone k.mem d).length
def mayS (k:Kp) (d:Ln):Bool:=D6.verdict k.mem d && N0.to (fun j=>okS k ((gone k.mem d).getD j 0)) (gone k.mem d).length
theorem mem_gath {f:Ln->List Int} {ds:List Ln} {z:Int}:∀ {n:Nat},z ∈ gath f ds n ↔ ∃ i,i<n/\z ∈ f (dat ds i)
 | 0=>by simp[gath]
 | n+1=>by
  rw[gath,List.mem_append,mem_gath];constructor
  ·rintro (⟨i,h1,h2⟩ | h)
   ·exact ⟨i,by omega,h2⟩
   ·exact ⟨n,by omega,h⟩
  ·rintro ⟨i,h1,h2⟩
   by_cases h:i=n
   ·subst h;exact Or.inr h2
   ·exact Or.inl ⟨i,by omega,h2⟩
theorem lS_ge (m:ByteArray) (i:Int):0<=O0.lS m i:=by
 unfold O0.lS
 split
 ·rename_i h
  have h':=h;simp only[O0.isL,Bool.and_eq_true] at h';exact (O0.got h'.2.1).1.1
 ·exact Int.le_refl _
theorem ok_eq {k:Kp} {x:Int} (h:∀ i,i<k.ds.length->¬ x ∈ (dat k.ds i).fr):okI k x=okS k x:=by
 have e1:P0.has (gath (fun d:Ln=>[d.ino]) k.ds k.ds.length) x=P0.has (gath (fun d:Ln=>d.ino :: d.fr) k.ds k.ds.length) x:=by
  rw[Bool.eq_iff_iff,N0.has_iff,N0.has_iff,mem_gath,mem_gath];constructor
  ·rintro ⟨i,h1,h2⟩
   exact ⟨i,h1,by simp at h2;simp[h2]⟩
  ·rintro ⟨i,h1,h2⟩
   rcases List.mem_cons.1 h2 with h2 | h2
   ·exact ⟨i,h1,by simp[h2]⟩
   ·exact absurd h2 (h i h1)
 have e2:(!decide (O0.lS (truth k) x=0))=decide (0<O0.lS (truth k) x):=by
  have:=lS_ge (truth k) x;rw[Bool.eq_iff_iff,Bool.not_eq_true',decide_eq_false_iff_not,decide_eq_true_eq];omega
 unfold okI okS;rw[e1,e2]
theorem may_eq {k:Kp} {d:Ln} (h:∀ x ∈ gone k.mem d,∀ i,i<k.ds.length->¬ x ∈ (dat k.ds i).fr):mayS k d=mayI k d:=by
 unfold mayS mayI
 congr 1
 rw[Bool.eq_iff_iff,N0.to_iff,N0.to_iff];constructor
 ·intro h1 i hi
  rw[ok_eq (h _ (N0.getD_mem hi))];exact h1 i hi
 ·intro h1 i hi
  rw[<- ok_eq (h _ (N0.getD_mem hi))];exact h1 i hi
def backed (k:Kp) (d:Ln) (t:Bool):ByteArray × ByteArray:=
  if t=true then
    ((wN (gone k.mem d++kept false d.fr (come k.mem d)) (k.mem,k.dur) (gone k.mem d++kept false d.fr (come k.mem d)).length).1,
     layN (wN (gone k.mem d++kept false d.fr (come k.mem d)) (k.mem,k.dur) (gone k.mem d++kept false d.fr (come k.mem d)).length).1 (wN (gone k.mem d++kept false d.fr (come k.mem d)) (k.mem,k.dur) (gone k.mem d++kept false d.fr (come k.mem d)).length).2 (rl d) (rl d).length)
  else (undo k.mem d,layN (undo k.mem d) k.dur (rl d) (rl d).length)
def back (k:Kp) (p:Nat):Kp:=⟨(backed k (dat k.ds p) (mayI k (dat k.ds p))).1,(backed k (dat k.ds p) (mayI k (dat k.ds p))).2,k.ds.eraseIdx p,k.ck⟩
def code (k:Kp) (p:Nat):Int:=if mayI k (dat k.ds p)=true then 0 else 5
def cnt (ck:Int) (ds:List Ln):Nat->Nat
 | 0=>0
 | j+1=>if (dat ds j).un<=ck then cnt ck ds j else cnt ck ds j+1
def run (k:Kp):Nat->Kp × List Int
 | 0=>(k,[])
 | j+1=>if (dat k.ds j).un<=k.ck then (back (run k j).1 (cnt k.ck k.ds j),(run k j).2 ++ [code (run k j).1 (cnt k.ck k.ds j)]) else run k j
theorem dat_erase (ds:List Ln) (p i:Nat):dat (ds.eraseIdx p) i=if i<p then dat ds i else dat ds (i+1):=by
 unfold dat;rw[List.getD_eq_getElem?_getD,List.getElem?_eraseIdx]
 split <;> rw[List.getD_eq_getElem?_getD]
theorem undo_ok {m:ByteArray} (h:m.size=768) (d:Ln):(undo m d).size=768:=(Z4.undo_size m d).trans h
theorem backed_ok {k:Kp} (h:Ok (k.mem,k.dur)) (d:Ln) (t:Bool):Ok (backed k d t):=by
 unfold backed
 split
 ·have h1:=wN_ok h (gone k.mem d++kept false d.fr (come k.mem d)) (gone k.mem d++kept false d.fr (come k.mem d)).length
  exact ⟨h1.1,KQ.layN_size _ _ _ h1.2 _⟩
 ·exact ⟨undo_ok h.1 d,KQ.layN_size _ _ _ h.2 _⟩
structure Rn (k:Kp) (j:Nat):Prop where
 ok:Ok ((run k j).1.mem,(run k j).1.dur)
 ck:(run k j).1.ck=k.ck
 le:cnt k.ck k.ds j<=j
 len:(run k j).1.ds.length=cnt k.ck k.ds j+(k.ds.length-j)
 rest:∀ i,i<k.ds.length-j->dat (run k j).1.ds (cnt k.ck k.ds j+i)=dat k.ds (j+i)
 done:∀ i,i<cnt k.ck k.ds j->∃ i',i'<j/\dat (run k j).1.ds i=dat k.ds i'
 sub:(run k j).1.ds.Sublist k.ds
 cod:(run k j).2.length<=j
theorem rn (k:Kp) (h:Ok (k.mem,k.dur)):∀ j,j<=k.ds.length->Rn k j
 | 0,_=>⟨h,rfl,Nat.le_refl _,by simp[run,cnt],fun i hi=>by simp[run,cnt],fun i hi=>absurd hi (Nat.not_lt_zero _),List.Sublist.refl _,by simp[run]⟩
 | j+1,hj=>by
  have ih:=rn k h j (by omega)
  by_cases hu:(dat k.ds j).un<=k.ck
  ·have e1:run k (j+1)=(back (run k j).1 (cnt k.ck k.ds j),(run k j).2 ++ [code (run k j).1 (cnt k.ck k.ds j)]):=by rw[run,if_pos hu]
   have e2:cnt k.ck k.ds (j+1)=cnt k.ck k.ds j:=by rw[cnt,if_pos hu]
   have hl:=ih.len;refine ⟨?_,?_,?_,?_,?_,?_,?_,?_⟩
   ·rw[e1];exact backed_ok ih.ok _ _
   ·rw[e1];exact ih.ck
   ·rw[e2];have:=ih.le;omega
   ·rw[e1,e2]
    show ((run k j).1.ds.eraseIdx _).length=_
    rw[List.length_eraseIdx,if_pos (by omega)];omega
   ·intro i hi
    rw[e1,e2]
    show dat ((run k j).1.ds.eraseIdx _) _=_
    rw[dat_erase,if_neg (by omega),Nat.add_assoc,ih.rest (i+1) (by omega),show j+(i+1)=j+1+i by omega]
   ·intro i hi
    rw[e2] at hi;obtain ⟨i',h1,h2⟩:=ih.done i hi;refine ⟨i',by omega,?_⟩;rw[e1]
    show dat ((run k j).1.ds.eraseIdx _) _=_
    rw[dat_erase,if_pos hi,h2]
   ·rw[e1]
    exact (List.eraseIdx_sublist _ _).trans ih.sub
   ·rw[e1]
    have:=ih.cod;simp;omega
  ·have e1:run k (j+1)=run k j:=by rw[run,if_neg hu]
   have e2:cnt k.ck k.ds (j+1)=cnt k.ck k.ds j+1:=by rw[cnt,if_neg hu]
   have hl:=ih.len;refine ⟨?_,?_,?_,?_,?_,?_,?_,?_⟩
   ·rw[e1];exact ih.ok
   ·rw[e1];exact ih.ck
   ·rw[e2];have:=ih.le;omega
   ·rw[e1,e2,hl];omega
   ·intro i hi
    rw[e1,e2,show cnt k.ck k.ds j+1+i=cnt k.ck k.ds j+(i+1) by omega,ih.rest (i+1) (by omega),show j+(i+1)=j+1+i by omega]
   ·intro i hi
    rw[e2] at hi
    by_cases hc:i<cnt k.ck k.ds j
    ·obtain ⟨i',h1,h2⟩:=ih.done i hc
     exact ⟨i',by omega,by rw[e1];exact h2⟩
    ·obtain rfl:i=cnt k.ck k.ds j:=by omega
     exact ⟨j,by omega,by rw[e1];exact ih.rest 0 (by omega)⟩
   ·rw[e1];exact ih.sub
   ·rw[e1];have:=ih.cod;omega
structure Rt (k:Kp):Prop where
 ok:Ok (k.mem,k.dur)
 asc:∀ i j,i<j->j<k.ds.length->(dat k.ds i).ino<(dat k.ds j).ino
 lok:∀ i,i<k.ds.length->N0.loanOk (dat k.ds i)=true
 gf:∀ i j m x,i<k.ds.length->j<k.ds.length->x ∈ gone m (dat k.ds i)->¬ x ∈ (dat k.ds j).fr
theorem gone_old {m:ByteArray} {d:Ln} {x:Int} (h:x ∈ gone m d):∃ nm,(x,nm) ∈ N5.oldE d:=by
 unfold gone at h
 split at h
 ·have h1:=(Y6.srt_perm _).mem_iff.1 h
  have h2:=(List.mem_filter.1 h1).1;unfold D0.inos at h2;obtain ⟨e,he,rfl⟩:=List.mem_map.1 h2;exact ⟨e.2,he⟩
 ·cases h
theorem old_node {t:ByteArray} {d:Ln} (hok:N0.loanOk d=true) (hr:O0.recd t d.ino=d.rc) (hj:O0.joined t d.pg d.pg.length=d.sav):N5.oldE d=D1.nodeE t d.ino:=by
 obtain ⟨hI,_,hZ,hsv,_⟩:=N0.loanOk_is hok;obtain ⟨⟨g1,g2⟩,_,g3,_⟩:=O0.got hI;unfold N5.oldE D1.nodeE D1.data;rw[hr,hZ,hj];rw[hZ] at g3
 have:B2.part d.sav 0 (G0.gS d.rc)=d.sav.extract 0 (G0.gS d.rc).toNat:=by
  rw[B2.part,show B2.lies d.sav.size 0 (G0.gS d.rc)=true from decide_eq_true (by omega),if_pos rfl,Int.zero_add]
  rfl
 rw[this]
theorem live {t:ByteArray} (hs:sound t=true) {i:Nat} (hi:i<8) {x:Int} {nm:ByteArray} (h:(x,nm) ∈ tE t i):x ∈ fin t:=by
 obtain ⟨hm,hn,_,htr⟩:=FI.sound_parts hs;obtain ⟨h0,h8⟩:=(TW.sane_ok t).ino i _ h;simp only at h0 h8;obtain ⟨y,rfl⟩:∃ y:Nat,x=(y:Int):=⟨x.toNat,by omega⟩;have h1:=TR.treeOk_iff.1 htr y (by omega) (by omega);unfold fin FI.files;rw[if_pos hs,KY.mem_to];refine ⟨y,by omega,rfl,fun hk=>?_⟩;unfold TR.oneOk at h1;rw[Bool.and_eq_true] at h1;have h2:=h1.1;rw[hk] at h2
 have hp:TR.par (TR.flat (tE t) 8) (y:Int) = -1:=by simpa using h2
 have ho:=(TR.par_nil _ _).1 hp;have hmem:((i,((y:Int),nm)):Nat × T0.Ent) ∈ TR.own (TR.flat (tE t) 8) (y:Int):=List.mem_filter.2 ⟨TR.flat_mem.2 ⟨hi,h⟩,by simp⟩;rw[ho] at hmem;cases hmem
theorem rt_of {k:Kp} (h:KI.iK k=true):Rt k:=by
 have h':=h;unfold KI.iK at h';simp only[Bool.and_eq_true] at h';obtain ⟨h1,-,-,h2,h3,h4,-,-,-⟩:=h';have hasc:=(KY.asc_iff k).1 h2;have hh:=N0.to_iff.1 h4;refine ⟨D1.ok_true h1,?_,?_,?_⟩
 ·intro i j hij hj
  obtain ⟨n,rfl⟩:∃ n,j=i+1+n:=⟨j-(i+1),by omega⟩;clear hij
  induction n with
  | zero=>
   have:=hasc (i+1) (by omega)
   simpa using this
  | succ n ih=>
   have h5:=ih (by omega);have:=hasc (i+1+(n+1)) (by omega)
   rcases this with h6 | h6
   ·omega
   ·rw[show i+1+(n+1)-1=i+1+n by omega] at h6
    omega
 ·intro i hi
  have:=hh i hi;unfold KI.hAt KH.has at this;simp only[Bool.and_eq_true] at this;exact this.1
 ·intro i j m x hi hj hx hf
  have q1:=hh i hi;have q2:=hh j hj;unfold KI.hAt KH.has at q1 q2;simp only[Bool.and_eq_true,decide_eq_true_eq] at q1 q2;obtain ⟨a1,a2,a3,-⟩:=q1;obtain ⟨-,-,-,b4,-⟩:=q2;obtain ⟨nm,hnm⟩:=gone_old hx;rw[old_node a1 a2 a3] at hnm;obtain ⟨-,-,-,-,⟨c1,c2⟩,-⟩:=N0.loanOk_is a1;obtain ⟨y,hy⟩:∃ y:Nat,(dat k.ds i).ino=(y:Int):=⟨(dat k.ds i).ino.toNat,by omega⟩;rw[hy] at hnm;have:=live h3 (i:=y) (by omega) hnm;exact (KY.apart_iff _ _).1 b4 x hf this
def on (k:Kp):Kp:=⟨k.mem,k.dur,k.ds,if k.ck<999999 then k.ck+1 else k.ck⟩
theorem rt_on {k:Kp} (h:Rt k):Rt (on k):=⟨h.ok,h.asc,h.lok,h.gf⟩
def tick (k:Kp):Kp × List Int:=if KI.iK k=true then run (on k) k.ds.length else (k,[])
theorem place {k:Kp} (h:Rt k) {j:Nat} (hj:j<k.ds.length) {x:Int} (hx:LK.At (dat k.ds j).cl (dat k.ds j).ino (run k j).1.ds x):x=(cnt k.ck k.ds j:Int):=by
 have r:=rn k h.ok j (by omega);have hl:=r.len
 have hself:dat (run k j).1.ds (cnt k.ck k.ds j)=dat k.ds j:=by simpa using r.rest 0 (by omega)
 have his:LK.isOf (dat k.ds j).cl (dat k.ds j).ino (dat (run k j).1.ds (cnt k.ck k.ds j))=true:=by rw[hself];simp[LK.isOf]
 rcases hx with ⟨_,h1⟩ | ⟨y,h1,rfl,h2,h3⟩
 ·have:=h1 (cnt k.ck k.ds j) (by omega)
  rw[his] at this;cases this
 ·congr 1
  rcases Nat.lt_trichotomy y (cnt k.ck k.ds j) with hlt | heq | hgt
  ·obtain ⟨i',q1,q2⟩:=r.done y hlt
   rw[q2] at h2;have:=h.asc i' j q1 hj;simp only[LK.isOf,Bool.and_eq_true,decide_eq_true_eq] at h2;omega
  ·exact heq
  ·have:=h3 _ hgt
   rw[his] at this;cases this
theorem of_first {k:Kp} (h:Ok (k.mem,k.dur)) {j i:Nat} (hj:j<=k.ds.length) (hi:i<(run k j).1.ds.length):∃ i',i'<k.ds.length/\dat (run k j).1.ds i=dat k.ds i':=by
 have r:=rn k h j hj;have hl:=r.len
 by_cases hc:i<cnt k.ck k.ds j
 ·obtain ⟨i',h1,h2⟩:=r.done i hc
  exact ⟨i',by omega,h2⟩
 ·refine ⟨j+(i-cnt k.ck k.ds j),by omega,?_⟩
  have:=r.rest (i-cnt k.ck k.ds j) (by omega)
  rwa [show cnt k.ck k.ds j+(i-cnt k.ck k.ds j)=i by omega] at this
theorem may_run {k:Kp} (h:Rt k) {j p:Nat} (hj:j<=k.ds.length) (hp:p<(run k j).1.ds.length):mayS (run k j).1 (dat (run k j).1.ds p)=mayI (run k j).1 (dat (run k j).1.ds p):=by
 refine may_eq fun x hx i hi=>?_
 obtain ⟨i',h1,h2⟩:=of_first h.ok hj hp;obtain ⟨i'',h3,h4⟩:=of_first h.ok hj hi;rw[h2] at hx;rw[h4];exact h.gf i' i'' _ x h1 h3 hx
theorem tot_sum (ds:List Ln):∀ n,n<=ds.length->Z1.tot ds n=((ds.take n).map N3.total).sum
 | 0,_=>by simp[Z1.tot]
 | n+1,hn=>by
  rw[Z1.tot,tot_sum ds n (by omega),List.take_succ_eq_append_getElem (by omega),List.map_append,List.sum_append,dat_get _ _ (by omega)];simp
theorem sum_sub:∀ {xs ys:List Ln},xs.Sublist ys->(xs.map N3.total).sum<=(ys.map N3.total).sum
 | _,_,.slnil=>Nat.le_refl _
 | _,_,.cons a h=>by
  have:=sum_sub h;simp;omega
 | _,_,.cons_cons a h=>by
  have:=sum_sub h;simp;omega
theorem tot_sub {xs ys:List Ln} (h:xs.Sublist ys):xs.length+Z1.tot xs xs.length<=ys.length+Z1.tot ys ys.length:=by
 have h1:=sum_sub h;have h2:=h.length_le;rw[tot_sum xs xs.length (Nat.le_refl _),tot_sum ys ys.length (Nat.le_refl _),List.take_length,List.take_length];omega
theorem sz_run {k:Kp} (h:Rt k) (hz:k.ds.length+Z1.tot k.ds k.ds.length<=1048576) {j:Nat} (hj:j<=k.ds.length):(run k j).1.ds.length+Z1.tot (run k j).1.ds (run k j).1.ds.length<=1048576:=Nat.le_trans (tot_sub (rn k h.ok j hj).sub) hz
end TP
namespace TQ
open ChangeShapes WideShapes ChangeAt RowKit
open N0 (Ln)
open N1 (Sl Lists Fit)
open Z0 (dat Kp Lns kval)
open Z4 (truth Fits)
open KO (gath)
open Y8 (gone)
open TP (okI mayI)
open P1 (ret_bool)
abbrev wk (k:Kp) (a:Option Addr) (c:Nat):List Value:=[.int .i32 1,.int .u32 0,.string k.mem,.string k.dur,.slice a k.ds.length c,.int .i64 k.ck]
theorem wk2 {k:Kp} {a:Option Addr} {c P:Nat} {W:World} (h:K0.Blk P (wk k a c) W):Ce W P 2 (.string k.mem)/\Ce W P 3 (.string k.dur)/\Ce W P 4 (.slice a k.ds.length c)/\Ce W P 5 (Iv k.ck):=⟨h.cell 2 (by simp),h.cell 3 (by simp),h.cell 4 (by simp),h.cell 5 (by simp)⟩
theorem isLent (k:Kp) (P:Nat) (a:Option Addr) (c:Nat) (ss:Nat->Sl) (x:Int) (w:World) (hn:k.ds.length<=1048576) (ht:k.ds.length+Z1.tot k.ds k.ds.length<=1048576) (hR:Lns w a k.ds ss) (hP:K0.Blk P (wk k a c) w) :
  Calls prog 120 #[Pv P 0,Iv x] w (Rb (.bool (P0.has (gath (fun d:Ln=>[d.ino]) k.ds k.ds.length) x)) w):=by
 have hz:=(wk2 hP).2.2.1;have hli:=KO.lentInos a c k.ds ss w hn ht hR
 have hgl:(gath (fun d:Ln=>[d.ino]) k.ds k.ds.length).length<=1048576:=by rw[KI.gi_len];exact hn
 unfold KO.Out at hli
 generalize gath (fun d:Ln=>[d.ino]) k.ds k.ds.length=Z at hli hgl ⊢
 have HC:Hid (∀ W a' c',J0.Own w.heap.size W a' Z->_):=fun W a' c' h=>N2.containsRow a' c' Z x W (by omega) h.row
 clear hR hP;go_enter func120,ntmps120
 go_wp2_with (first
  | (go_at_call 98;refine hli.mono ?_;rintro e w1 ⟨a1,c1,rfl,o1,hc1,b1⟩)
  | (go_at_call 130;refine (HC.out _ _ _ o1).mono ?_;rintro e w2 ⟨rfl,hw2⟩;subst w2))
 go_ret;exact ⟨rfl,b1⟩
theorem mayTake (k:Kp) (P:Nat) (a:Option Addr) (c:Nat) (ss:Nat->Sl) (d:Ln) (s:Sl) (w:World) (hm:k.mem.size=768) (hn:k.ds.length<=1048576) (ht:k.ds.length+Z1.tot k.ds k.ds.length<=1048576) (hF:Fits k.ds ss) (hR:Lns w a k.ds ss) (hP:K0.Blk P (wk k a c) w) (hFd:Fit d s) (hpo:d.po.length<=1048576) (hfr:d.fr.length<=1048576) (hL:Lists w d s) (hts:(truth k).size=768) (hgs:(gone k.mem d).length<=1048576) :
  Calls prog 87 #[Pv P 0,N1.val d s] w (Rb (.bool (mayI k d)) w):=by
 have n0:=K0.below_new w (LH.lob d s);have lb:=N1.lb_new d s w 46
 have HB:Hid (∀ W,Bq w W->(Ce W P 2 (.string k.mem)/\Ce W P 3 (.string k.dur)/\Ce W P 4 (.slice a k.ds.length c)/\Ce W P 5 (Iv k.ck))):=fun W hb=>wk2 (hP.below hb)
 have HT:Hid (∀ W,Bq w W->_):=fun W hb=>Z4.impl_Truth k a c ss W (by omega) hn hF (hR.below hb)
 have HV:Hid (∀ W,Bq w W->_):=fun W hb=>E7.impl_Verdict k.mem d s W (by omega) hFd hpo hfr (hL.below hb)
 have HG:Hid (∀ W,Bq w W->_):=fun W hb=>Y8.impl_Gone k.mem d s W (by omega) hFd hpo hfr (hL.below hb)
 have HLo:Hid (∀ x W,_):=fun x W=>O3.impl_Load (truth k) x W (by omega)
 have HI:Hid (∀ x W,Bq w W->_):=fun x W hb=>isLent k P a c ss x W hn ht (hR.below hb) (hP.below hb)
 have HO:Hid (∀ x,okI k x=!(P0.has (gath (fun d:Ln=>[d.ino]) k.ds k.ds.length) x || (decide (O0.lK (truth k) x=2) && !decide (O0.lS (truth k) x=0)))):=fun x=>rfl
 have HM:Hid (mayI k d=(D6.verdict k.mem d && N0.to (fun j=>okI k ((gone k.mem d).getD j 0)) (gone k.mem d).length)):=rfl
 generalize mayI k d=M at HM ⊢
 generalize okI k=ok at HO HM
 generalize gath (fun d:Ln=>[d.ino]) k.ds k.ds.length=I at HI HO
 generalize truth k=T at HT HLo HO
 generalize gone k.mem d=Z at HG HM hgs
 have dr:Bq w (w.alloc (LH.lob d s)).drew:=n0.drew;have lbd:N1.LB w.heap.size d s (w.alloc (LH.lob d s)).drew:=lb.below ((Below.refl _ _).drew);have s0:=HB.out _ dr;clear hR hP hL hF hFd
 cases hv:D6.verdict k.mem d with
 | false=>
  rw[hv] at HV HM
  have HM':Hid (M=false):=by rw[HM.out];rfl
  clear hv HM HG HLo HI HO lb;go_enter func87,ntmps87;go_wp2
  go_region_held3 (fun W=>Ce W P 2 (.string k.mem)/\Ce W P 3 (.string k.dur)/\Ce W P 4 (.slice a k.ds.length c)/\Ce W P 5 (Iv k.ck)) (assumption) ((go_at_call 116;refine (HT.out _ dr).mono ?_;rintro e w1 ⟨rfl,b1⟩;have l1:=dr.trans (b1.mono dr.size);have s1:=HB.out _ l1;have lb1:=lbd.below b1;have y0:=lb1.c0;have y1:=lb1.c1;have y2:=lb1.c2;have y3:=lb1.c3;have y4:=lb1.c4;have y5:=lb1.c5;have y6:=lb1.c6;have y7:=lb1.c7))
  go_wp2_with (go_at_call 117;refine (HV.out _ l1).mono ?_;rintro e w2 ⟨rfl,b2⟩)
  go_ret;exact ⟨ret_bool HM'.out.symm,l1.trans (b2.mono l1.size)⟩
 | true=>
  rw[hv] at HV HM
  have HM':Hid (M=N0.to (fun j=>ok (Z.getD j 0)) Z.length):=by rw[HM.out];rfl
  clear hv HM lb;go_enter func87,ntmps87;go_wp2
  go_region_held3 (fun W=>Ce W P 2 (.string k.mem)/\Ce W P 3 (.string k.dur)/\Ce W P 4 (.slice a k.ds.length c)/\Ce W P 5 (Iv k.ck)) (assumption) ((go_at_call 116;refine (HT.out _ dr).mono ?_;rintro e w1 ⟨rfl,b1⟩;have l1:=dr.trans (b1.mono dr.size);have s1:=HB.out _ l1;have lb1:=lbd.below b1;have y0:=lb1.c0;have y1:=lb1.c1;have y2:=lb1.c2;have y3:=lb1.c3;have y4:=lb1.c4;have y5:=lb1.c5;have y6:=lb1.c6;have y7:=lb1.c7))
  go_wp2_with (first
   | (go_at_call 117;refine (HV.out _ l1).mono ?_;rintro e w2 ⟨rfl,b2⟩;have l2:=l1.trans (b2.mono l1.size);have lb2:=lb1.below b2;clear y0 y1 y2 y3 y4 y5 y6 y7;have y0:=lb2.c0;have y1:=lb2.c1;have y2:=lb2.c2;have y3:=lb2.c3;have y4:=lb2.c4;have y5:=lb2.c5;have y6:=lb2.c6;have y7:=lb2.c7)
   | (go_at_call 118;refine (HG.out _ l2).mono ?_;rintro e w3 ⟨a3,c3,rfl,hc3,o3,b3⟩;have l3:=l2.trans (b3.mono l2.size);clear y0 y1 y2 y3 y4 y5 y6 y7))
  go_loopw [31] (fun i w'=>∃ j:Nat,j<=Z.length/\i=Iv j/\N0.to (fun j=>ok (Z.getD j 0)) j=true/\J0.Own w2.heap.size w' a3 Z/\Bq w w') (fun i _=>Z.length-(intOf i).toNat)
  case atStart=>exact ⟨0,Nat.zero_le _,rfl,rfl,o3,l3⟩
  case round=>
   obtain ⟨j,hj,rfl,hok,ow,hbel⟩:=hrel;clear s0 s1 lbd lb1 lb2 l1 l2 l3 o3 HT HV HG HB
   by_cases hlt:j<Z.length
   ·obtain ⟨b,off,hab,_,hc⟩:=ow.row.get hlt
    have x1:=hc j hlt
    have hsx:N0.to (fun j=>ok (Z.getD j 0)) (j+1)=ok (Z.getD j 0):=by rw[N0.to_succ,hok];rfl
    have hbd:ok (Z.getD j 0)=false->N0.to (fun j=>ok (Z.getD j 0)) Z.length=false:=fun h=>N0.to_bad hlt h
    obtain ⟨z,ez⟩:∃ z,Z.getD j 0=z:=⟨_,rfl⟩;rw[ez] at x1 hsx hbd;have HSX:Hid (N0.to (fun j=>ok (Z.getD j 0)) (j+1)=ok z):=hsx;have HBD:Hid (ok z=false->N0.to (fun j=>ok (Z.getD j 0)) Z.length=false):=hbd;have HOZ:Hid (ok z=!(P0.has I z || (decide (O0.lK T z=2) && !decide (O0.lS T z=0)))):=HO.out z;have hld:=HLo.out z wr
    have HIz:Hid (∀ W,Bq w W->_):=fun W hb=>HI.out z W hb
    unfold O2.Ans at hld
    generalize O0.lK T z=K at hld HOZ
    generalize O0.lS T z=S at hld HOZ
    generalize O0.lO T z=O at hld
    generalize O0.lZ T z=Y at hld
    generalize O0.lD T z=X at hld
    generalize O0.isL T z=B at hld
    have e1:(0:Int)<=(j:Int):=by omega
    have e2:(j:Int)<(Z.length:Int):=by omega
    rw[hab]
    cases hh:P0.has I z with
    | true=>
     rw[hh] at HOZ HIz
     have HR:Hid (M=false):=by rw[HM'.out];exact HBD.out (by rw[HOZ.out];rfl)
     clear hsx hbd hc ez hh HO HI HLo hok
     go_wp2_with (first
      | (go_at_call 119;refine hld.mono ?_;rintro e w4 ⟨a4,c4,rfl,o4,hc4,b4⟩;have l4:=hbel.trans (b4.mono hbel.size);have nb:=K0.below_new w4 (.cells (Iq K O S a4 Y.length c4) 96);have l5:=l4.trans (nb.mono l4.size);have ib:=K0.blk_new [Iv K,Iv O,Iv S,.slice a4 Y.length c4] w4 96)
      | (go_at_call 120;refine (HIz.out _ l5).mono ?_;rintro e w6 ⟨rfl,b6⟩;have l6:=l5.trans (b6.mono l5.size);have ib6:=ib.below b6;have i0:=ib6.c0;have i2:=ib6.c2))
     go_ret;exact ⟨ret_bool HR.out.symm,l6⟩
    | false=>
     rw[hh] at HOZ HIz
     by_cases hK:K=2
     ·subst hK
      by_cases hS:S=0
      ·subst hS
       have HR:Hid (N0.to (fun j=>ok (Z.getD j 0)) (j+1)=true):=by rw[HSX.out,HOZ.out];rfl
       clear hsx hbd hc ez hh HO HI HLo hok
       go_wp2_with (first
        | (go_at_call 119;refine hld.mono ?_;rintro e w4 ⟨a4,c4,rfl,o4,hc4,b4⟩;have l4:=hbel.trans (b4.mono hbel.size);have nb:=K0.below_new w4 (.cells (Iq 2 O 0 a4 Y.length c4) 96);have l5:=l4.trans (nb.mono l4.size);have ib:=K0.blk_new [Iv 2,Iv O,Iv 0,.slice a4 Y.length c4] w4 96;have ow5:=(ow.below b4).below nb)
        | (go_at_call 120;refine (HIz.out _ l5).mono ?_;rintro e w6 ⟨rfl,b6⟩;have l6:=l5.trans (b6.mono l5.size);have ib6:=ib.below b6;have i0:=ib6.c0;have i2:=ib6.c2;have ow6:=ow5.below b6))
       go_roundw
       case rel=>exact ⟨j+1,by omega,by go_num,HR.out,by rw[<- hab];exact ow6,l6⟩
       case measure=>simp[intOf];omega
      ·have HR:Hid (M=false):=by rw[HM'.out];exact HBD.out (by rw[HOZ.out,decide_eq_false hS];rfl)
       clear hsx hbd hc ez hh HO HI HLo hok
       go_wp2_with (first
        | (go_at_call 119;refine hld.mono ?_;rintro e w4 ⟨a4,c4,rfl,o4,hc4,b4⟩;have l4:=hbel.trans (b4.mono hbel.size);have nb:=K0.below_new w4 (.cells (Iq 2 O S a4 Y.length c4) 96);have l5:=l4.trans (nb.mono l4.size);have ib:=K0.blk_new [Iv 2,Iv O,Iv S,.slice a4 Y.length c4] w4 96)
        | (go_at_call 120;refine (HIz.out _ l5).mono ?_;rintro e w6 ⟨rfl,b6⟩;have l6:=l5.trans (b6.mono l5.size);have ib6:=ib.below b6;have i0:=ib6.c0;have i2:=ib6.c2))
       go_ret;exact ⟨ret_bool HR.out.symm,l6⟩
     ·have HR:Hid (N0.to (fun j=>ok (Z.getD j 0)) (j+1)=true):=by rw[HSX.out,HOZ.out,decide_eq_false hK];rfl
      clear hsx hbd hc ez hh HO HI HLo hok
      go_wp2_with (first
       | (go_at_call 119;refine hld.mono ?_;rintro e w4 ⟨a4,c4,rfl,o4,hc4,b4⟩;have l4:=hbel.trans (b4.mono hbel.size);have nb:=K0.below_new w4 (.cells (Iq K O S a4 Y.length c4) 96);have l5:=l4.trans (nb.mono l4.size);have ib:=K0.blk_new [Iv K,Iv O,Iv S,.slice a4 Y.length c4] w4 96;have ow5:=(ow.below b4).below nb)
       | (go_at_call 120;refine (HIz.out _ l5).mono ?_;rintro e w6 ⟨rfl,b6⟩;have l6:=l5.trans (b6.mono l5.size);have ib6:=ib.below b6;have i0:=ib6.c0;have i2:=ib6.c2;have ow6:=ow5.below b6))
      go_roundw
      case rel=>exact ⟨j+1,by omega,by go_num,HR.out,by rw[<- hab];exact ow6,l6⟩
      case measure=>simp[intOf];omega
   ·obtain rfl:j=Z.length:=by omega
    have HR:Hid (M=true):=by rw[HM'.out];exact hok
    clear hok ow HO HI HLo;go_wp2;go_ret;exact ⟨ret_bool HR.out.symm,hbel⟩
end TQ
namespace Y9
open ChangeShapes WideShapes ChangeAt RowKit
open N0 (Ln)
open N1 (Sl Lists Fit)
open N5 (oldE)
open D1 (nodeE)
open J0 (IBuf Own)
open Y6 (srt kept)
open Y8 (gone)
theorem was_inode {mem:ByteArray} {d:Ln} (h:D6.verdict mem d=true):G0.isI d.rc=true:=by
 unfold D6.verdict at h;simp only[Bool.and_eq_true] at h;have h1:=h.1;unfold N0.loanOk N0.past at h1;simp only[Bool.and_eq_true] at h1;exact h1.1.1
theorem spec_GoneB (mem:ByteArray) (d:Ln) (s:Sl) (w:World) (hms:mem.size<=281474976710656) (hF:Fit d s) (hpo:d.po.length<=1048576) (hfr:d.fr.length<=1048576) (hrs:d.rc.size<=281474976710656) (hss:d.sav.size<=281474976710656) (hR:Lists w d s) :
  Calls prog 41 #[.string mem,N1.val d s] w fun e w'=>∃ a c,e=.returned (.slice a (gone mem d).length c)/\IBuf w.heap.size w' a (gone mem d).length c (gone mem d)/\Bq w w':=by
 have k0:=N1.lb_new d s w 46;have l0:=K0.below_new w (.cells (N1.Lc d s) 46);have c0:=k0.c0;have c1:=k0.c1;have c2:=k0.c2;have c3:=k0.c3;have c4:=k0.c4;have c5:=k0.c5;have c6:=k0.c6;have c7:=k0.c7
 have HV:Hid (∀ W,Bq w W->_):=fun W hb=>E6.spec_Verdict mem d s W hms hF hpo hfr (hR.below hb)
 have hel:(D0.inos (nodeE mem d.ino)).length<=13:=by rw[D0.inos_length];exact D6.nodeE_len mem d.ino
 have hol:(D0.inos (oldE d)).length<=13:=by rw[D0.inos_length];exact D6.oldE_len d
 cases hv:D6.verdict mem d with
 | false=>
  have hco:gone mem d=[]:=by rw[gone,hv];rfl
  rw[hco];rw[hv] at HV;clear hv hco hel hol hR hF;go_enter func41,ntmps41
  go_wp2_with (go_at_call 72;refine (HV.out _ l0).mono ?_;rintro e w1 ⟨rfl,b1⟩)
  go_ret;exact ⟨_,_,rfl,Y2.ibuf_mono (J0.ibuf_made w1 (Nat.le_refl _)) (Nat.le_trans l0.size b1.size),(l0.trans (b1.mono l0.size)).alloc (Nat.le_trans l0.size b1.size) _⟩
 | true=>
  obtain ⟨p1,p2,p3,p4⟩:=Y3.yes_parts hv
  have HN:Hid (∀ W,_):=fun W=>D7.l05Now mem d s W p1 p2 p3
  have HB:Hid (∀ W,_):=fun W=>D7.l05Before d s W hrs hss (was_inode hv)
  have hco:gone mem d=srt (kept false (D0.inos (oldE d)) (D0.inos (nodeE mem d.ino))):=by rw[gone,if_pos hv]
  rw[hco];rw[hv] at HV;obtain ⟨E,hE⟩:∃ E,D0.inos (nodeE mem d.ino)=E:=⟨_,rfl⟩;obtain ⟨U,hU⟩:∃ U,D0.inos (oldE d)=U:=⟨_,rfl⟩;obtain ⟨bn,hbn⟩:∃ b,D7.nowOk mem d.ino=b:=⟨_,rfl⟩;rw[hE,hbn] at HN;rw[hU] at HB hol;rw[hE] at hel;rw[hE,hU]
  have HO:Hid (∀ W a1 c1 c2 a2,P0.Row W a1 U->P0.Row W a2 E->_):=fun W a1 c1 c2 a2 r1 r2=>Y6.l05OnlyB false a1 a2 c1 c2 U E W (by omega) (by omega) r1 r2
  clear hv hco hE hU hbn p1 p2 p3 p4 hR hF;go_enter func41,ntmps41
  go_wp2_with (first
   | (go_at_call 72;refine (HV.out _ l0).mono ?_;rintro e w1 ⟨rfl,b1⟩;have l1:=l0.trans (b1.mono l0.size);have k1:=k0.below b1;have d0:=k1.c0;have d1:=k1.c1;have d2:=k1.c2;have d3:=k1.c3;have d4:=k1.c4;have d5:=k1.c5;have d6:=k1.c6;have d7:=k1.c7)
   | (go_at_call 73;refine (HN.out _).mono ?_;rintro e w2 ⟨a2,n2,rfl,o2,b2⟩;have l2:=l1.trans (b2.mono l1.size);have k2:=k1.below b2;have e0:=k2.c0;have e1:=k2.c1;have e2:=k2.c2;have e3:=k2.c3;have e4:=k2.c4;have e5:=k2.c5;have e6:=k2.c6;have e7:=k2.c7)
   | (go_at_call 74;refine (HB.out _).mono ?_;rintro e w3 ⟨a3,n3,rfl,o3,b3⟩;have l3:=l2.trans (b3.mono l2.size);have r2:=o2.row.below b3)
   | (go_at_call 42;refine (HO.out _ _ _ _ _ o3.row r2).mono ?_;rintro e w4 ⟨a4,n4,rfl,o4,b4⟩))
  go_ret;exact ⟨a4,n4,rfl,Y2.ibuf_mono o4 l3.size,l3.trans (b4.mono l3.size)⟩
theorem spec_Gone (mem:ByteArray) (d:Ln) (s:Sl) (w:World) (hms:mem.size<=281474976710656) (hF:Fit d s) (hpo:d.po.length<=1048576) (hfr:d.fr.length<=1048576) (hrs:d.rc.size<=281474976710656) (hss:d.sav.size<=281474976710656) (hR:Lists w d s) :
  Calls prog 41 #[.string mem,N1.val d s] w fun e w'=>∃ a c,e=.returned (.slice a (gone mem d).length c)/\(gone mem d).length<=c/\J0.Own w.heap.size w' a (gone mem d)/\Bq w w':=
 (spec_GoneB mem d s w hms hF hpo hfr hrs hss hR).mono fun e w' ⟨a,c,he,hb,hw⟩=>⟨a,c,he,hb.fits,hb.own,hw⟩
end Y9
namespace TTA
open ChangeShapes WideShapes ChangeAt RowKit
open N0 (Ln)
open N1 (Sl Lists Fit)
open Z0 (dat Kp Lns kval kvals)
open Z4 (truth Fits)
open KO (gath)
open Y8 (gone)
open TP (okS mayS)
open P1 (ret_bool)
structure Bx (w:World) (k:Kp) (a:Option Addr) (c:Nat) (d:Ln) (s:Sl) (W:World):Prop where
 kb:K0.Blk w.heap.size (kvals k a c) W
 lb:N1.LB (w.heap.size+1) d s W
 bel:Bq w W
variable {w W W' : World} {k : Kp} {a : Option Addr} {c : Nat} {d : Ln} {s : Sl}
theorem Bx.below (h:Bx w k a c d s W) (hb:Bq W W'):Bx w k a c d s W':=⟨h.kb.below hb,h.lb.below hb,h.bel.trans (hb.mono h.bel.size)⟩
theorem bx_new (w:World) (k:Kp) (a:Option Addr) (c:Nat) (d:Ln) (s:Sl):Bx w k a c d s ((w.alloc (KD.kob k a c)).alloc (LH.lob d s)):=by
 have e:(w.alloc (KD.kob k a c)).heap.size=w.heap.size+1:=by simp
 have l:=N1.lb_new d s (w.alloc (KD.kob k a c)) 46;rw[e] at l;exact ⟨(K0.blk_new (kvals k a c) w 31).alloc _,l,((Below.refl _ _).alloc (Nat.le_refl _) _).alloc (by simp) _⟩
theorem cells7 {base b off j H:Nat} {Z:List Int} {a3:Option Addr} {z:Int} {x0 x1 x2 x3:Value} (h:Bx w k a c d s W) (ow:J0.Own base W a3 Z) (hab:a3=some ⟨b,off,none⟩) (hlt:j<Z.length) (ez:Z.getD j 0=z) (ib:K0.Blk H [x0,x1,x2,x3] W) :
  Ce W w.heap.size 0 (.string k.mem)/\Ce W w.heap.size 1 (.string k.dur)/\Ce W w.heap.size 2 (.slice a k.ds.length c)/\Ce W w.heap.size 3 (Iv k.ck)/\Ce W b (off+j) (Iv z)/\Ce W H 0 x0/\Ce W H 2 x2:=by
 obtain ⟨b',off',hab',_,hc⟩:=ow.row.get hlt;rw[hab] at hab';cases hab';exact ⟨h.kb.c0,h.kb.c1,h.kb.c2,h.kb.c3,by rw[<- ez];exact hc j hlt,ib.c0,ib.c2⟩
theorem l06Takes (k:Kp) (a:Option Addr) (c:Nat) (ss:Nat->Sl) (d:Ln) (s:Sl) (w:World) (hm:k.mem.size=768) (hn:k.ds.length<=1048576) (ht:k.ds.length+Z1.tot k.ds k.ds.length<=1048576) (hF:Fits k.ds ss) (hR:Lns w a k.ds ss) (hFd:Fit d s) (hpo:d.po.length<=1048576) (hfr:d.fr.length<=1048576) (hrs:d.rc.size<=1048576) (hss:d.sav.size<=1048576) (hL:Lists w d s) (hts:(truth k).size=768) (hgs:(gone k.mem d).length<=1048576) :
  Calls prog 40 #[kval k a c,N1.val d s] w (Rb (.bool (mayS k d)) w):=by
 have t0:=bx_new w k a c d s
 have HT:Hid (∀ W,Bq w W->_):=fun W hb=>Z4.spec_Truth k a c ss W (by omega) hn hF (hR.below hb)
 have HV:Hid (∀ W,Bq w W->_):=fun W hb=>E6.spec_Verdict k.mem d s W (by omega) hFd hpo hfr (hL.below hb)
 have HG:Hid (∀ W,Bq w W->_):=fun W hb=>Y9.spec_Gone k.mem d s W (by omega) hFd hpo hfr (by omega) (by omega) (hL.below hb)
 have HLo:Hid (∀ x W,_):=fun x W=>O3.spec_Load (truth k) x W (by omega)
 have HLe:Hid (∀ W,Bq w W->_):=fun W hb=>KP.l06Lent k a c ss W hn ht (hR.below hb)
 have hIl:(gath (fun d:Ln=>d.ino :: d.fr) k.ds k.ds.length).length<=281474976710656:=by
  have:=KO.gath_len (fun d:Ln=>d.ino :: d.fr) k.ds 0 (fun d=>by unfold N3.total;simp only[List.length_cons];omega) k.ds.length;omega
 have HO:Hid (∀ x,okS k x=!(P0.has (gath (fun d:Ln=>d.ino :: d.fr) k.ds k.ds.length) x || (decide (O0.lK (truth k) x=2) && decide (0<O0.lS (truth k) x)))):=fun x=>rfl
 have HM:Hid (mayS k d=(D6.verdict k.mem d && N0.to (fun j=>okS k ((gone k.mem d).getD j 0)) (gone k.mem d).length)):=rfl;unfold KO.Out at HLe
 generalize mayS k d=M at HM ⊢
 generalize okS k=ok at HO HM
 generalize gath (fun d:Ln=>d.ino :: d.fr) k.ds k.ds.length=I at HLe HO hIl
 have HHa:Hid (∀ (base:Nat) W a' c',J0.Own base W a' I->∀ x,_):=fun base W a' c' h x=>N2.hasRow a' c' I x W hIl h.row
 generalize truth k=T at HT HLo HO
 generalize gone k.mem d=Z at HG HM hgs
 have y0:=t0.lb.c0;have y1:=t0.lb.c1;have y2:=t0.lb.c2;have y3:=t0.lb.c3;have y4:=t0.lb.c4;have y5:=t0.lb.c5;have y6:=t0.lb.c6;have y7:=t0.lb.c7;have kc0:=t0.kb.c0;have kc1:=t0.kb.c1;have kc2:=t0.kb.c2;have kc3:=t0.kb.c3;obtain ⟨W0,hW0⟩:∃ W0,(w.alloc (KD.kob k a c)).alloc (LH.lob d s)=W0:=⟨_,rfl⟩
 have hBB:w.heap.size+1=(w.alloc (KD.kob k a c)).heap.size:=by simp
 rw[hW0] at t0 kc0 kc1 kc2 kc3 y0 y1 y2 y3 y4 y5 y6 y7;clear hR hL hF hFd hBB
 cases hv:D6.verdict k.mem d with
 | false=>
  rw[hv] at HV HM
  have HM':Hid (M=false):=by rw[HM.out];rfl
  clear hv HM HG HLo HO HLe HHa HT;go_enter func40,ntmps40
  go_wp2_with (go_at_call 72;refine (HV.out _ t0.bel).mono ?_;rintro e w2 ⟨rfl,b2⟩)
  go_ret;exact ⟨ret_bool HM'.out.symm,t0.bel.trans (b2.mono t0.bel.size)⟩
 | true=>
  rw[hv] at HV HM
  have HM':Hid (M=N0.to (fun j=>ok (Z.getD j 0)) Z.length):=by rw[HM.out];rfl
  clear hv HM;go_enter func40,ntmps40
  go_wp2_with (first
   | (go_at_call 72;refine (HV.out _ t0.bel).mono ?_;rintro e w1 ⟨rfl,b1⟩;have t1:=t0.below b1;clear kc0 kc1 kc2 kc3 y0 y1 y2 y3 y4 y5 y6 y7;have kc0:=t1.kb.c0;have kc1:=t1.kb.c1;have kc2:=t1.kb.c2;have kc3:=t1.kb.c3)
   | (go_at_call 30;refine (HT.out _ t1.bel).mono ?_;rintro e w2 ⟨rfl,b2⟩;have t2:=t1.below b2;clear kc0 kc1 kc2 kc3;have kc0:=t2.kb.c0;have y0:=t2.lb.c0;have y1:=t2.lb.c1;have y2:=t2.lb.c2;have y3:=t2.lb.c3;have y4:=t2.lb.c4;have y5:=t2.lb.c5;have y6:=t2.lb.c6;have y7:=t2.lb.c7)
   | (go_at_call 41;refine (HG.out _ t2.bel).mono ?_;rintro e w3 ⟨a3,c3,rfl,hc3,o3,b3⟩;have t3:=t2.below b3;clear kc0 y0 y1 y2 y3 y4 y5 y6 y7))
  go_loopw [7] (fun i w'=>∃ j:Nat,j<=Z.length/\i=Iv j/\N0.to (fun j=>ok (Z.getD j 0)) j=true/\J0.Own w2.heap.size w' a3 Z/\Bx w k a c d s w') (fun i _=>Z.length-(intOf i).toNat)
  case atStart=>exact ⟨0,Nat.zero_le _,rfl,rfl,o3,t3⟩
  case round=>
   obtain ⟨j,hj,rfl,hok,ow,bx⟩:=hrel;clear t0 t1 t2 t3 o3 HT HV HG b1 b2 b3
   by_cases hlt:j<Z.length
   ·obtain ⟨b,off,hab,_,hc⟩:=ow.row.get hlt
    have x1:=hc j hlt
    have hsx:N0.to (fun j=>ok (Z.getD j 0)) (j+1)=ok (Z.getD j 0):=by rw[N0.to_succ,hok];rfl
    have hbd:ok (Z.getD j 0)=false->N0.to (fun j=>ok (Z.getD j 0)) Z.length=false:=fun h=>N0.to_bad hlt h
    obtain ⟨z,ez⟩:∃ z,Z.getD j 0=z:=⟨_,rfl⟩;rw[ez] at x1 hsx hbd;have HSX:Hid (N0.to (fun j=>ok (Z.getD j 0)) (j+1)=ok z):=hsx;have HBD:Hid (ok z=false->N0.to (fun j=>ok (Z.getD j 0)) Z.length=false):=hbd;have HEZ:Hid (Z.getD j 0=z):=ez;have HOZ:Hid (ok z=!(P0.has I z || (decide (O0.lK T z=2) && decide (0<O0.lS T z)))):=HO.out z
    have HHz:Hid (∀ (base:Nat) W a' c',J0.Own base W a' I->_):=fun base W a' c' h=>HHa.out base W a' c' h z
    have hld:=HLo.out z wr;unfold O2.Ans at hld
    generalize O0.lK T z=K at hld HOZ
    generalize O0.lS T z=S at hld HOZ
    generalize O0.lO T z=O at hld
    generalize O0.lZ T z=Y at hld
    generalize O0.lD T z=X at hld
    generalize O0.isL T z=B at hld
    have e1:(0:Int)<=(j:Int):=by omega
    have e2:(j:Int)<(Z.length:Int):=by omega
    rw[hab]
    cases hh:P0.has I z with
    | true=>
     rw[hh] at HOZ HHz
     have HR:Hid (M=false):=by rw[HM'.out];exact HBD.out (by rw[HOZ.out];rfl)
     have HAB:Hid (a3=some ⟨b,off,none⟩):=hab;clear hsx hbd hc hh HO HLo hok HHa
     go_wp2_with (go_at_call 61;refine hld.mono ?_;rintro e w4 ⟨a4,c4,rfl,o4,hc4,l4⟩;have nb:=K0.below_new w4 (.cells (Iq K O S a4 Y.length c4) 96);have dn:Bq w4 (w4.alloc (.cells (Iq K O S a4 Y.length c4) 96)).drew:=nb.drew;have b5:=(bx.below l4).below dn;have ow5:=(ow.below l4).below dn;have ib5:=(K0.blk_new [Iv K,Iv O,Iv S,.slice a4 Y.length c4] w4 96).drew;have s5:=cells7 b5 ow5 hab hlt HEZ.out ib5)
     clear hab ez hld;refine wp_region_held (S:=fun W=>Ce W w.heap.size 0 (.string k.mem)/\Ce W w.heap.size 1 (.string k.dur)/\Ce W w.heap.size 2 (.slice a k.ds.length c)/\Ce W w.heap.size 3 (Iv k.ck)/\Ce W b (off+j) (Iv z)/\Ce W w4.heap.size 0 (Iv K)/\Ce W w4.heap.size 2 (Iv S)) (by kernel_rfl) ?_;refine BT.s 0 (kval k a c) s5 ?_;refine BT.r 2 (.slice (some ⟨b,off,none⟩) Z.length c3) s5 ?_;refine BT.r 3 (Iv j) s5 ?_;refine BT.s 4 (Pv b (off+j)) s5 ?_;refine BT.s 5 (Iv z) s5 ?_;refine Y0.one_callw (i:=1) (by kernel_rfl) rfl (by rfl) (.tmp 40) _ rfl (kval k a c) (by rfl) (enters_of func36 (by kernel_rfl) rfl) ((HLe.out _ b5.bel).mono ?_);rintro e w6 ⟨a6,c6,rfl,o6,hc6,l6⟩;have b6:=b5.below l6;have ow6:=ow5.below l6;have ib6:=ib5.below l6;have s6:=cells7 b6 ow6 HAB.out hlt HEZ.out ib6;refine ⟨_,rfl,s6,?_⟩;simp only[BZ.z,Act.put,Nat.reduceAdd];refine Y0.one_call2w (i:=6) (by kernel_rfl) rfl (by rfl) (.tmp 41) (.tmp 45) _ rfl (.slice a6 I.length c6) (Iv z) (by rfl) (by rfl) (enters_of func64 (by kernel_rfl) rfl) ((HHz.out _ _ _ _ o6).mono ?_);rintro e w7 ⟨rfl,hw7⟩;subst w7;refine ⟨_,rfl,s6,?_⟩;simp only[BZ.z,Act.put,Nat.reduceAdd];refine BT.r 7 (.bool true) s6 ?_;refine BT.u 8 s6 ?_;refine BT.u 9 s6 ?_;refine BT.u 10 s6 ?_;refine BT.u 11 s6 ?_;refine BT.u 12 s6 ?_;refine BT.u 13 s6 ?_;refine BT.u 14 s6 ?_;refine BT.u 15 s6 ?_;refine BT.r 16 (.bool true) s6 ?_;refine wpAnyH_done (by kernel_rfl) ?_ _;go_wp2;go_ret
     exact ⟨ret_bool HR.out.symm,b6.bel⟩
    | false=>
     rw[hh] at HOZ HHz
     by_cases hK:K=2
     ·subst hK
      by_cases hS:0<S
      ·have HR:Hid (M=false):=by rw[HM'.out];exact HBD.out (by rw[HOZ.out,decide_eq_true hS];rfl)
       have HAB:Hid (a3=some ⟨b,off,none⟩):=hab;clear hsx hbd hc hh HO HLo hok HHa
       go_wp2_with (go_at_call 61;refine hld.mono ?_;rintro e w4 ⟨a4,c4,rfl,o4,hc4,l4⟩;have nb:=K0.below_new w4 (.cells (Iq 2 O S a4 Y.length c4) 96);have dn:Bq w4 (w4.alloc (.cells (Iq 2 O S a4 Y.length c4) 96)).drew:=nb.drew;have b5:=(bx.below l4).below dn;have ow5:=(ow.below l4).below dn;have ib5:=(K0.blk_new [Iv 2,Iv O,Iv S,.slice a4 Y.length c4] w4 96).drew;have s5:=cells7 b5 ow5 hab hlt HEZ.out ib5)
       clear hab ez hld;refine wp_region_held (S:=fun W=>Ce W w.heap.size 0 (.string k.mem)/\Ce W w.heap.size 1 (.string k.dur)/\Ce W w.heap.size 2 (.slice a k.ds.length c)/\Ce W w.heap.size 3 (Iv k.ck)/\Ce W b (off+j) (Iv z)/\Ce W w4.heap.size 0 (Iv 2)/\Ce W w4.heap.size 2 (Iv S)) (by kernel_rfl) ?_;refine BT.s 0 (kval k a c) s5 ?_;refine BT.r 2 (.slice (some ⟨b,off,none⟩) Z.length c3) s5 ?_;refine BT.r 3 (Iv j) s5 ?_;refine BT.s 4 (Pv b (off+j)) s5 ?_;refine BT.s 5 (Iv z) s5 ?_;refine Y0.one_callw (i:=1) (by kernel_rfl) rfl (by rfl) (.tmp 40) _ rfl (kval k a c) (by rfl) (enters_of func36 (by kernel_rfl) rfl) ((HLe.out _ b5.bel).mono ?_);rintro e w6 ⟨a6,c6,rfl,o6,hc6,l6⟩;have b6:=b5.below l6;have ow6:=ow5.below l6;have ib6:=ib5.below l6;have s6:=cells7 b6 ow6 HAB.out hlt HEZ.out ib6;refine ⟨_,rfl,s6,?_⟩;simp only[BZ.z,Act.put,Nat.reduceAdd];refine Y0.one_call2w (i:=6) (by kernel_rfl) rfl (by rfl) (.tmp 41) (.tmp 45) _ rfl (.slice a6 I.length c6) (Iv z) (by rfl) (by rfl) (enters_of func64 (by kernel_rfl) rfl) ((HHz.out _ _ _ _ o6).mono ?_);rintro e w7 ⟨rfl,hw7⟩;subst w7;refine ⟨_,rfl,s6,?_⟩;simp only[BZ.z,Act.put,Nat.reduceAdd];refine BT.r 7 (.bool false) s6 ?_;refine BT.s 8 (Pv w4.heap.size 0) s6 ?_;refine BT.s 9 (Iv 2) s6 ?_;refine BT.r 10 (.bool true) s6 ?_;refine BT.r 11 (.bool true) s6 ?_;refine BT.s 12 (Pv w4.heap.size 2) s6 ?_;refine BT.s 13 (Iv S) s6 ?_;refine BT.s 14 (.bool true) s6 ?_;refine BT.r 15 (.bool true) s6 ?_
       refine BT.r 16 (.bool true) s6 ?_;refine wpAnyH_done (by kernel_rfl) ?_ _;go_wp2;go_ret;exact ⟨ret_bool HR.out.symm,b6.bel⟩
      ·have HR:Hid (N0.to (fun j=>ok (Z.getD j 0)) (j+1)=true):=by rw[HSX.out,HOZ.out,decide_eq_false hS];rfl
       have hS':S<=0:=by omega
       have HAB:Hid (a3=some ⟨b,off,none⟩):=hab;clear hsx hbd hc hh HO HLo hok HHa
       go_wp2_with (go_at_call 61;refine hld.mono ?_;rintro e w4 ⟨a4,c4,rfl,o4,hc4,l4⟩;have nb:=K0.below_new w4 (.cells (Iq 2 O S a4 Y.length c4) 96);have dn:Bq w4 (w4.alloc (.cells (Iq 2 O S a4 Y.length c4) 96)).drew:=nb.drew;have b5:=(bx.below l4).below dn;have ow5:=(ow.below l4).below dn;have ib5:=(K0.blk_new [Iv 2,Iv O,Iv S,.slice a4 Y.length c4] w4 96).drew;have s5:=cells7 b5 ow5 hab hlt HEZ.out ib5)
       clear hab ez hld;refine wp_region_held (S:=fun W=>Ce W w.heap.size 0 (.string k.mem)/\Ce W w.heap.size 1 (.string k.dur)/\Ce W w.heap.size 2 (.slice a k.ds.length c)/\Ce W w.heap.size 3 (Iv k.ck)/\Ce W b (off+j) (Iv z)/\Ce W w4.heap.size 0 (Iv 2)/\Ce W w4.heap.size 2 (Iv S)) (by kernel_rfl) ?_;refine BT.s 0 (kval k a c) s5 ?_;refine BT.r 2 (.slice (some ⟨b,off,none⟩) Z.length c3) s5 ?_;refine BT.r 3 (Iv j) s5 ?_;refine BT.s 4 (Pv b (off+j)) s5 ?_;refine BT.s 5 (Iv z) s5 ?_;refine Y0.one_callw (i:=1) (by kernel_rfl) rfl (by rfl) (.tmp 40) _ rfl (kval k a c) (by rfl) (enters_of func36 (by kernel_rfl) rfl) ((HLe.out _ b5.bel).mono ?_);rintro e w6 ⟨a6,c6,rfl,o6,hc6,l6⟩;have b6:=b5.below l6;have ow6:=ow5.below l6;have ib6:=ib5.below l6;have s6:=cells7 b6 ow6 HAB.out hlt HEZ.out ib6;refine ⟨_,rfl,s6,?_⟩;simp only[BZ.z,Act.put,Nat.reduceAdd];refine Y0.one_call2w (i:=6) (by kernel_rfl) rfl (by rfl) (.tmp 41) (.tmp 45) _ rfl (.slice a6 I.length c6) (Iv z) (by rfl) (by rfl) (enters_of func64 (by kernel_rfl) rfl) ((HHz.out _ _ _ _ o6).mono ?_);rintro e w7 ⟨rfl,hw7⟩;subst w7;refine ⟨_,rfl,s6,?_⟩;simp only[BZ.z,Act.put,Nat.reduceAdd];refine BT.r 7 (.bool false) s6 ?_;refine BT.s 8 (Pv w4.heap.size 0) s6 ?_;refine BT.s 9 (Iv 2) s6 ?_;refine BT.r 10 (.bool true) s6 ?_;refine BT.r 11 (.bool true) s6 ?_;refine BT.s 12 (Pv w4.heap.size 2) s6 ?_;refine BT.s 13 (Iv S) s6 ?_;refine BT.s 14 (.bool false) s6 ?_;refine BT.r 15 (.bool false) s6 ?_
       refine BT.r 16 (.bool false) s6 ?_;refine wpAnyH_done (by kernel_rfl) ?_ _;go_wp2
       go_roundw
       case rel=>exact ⟨j+1,by omega,by go_num,HR.out,by rw[<- HAB.out];exact ow6,b6⟩
       case measure=>simp[intOf];omega
     ·have HR:Hid (N0.to (fun j=>ok (Z.getD j 0)) (j+1)=true):=by rw[HSX.out,HOZ.out,decide_eq_false hK];rfl
      have hKb:(K == 2)=false:=by simpa using hK
      have HAB:Hid (a3=some ⟨b,off,none⟩):=hab;clear hsx hbd hc hh HO HLo hok HHa
      go_wp2_with (go_at_call 61;refine hld.mono ?_;rintro e w4 ⟨a4,c4,rfl,o4,hc4,l4⟩;have nb:=K0.below_new w4 (.cells (Iq K O S a4 Y.length c4) 96);have dn:Bq w4 (w4.alloc (.cells (Iq K O S a4 Y.length c4) 96)).drew:=nb.drew;have b5:=(bx.below l4).below dn;have ow5:=(ow.below l4).below dn;have ib5:=(K0.blk_new [Iv K,Iv O,Iv S,.slice a4 Y.length c4] w4 96).drew;have s5:=cells7 b5 ow5 hab hlt HEZ.out ib5)
      clear hab ez hld;refine wp_region_held (S:=fun W=>Ce W w.heap.size 0 (.string k.mem)/\Ce W w.heap.size 1 (.string k.dur)/\Ce W w.heap.size 2 (.slice a k.ds.length c)/\Ce W w.heap.size 3 (Iv k.ck)/\Ce W b (off+j) (Iv z)/\Ce W w4.heap.size 0 (Iv K)/\Ce W w4.heap.size 2 (Iv S)) (by kernel_rfl) ?_;refine BT.s 0 (kval k a c) s5 ?_;refine BT.r 2 (.slice (some ⟨b,off,none⟩) Z.length c3) s5 ?_;refine BT.r 3 (Iv j) s5 ?_;refine BT.s 4 (Pv b (off+j)) s5 ?_;refine BT.s 5 (Iv z) s5 ?_;refine Y0.one_callw (i:=1) (by kernel_rfl) rfl (by rfl) (.tmp 40) _ rfl (kval k a c) (by rfl) (enters_of func36 (by kernel_rfl) rfl) ((HLe.out _ b5.bel).mono ?_);rintro e w6 ⟨a6,c6,rfl,o6,hc6,l6⟩;have b6:=b5.below l6;have ow6:=ow5.below l6;have ib6:=ib5.below l6;have s6:=cells7 b6 ow6 HAB.out hlt HEZ.out ib6;refine ⟨_,rfl,s6,?_⟩;simp only[BZ.z,Act.put,Nat.reduceAdd];refine Y0.one_call2w (i:=6) (by kernel_rfl) rfl (by rfl) (.tmp 41) (.tmp 45) _ rfl (.slice a6 I.length c6) (Iv z) (by rfl) (by rfl) (enters_of func64 (by kernel_rfl) rfl) ((HHz.out _ _ _ _ o6).mono ?_);rintro e w7 ⟨rfl,hw7⟩;subst w7;refine ⟨_,rfl,s6,?_⟩;simp only[BZ.z,Act.put,Nat.reduceAdd];refine BT.r 7 (.bool false) s6 ?_;refine BT.s 8 (Pv w4.heap.size 0) s6 ?_;refine BT.s 9 (Iv K) s6 ?_;refine BT.s 10 (.bool false) s6 ?_;refine BT.r 11 (.bool false) s6 ?_;refine BT.u 12 s6 ?_;refine BT.u 13 s6 ?_;refine BT.u 14 s6 ?_;refine BT.r 15 (.bool false) s6 ?_;refine BT.r 16 (.bool false) s6 ?_
      refine wpAnyH_done (by kernel_rfl) ?_ _;go_wp2
      go_roundw
      case rel=>exact ⟨j+1,by omega,by go_num,HR.out,by rw[<- HAB.out];exact ow6,b6⟩
      case measure=>simp[intOf];omega
   ·obtain rfl:j=Z.length:=by omega
    have HR:Hid (M=true):=by rw[HM'.out];exact hok
    have hbel:=bx.bel;clear hok ow HO HLo HLe HHa bx;go_wp2;go_ret;exact ⟨ret_bool HR.out.symm,hbel⟩
end TTA
end Go.Proofs.YtlejhfnjmkdobaaGreatDoor
