/- Joined texts. -/
import Derived.Test.YtlejhfnjmkdobaaGreatDoorJtB
import Derived.Lib.AppendZerosOnto
set_option linter.unusedVariables false
set_option linter.unusedSimpArgs false
set_option maxRecDepth 10000
set_option maxHeartbeats 16000000
namespace Go.Proofs.YtlejhfnjmkdobaaGreatDoor
open Go.Proofs.Tryz
namespace V0
open Go
def chunk (s:ByteArray) (j:Nat):ByteArray:=B2.part s ((j:Int)*16) 16
def ents (s:ByteArray) (k:Nat):List T0.Ent:=(List.range k).map fun (j:Nat)=>(E4.eIno (chunk s j),E4.eName (chunk s j))
theorem ents_length (s:ByteArray) (k:Nat):(ents s k).length=k:=by simp[ents]
theorem ents_succ (s:ByteArray) (k:Nat):ents s k ++ [(E4.eIno (chunk s k),E4.eName (chunk s k))]=ents s (k+1):=by simp[ents,List.range_succ]
theorem ents_get (s:ByteArray) (k j:Nat) (h:j<k):T0.ent (ents s k) j=(E4.eIno (chunk s j),E4.eName (chunk s j)):=by
 rw[T0.ent_get _ _ (by rw[ents_length];exact h)];simp[ents]
def cnt (s:ByteArray):Nat:=min ((s.size+15) / 16) 13
def isD (s:ByteArray):Bool:=decide (s.size=0) || ((T0.putD (ents s (cnt s))).toList == s.toList)
def dE (s:ByteArray):List T0.Ent:=if isD s then ents s (cnt s) else []
theorem toList_eq {a b:ByteArray} (h:a.toList=b.toList):a=b:=by
 rw[Lib.toList_data,Lib.toList_data] at h;exact ByteArray.ext (Array.toList_inj.1 h)
theorem chunk_eq (s:ByteArray) (j:Nat) (h:(j+1)*16<=s.size):chunk s j=s.extract (j*16) (j*16+16):=by
 rw[chunk,B2.part,show B2.lies s.size ((j:Int)*16) 16=true from decide_eq_true (by omega),if_pos rfl,show ((j:Int)*16).toNat=j*16 by omega,show ((j:Int)*16+16).toNat=j*16+16 by omega]
theorem isE_eq {x:ByteArray} (h:E4.isE x=true):E0.putE (E4.eIno x) (E4.eName x)=x:=by
 have h2:=h;simp only[E4.isE,Bool.and_eq_true,beq_iff_eq] at h2;rw[E4.eIno,E4.eName,if_pos h,if_pos h];exact toList_eq h2.2
theorem not_isE {x:ByteArray} (h:E4.isE x=false):E4.eIno x=0/\E4.eName x=⟨#[]⟩:=by simp[E4.eIno,E4.eName,h]
theorem entryOk_zero:E0.entryOk 0 ⟨#[]⟩=false:=by
 rw[E0.entryOk,show B1.inB 0 1 7=false from by decide,Bool.and_false]
theorem ext_join (s:ByteArray) (a b:Nat) (h1:a<=b) (h2:b<=s.size):s.extract 0 a++s.extract a b=s.extract 0 b:=by
 apply ByteArray.ext
 apply Array.toList_inj.1
 simp only[ByteArray.data_append,Array.toList_append,Lib.extract_data,List.drop_zero,Nat.sub_zero];rw[<- List.take_add,show a+(b-a)=b by omega]
theorem joined_ext (s:ByteArray) (n:Nat) (hE:∀ j,j<n->E4.isE (chunk s j)=true):∀ k,k<=n->k*16<=s.size->T0.joined (ents s n) k=s.extract 0 (k*16)
 | 0,_,_=>by
  apply ByteArray.ext
  simp[T0.joined]
 | k+1,hk,hs=>by
  rw[T0.joined,joined_ext s n hE k (by omega) (by omega),ents_get s n k (by omega),isE_eq (hE k (by omega)),chunk_eq s k (by omega),ext_join s _ _ (by omega) (by omega),show k*16+16=(k+1)*16 by omega]
theorem ext_all (s:ByteArray):s.extract 0 s.size=s:=by
 apply ByteArray.ext
 apply Array.toList_inj.1
 rw[Lib.extract_data];simp only[List.drop_zero,Nat.sub_zero];exact List.take_of_length_le (by rw[<- Lib.size_eq];exact Nat.le_refl _)
theorem isD_of {s:ByteArray} (h1:s.size<=192) (h2:s.size % 16=0) (hE:∀ j,j<s.size / 16->E4.isE (chunk s j)=true) (hD:T0.dirOk (ents s (s.size / 16))=true):isD s=true/\cnt s=s.size / 16:=by
 have hc:cnt s=s.size / 16:=by unfold cnt;omega
 refine ⟨?_,hc⟩;rw[isD,hc]
 have:T0.putD (ents s (s.size / 16))=s:=by
  rw[T0.putD,if_pos hD,ents_length,joined_ext s _ hE _ (Nat.le_refl _) (by omega),show s.size / 16*16=s.size by omega];exact ext_all s
 rw[this];simp
theorem of_isD {s:ByteArray} (h:isD s=true):s.size<=192/\s.size % 16=0/\cnt s=s.size / 16/\(∀ j,j<s.size / 16->E4.isE (chunk s j)=true)/\T0.dirOk (ents s (s.size / 16))=true:=by
 by_cases h0:s.size=0
 ·refine ⟨by omega,by omega,by unfold cnt;omega,fun j hj=>by omega,?_⟩
  rw[h0];rfl
 ·rw[isD,decide_eq_false h0,Bool.false_or] at h
  have he:T0.putD (ents s (cnt s))=s:=toList_eq (by simpa using h)
  have hD:T0.dirOk (ents s (cnt s))=true:=by
   cases hb:T0.dirOk (ents s (cnt s)) with
   | true=>rfl
   | false=>
    rw[T0.putD,hb] at he;have:=congrArg ByteArray.size he;exact absurd this.symm h0
  have hd:=hD;simp only[T0.dirOk,Bool.and_eq_true,decide_eq_true_eq] at hd;rw[ents_length] at hd
  have hsz:s.size=16*cnt s:=by
   have:=T0.joined_size hd.2 (cnt s) (Nat.le_refl _);rw[T0.putD,if_pos hD,ents_length] at he;rw[he] at this;exact this
  have hc:cnt s=s.size / 16:=by omega
  rw[<- hc];refine ⟨by omega,by omega,rfl,fun j hj=>?_,hD⟩
  cases hb:E4.isE (chunk s j) with
  | true=>rfl
  | false=>
   have h1:=(T0.okAt_entry (T0.okUpto_at hd.2 hj)).1;rw[ents_get s _ j hj,(not_isE hb).1,(not_isE hb).2,entryOk_zero] at h1;cases h1
end V0
namespace G0
open Go
def cnt (s:ByteArray):Nat:=min (P0.need (B6.pairAt s 2)).toNat 12
def pgs (s:ByteArray) (k:Nat):List Int:=(List.range k).map fun (j:Nat)=>B1.byteAt s (4+(j:Int))
theorem pgs_length (s:ByteArray) (k:Nat):(pgs s k).length=k:=by simp[pgs]
theorem pgs_succ (s:ByteArray) (k:Nat):pgs s k ++ [B1.byteAt s (4+(k:Int))]=pgs s (k+1):=by simp[pgs,List.range_succ]
def txt (s:ByteArray):ByteArray:=R0.putI (B1.byteAt s 0) (B1.byteAt s 1) (B6.pairAt s 2) (pgs s (cnt s))
def isI (s:ByteArray):Bool:=decide (s.size=16) && ((txt s).toList == s.toList)
def gK (s:ByteArray):Int:=if isI s then B1.byteAt s 0 else 0
def gO (s:ByteArray):Int:=if isI s then B1.byteAt s 1 else 0
def gS (s:ByteArray):Int:=if isI s then B6.pairAt s 2 else 0
def gZ (s:ByteArray):List Int:=if isI s then pgs s (cnt s) else []
theorem pairAt_lt (s:ByteArray) (i:Int):0<=B6.pairAt s i/\B6.pairAt s i<=65535:=by
 unfold B6.pairAt
 split
 ·rename_i h
  have h1:=(s[i.toNat]'(by omega)).toNat_lt;have h2:=(s[(i+1).toNat]'(by omega)).toNat_lt;omega
 ·omega
theorem need_nonneg {x:Int} (h:0<=x):0<=P0.need x:=by unfold P0.need;omega
theorem cnt_le (s:ByteArray):cnt s<=12:=Nat.min_le_right _ _
theorem cnt_lt (s:ByteArray) (k:Nat):k<cnt s ↔ (k:Int)<P0.need (B6.pairAt s 2)/\k<12:=by
 have:=need_nonneg (pairAt_lt s 2).1;unfold cnt;omega
theorem isI_ok {s:ByteArray} (h:isI s=true):s.size=16/\(txt s).toList=s.toList/\I0.ok (B1.byteAt s 0) (B1.byteAt s 1) (B6.pairAt s 2) (pgs s (cnt s))=true:=by
 simp only[isI,Bool.and_eq_true,decide_eq_true_eq,beq_iff_eq] at h;refine ⟨h.1,h.2,?_⟩
 cases hok:I0.ok (B1.byteAt s 0) (B1.byteAt s 1) (B6.pairAt s 2) (pgs s (cnt s)) with
 | true=>rfl
 | false=>
  have h2:=h.2;rw[txt,R0.putI,hok,if_neg (by decide)] at h2;have h3:=congrArg List.length h2;rw[Lib.toList_data,Lib.toList_data,<- Lib.size_eq,<- Lib.size_eq] at h3;rw[h.1] at h3;exact absurd h3 (by decide)
theorem isI_of {s:ByteArray} (h16:s.size=16) (h:((txt s).toList == s.toList)=true):isI s=true:=by rw[isI,decide_eq_true h16,h];rfl
theorem isI_not {s:ByteArray} (h:((txt s).toList == s.toList)=false):isI s=false:=by rw[isI,h,Bool.and_false]
theorem isI_no {s:ByteArray} (h:¬ s.size=16):isI s=false:=by rw[isI,decide_eq_false h,Bool.false_and]
theorem isI_bad {s:ByteArray} (h:I0.ok (B1.byteAt s 0) (B1.byteAt s 1) (B6.pairAt s 2) (pgs s (cnt s))=false):isI s=false:=by
 cases hi:isI s with
 | false=>rfl
 | true=>rw[(isI_ok hi).2.2] at h;cases h
theorem g_no {s:ByteArray} (h:isI s=false):gK s=0/\gO s=0/\gS s=0/\gZ s=[]:=by simp[gK,gO,gS,gZ,h]
theorem g_yes {s:ByteArray} (h:isI s=true):gK s=B1.byteAt s 0/\gO s=B1.byteAt s 1/\gS s=B6.pairAt s 2/\gZ s=pgs s (cnt s):=by simp[gK,gO,gS,gZ,h]
end G0
namespace O0
open Go
def recd (mem:ByteArray) (i:Int):ByteArray:=B2.part mem (L1.recAt i) 16
def joined (mem:ByteArray) (zs:List Int):Nat->ByteArray
 | 0=>⟨#[]⟩
 | k+1=>joined mem zs k++B2.part mem (zs.getD k 0*32) 32
theorem page_size {mem:ByteArray} (hm:mem.size=768) {z:Int} (h0:5<=z) (h1:z<=23):(B2.part mem (z*32) 32).size=32:=by
 rw[B2.part,show B2.lies mem.size (z*32) 32=true from decide_eq_true (by omega),if_pos rfl,ByteArray.size_extract]
 omega
theorem joined_size {mem:ByteArray} (hm:mem.size=768) {zs:List Int} (hp:P0.pagesOk zs=true):∀ k,k<=zs.length->(joined mem zs k).size=32*k
 | 0,_=>rfl
 | k+1,h=>by
  have hz:=R0.pages_bounds hp (k:=k) (by omega);rw[joined,ByteArray.size_append,joined_size hm hp k (by omega),page_size hm hz.1 hz.2];omega
def isL (mem:ByteArray) (i:Int):Bool:=decide (mem.size=768) && (G0.isI (recd mem i) && !decide (B1.byteAt (recd mem i) 0=0))
def lK (mem:ByteArray) (i:Int):Int:=if isL mem i then G0.gK (recd mem i) else 0
def lO (mem:ByteArray) (i:Int):Int:=if isL mem i then G0.gO (recd mem i) else 0
def lS (mem:ByteArray) (i:Int):Int:=if isL mem i then G0.gS (recd mem i) else 0
def lZ (mem:ByteArray) (i:Int):List Int:=if isL mem i then G0.gZ (recd mem i) else []
def lD (mem:ByteArray) (i:Int):ByteArray:=if isL mem i then (joined mem (G0.gZ (recd mem i)) (G0.gZ (recd mem i)).length).extract 0 (G0.gS (recd mem i)).toNat else ⟨#[]⟩
theorem l_no {mem:ByteArray} {i:Int} (h:isL mem i=false):lK mem i=0/\lO mem i=0/\lS mem i=0/\lZ mem i=[]/\lD mem i=⟨#[]⟩:=by simp[lK,lO,lS,lZ,lD,h]
theorem l_yes {mem:ByteArray} {i:Int} (h:isL mem i=true):lK mem i=G0.gK (recd mem i)/\lO mem i=G0.gO (recd mem i)/\lS mem i=G0.gS (recd mem i)/\lZ mem i=G0.gZ (recd mem i)/\lD mem i=(joined mem (G0.gZ (recd mem i)) (G0.gZ (recd mem i)).length).extract 0 (G0.gS (recd mem i)).toNat:=by simp[lK,lO,lS,lZ,lD,h]
theorem isL_size {mem:ByteArray} {i:Int} (h:¬ mem.size=768):isL mem i=false:=by rw[isL,decide_eq_false h,Bool.false_and]
theorem isL_rec {mem:ByteArray} {i:Int} (h:G0.isI (recd mem i)=false):isL mem i=false:=by rw[isL,h,Bool.false_and,Bool.and_false]
theorem isL_free {mem:ByteArray} {i:Int} (h:B1.byteAt (recd mem i) 0=0):isL mem i=false:=by rw[isL,decide_eq_true h,Bool.not_true,Bool.and_false,Bool.and_false]
theorem isL_of {mem:ByteArray} {i:Int} (h1:mem.size=768) (h2:G0.isI (recd mem i)=true) (h3:¬ B1.byteAt (recd mem i) 0=0):isL mem i=true:=by rw[isL,decide_eq_true h1,h2,decide_eq_false h3];rfl
theorem recd_size (mem:ByteArray) (i:Int) (h:mem.size<=281474976710656):(recd mem i).size<=281474976710656:=by
 have:=B2.part_size mem (L1.recAt i) 16;unfold recd;omega
theorem got {s:ByteArray} (h:G0.isI s=true):(0<=G0.gS s/\G0.gS s<=192)/\(G0.gZ s).length<=6/\G0.gS s<=32*((G0.gZ s).length:Int)/\P0.pagesOk (G0.gZ s)=true/\(0<=G0.gK s/\G0.gK s<=2):=by
 have hb:=R0.ok_bounds (G0.isI_ok h).2.2;obtain ⟨e1,e2,e3,e4⟩:=G0.g_yes h;rw[e1,e3,e4];refine ⟨hb.2.2.1,hb.2.2.2.1,?_,hb.2.2.2.2.2,hb.1⟩;rw[hb.2.2.2.2.1];unfold P0.need;omega
end O0
namespace N0
open Go
structure Ln where
 ino:Int
 cl:Int
 un:Int
 rc:ByteArray
 pg:List Int
 sav:ByteArray
 po:List Int
 fr:List Int
def to (f:Nat->Bool) (k:Nat):Bool:=(List.range k).all f
theorem to_succ (f:Nat->Bool) (k:Nat):to f (k+1)=(to f k && f k):=by simp[to,List.range_succ]
theorem to_iff {f:Nat->Bool} {k:Nat}:to f k=true ↔ ∀ i,i<k->f i=true:=by simp[to,List.all_eq_true]
theorem to_bad {f:Nat->Bool} {k n:Nat} (hk:k<n) (h:f k=false):to f n=false:=by
 cases e:to f n with
 | false=>rfl
 | true=>rw[to_iff.1 e k hk] at h;cases h
theorem to_step {f:Nat->Bool} {k:Nat} (h:to f k=true) (hf:f k=true):to f (k+1)=true:=by rw[to_succ,h,hf];rfl
def ascAt (zs:List Int) (i:Nat):Bool:=decide (i=0) || decide (zs.getD (i-1) 0<zs.getD i 0)
def asc (zs:List Int):Bool:=to (ascAt zs) zs.length
def upAt (zs:List Int) (a b:Int) (i:Nat):Bool:=B1.inB (zs.getD i 0) a b && ascAt zs i
def up (zs:List Int) (a b:Int):Bool:=to (upAt zs a b) zs.length
def apAt (pg po:List Int) (i:Nat):Bool:=!(P0.has pg (po.getD i 0))
def apart (pg po:List Int):Bool:=to (apAt pg po) po.length
def amAt (zs al:List Int) (i:Nat):Bool:=P0.has al (zs.getD i 0)
def among (zs al:List Int):Bool:=to (amAt zs al) zs.length
def frAt (fr:List Int) (ino:Int) (i:Nat):Bool:=B1.inB (fr.getD i 0) 1 7 && !decide (fr.getD i 0=ino)
def past (d:Ln):Bool:=G0.isI d.rc && (!decide (G0.gK d.rc=0) && (decide (G0.gZ d.rc=d.pg) && (decide (d.sav.size=d.pg.length*32) && (!decide (G0.gK d.rc=2) || V0.isD (B2.part d.sav 0 (G0.gS d.rc))))))
def nums (d:Ln):Bool:=decide (0<=d.ino) && (decide (d.ino<8) && (decide (0<=d.cl) && (decide (d.cl<=8) && decide (0<=d.un))))
def poolOk (d:Ln):Bool:=decide (d.po.length<=4) && (asc d.po && P0.pagesOk (G0.gZ d.rc++d.po))
def freshOk (d:Ln):Bool:=if G0.gK d.rc=2 then decide (d.fr.length<=2) && (asc d.fr && to (frAt d.fr d.ino) d.fr.length) else decide (d.fr.length=0)
def loanOk (d:Ln):Bool:=past d && (nums d && (poolOk d && freshOk d))
def sFirst (d:Ln):Bool:=G0.isI d.rc && (!decide (G0.gK d.rc=0) && (B1.inB d.ino 0 7 && (B1.inB d.cl 0 8 && (!decide (d.un<0) && (decide (G0.gZ d.rc=d.pg) && decide (d.sav.size=d.pg.length*32))))))
def sDir (d:Ln):Bool:=!decide (G0.gK d.rc=2) || V0.isD (B2.part d.sav 0 (G0.gS d.rc))
def sLast (d:Ln):Bool:=up d.po 5 23 && (decide (d.po.length<=4) && (up d.fr 1 7 && (decide (d.fr.length<=2) && (!(P0.has d.fr d.ino) && (decide (G0.gK d.rc=2) || decide (d.fr.length=0))))))
def sOk (d:Ln):Bool:=sFirst d && (apart d.pg d.po && (sDir d && sLast d))
theorem getD_mem {zs:List Int} {i:Nat} (h:i<zs.length):zs.getD i 0 ∈ zs:=by
 rw[P0.getD_get _ _ h];exact List.getElem_mem h
theorem mem_getD {zs:List Int} {z:Int} (h:z ∈ zs):∃ i,i<zs.length/\zs.getD i 0=z:=by
 obtain ⟨i,hi,e⟩:=List.mem_iff_getElem.1 h;exact ⟨i,hi,by rw[P0.getD_get _ _ hi];exact e⟩
theorem has_iff {l:List Int} {x:Int}:P0.has l x=true ↔ x ∈ l:=by unfold P0.has;exact List.contains_iff_mem
theorem has_not {l:List Int} {x:Int}:P0.has l x=false ↔ ¬ x ∈ l:=by
 rw[<- has_iff]
 cases P0.has l x <;> simp
theorem inB_iff {z a b:Int}:B1.inB z a b=true ↔ a<=z/\z<=b:=by unfold B1.inB;simp
theorem pagesOk_iff {zs:List Int}:P0.pagesOk zs=true ↔ (∀ z ∈ zs,5<=z/\z<=23)/\zs.Nodup:=by
 have h0:P0.pagesOk zs=to (P0.okAt zs) zs.length:=rfl;rw[h0,to_iff];constructor
 ·intro h
  refine ⟨fun z hz=>?_,?_⟩
  ·obtain ⟨i,hi,rfl⟩:=mem_getD hz
   have:=h i hi;simp only[P0.okAt,Bool.and_eq_true] at this;exact inB_iff.1 this.1
  ·rw[List.Nodup,List.pairwise_iff_getElem]
   intro i j hi hj hij e;have:=h j hj;simp only[P0.okAt,Bool.and_eq_true,Bool.not_eq_true'] at this;have h2:=P0.contains_of (zs:=zs) hij (Nat.le_of_lt hj);rw[P0.getD_get _ _ hi,e,<- P0.getD_get _ _ hj,this.2] at h2;cases h2
 ·rintro ⟨h1,h2⟩ i hi
  simp only[P0.okAt,Bool.and_eq_true,Bool.not_eq_true'];refine ⟨inB_iff.2 (h1 _ (getD_mem hi)),has_not.2 fun hm=>?_⟩;obtain ⟨j,hj,e⟩:=List.mem_iff_getElem.1 hm
  have hj':j<i:=by simp at hj;omega
  rw[List.getElem_take,P0.getD_get _ _ hi] at e;rw[List.Nodup,List.pairwise_iff_getElem] at h2;exact h2 j i (by omega) hi hj' e
theorem asc_iff {zs:List Int}:asc zs=true ↔ zs.Pairwise (· < ·):=by
 unfold asc;rw[to_iff,List.pairwise_iff_getElem];constructor
 ·intro h i j hi hj hij
  induction j with
  | zero=>omega
  | succ j ih=>
   have hs:=h (j+1) hj;simp only[ascAt,Bool.or_eq_true,decide_eq_true_eq,Nat.add_sub_cancel] at hs
   have hs':zs[j]<zs[j+1]:=by
    rcases hs with hs | hs
    ·omega
    ·rw[P0.getD_get _ _ (by omega),P0.getD_get _ _ hj] at hs
     exact hs
   by_cases e:i=j
   ·subst e
    exact hs'
   ·exact Int.lt_trans (ih (by omega) (by omega)) hs'
 ·intro h i hi
  simp only[ascAt,Bool.or_eq_true,decide_eq_true_eq]
  by_cases e:i=0
  ·exact Or.inl e
  ·right
   rw[P0.getD_get _ _ (by omega),P0.getD_get _ _ hi];exact h (i-1) i (by omega) hi (by omega)
theorem asc_nodup {zs:List Int} (h:asc zs=true):zs.Nodup:=(asc_iff.1 h).imp fun h e=>by omega
theorem up_iff {zs:List Int} {a b:Int}:up zs a b=true ↔ (∀ z ∈ zs,a<=z/\z<=b)/\asc zs=true:=by
 unfold up asc;rw[to_iff,to_iff];constructor
 ·intro h
  refine ⟨fun z hz=>?_,fun i hi=>?_⟩
  ·obtain ⟨i,hi,rfl⟩:=mem_getD hz
   have:=h i hi;simp only[upAt,Bool.and_eq_true] at this;exact inB_iff.1 this.1
  ·have:=h i hi
   simp only[upAt,Bool.and_eq_true] at this;exact this.2
 ·rintro ⟨h1,h2⟩ i hi
  simp only[upAt,Bool.and_eq_true];exact ⟨inB_iff.2 (h1 _ (getD_mem hi)),h2 i hi⟩
theorem apart_iff {pg po:List Int}:apart pg po=true ↔ ∀ z ∈ po,¬ z ∈ pg:=by
 unfold apart;rw[to_iff];constructor
 ·intro h z hz
  obtain ⟨i,hi,rfl⟩:=mem_getD hz;have:=h i hi;simp only[apAt,Bool.not_eq_true'] at this;exact has_not.1 this
 ·intro h i hi
  simp only[apAt,Bool.not_eq_true'];exact has_not.2 (h _ (getD_mem hi))
theorem frTo_iff {fr:List Int} {ino:Int}:to (frAt fr ino) fr.length=true ↔ (∀ z ∈ fr,1<=z/\z<=7)/\¬ ino ∈ fr:=by
 rw[to_iff];constructor
 ·intro h
  refine ⟨fun z hz=>?_,fun hm=>?_⟩
  ·obtain ⟨i,hi,rfl⟩:=mem_getD hz
   have:=h i hi;simp only[frAt,Bool.and_eq_true] at this;exact inB_iff.1 this.1
  ·obtain ⟨i,hi,e⟩:=mem_getD hm
   have:=h i hi;simp only[frAt,Bool.and_eq_true,Bool.not_eq_true',decide_eq_false_iff_not] at this;exact this.2 e
 ·rintro ⟨h1,h2⟩ i hi
  simp only[frAt,Bool.and_eq_true,Bool.not_eq_true',decide_eq_false_iff_not];exact ⟨inB_iff.2 (h1 _ (getD_mem hi)),fun e=>h2 (e ▸ getD_mem hi)⟩
theorem sOk_eq (d:Ln):sOk d=loanOk d:=by
 rw[Bool.eq_iff_iff]
 by_cases hP:sFirst d=true
 ·have h:=hP
  simp only[sFirst,Bool.and_eq_true,Bool.not_eq_true',decide_eq_true_eq,decide_eq_false_iff_not,inB_iff] at h;obtain ⟨hI,hk,hi,hc,hu,hz,hs⟩:=h;have hg:=O0.got hI;have hpg:=pagesOk_iff.1 hg.2.2.2.1;rw[hz] at hpg;simp only[sOk,loanOk,hP,past,nums,poolOk,hI,hk,hz,hs,Bool.and_eq_true,Bool.true_and,decide_true,decide_false,Bool.not_false,decide_eq_true_eq,sDir,sLast];rw[apart_iff,up_iff,up_iff,pagesOk_iff];constructor
  ·rintro ⟨h1,h2,⟨h3,h4⟩,h5,⟨h6,h7⟩,h8,h9,h10⟩
   refine ⟨h2,⟨by omega,by omega,by omega,by omega,by omega⟩,⟨h5,h4,?_,?_⟩,?_⟩
   ·intro z hz'
    rcases List.mem_append.1 hz' with h | h
    ·exact hpg.1 z h
    ·exact h3 z h
   ·exact List.nodup_append.2 ⟨hpg.2,asc_nodup h4,fun a ha b hb e=>h1 b hb (e ▸ ha)⟩
   ·unfold freshOk
    by_cases k2:G0.gK d.rc=2
    ·rw[if_pos k2]
     simp only[Bool.and_eq_true,decide_eq_true_eq];exact ⟨h8,h7,frTo_iff.2 ⟨h6,has_not.1 (by simpa using h9)⟩⟩
    ·rw[if_neg k2]
     simp only[k2,decide_false,Bool.false_or,decide_eq_true_eq,Bool.or_eq_true,false_or] at h10
     simpa using h10
  ·rintro ⟨h2,⟨n1,n2,n3,n4,n5⟩,⟨h5,h4,h3,hnd⟩,hf⟩
   have hnd':=List.nodup_append.1 hnd
   have hfr:up d.fr 1 7=true/\d.fr.length<=2/\(!P0.has d.fr d.ino)=true/\(decide (G0.gK d.rc=2) || decide (d.fr.length=0))=true:=by
    unfold freshOk at hf
    by_cases k2:G0.gK d.rc=2
    ·rw[if_pos k2] at hf
     simp only[Bool.and_eq_true,decide_eq_true_eq] at hf;obtain ⟨f1,f2,f3⟩:=hf;obtain ⟨f4,f5⟩:=frTo_iff.1 f3;exact ⟨up_iff.2 ⟨f4,f2⟩,f1,by simpa using has_not.2 f5,by simp[k2]⟩
    ·rw[if_neg k2] at hf
     have h0:d.fr=[]:=List.eq_nil_of_length_eq_zero (by simpa using hf);rw[h0];exact ⟨rfl,by decide,rfl,by simp⟩
   obtain ⟨q1,q2,q3,q4⟩:=hfr;exact ⟨fun z hz' hz2=>hnd'.2.2 z hz2 z hz' rfl,h2,⟨fun z hz'=>h3 z (List.mem_append.2 (Or.inr hz')),h4⟩,h5,up_iff.1 q1,q2,q3,q4⟩
 ·have h1:sFirst d=false:=by simpa using hP
  simp only[sOk,h1,Bool.false_and,Bool.false_eq_true,false_iff];intro hl
  apply hP
  simp only[loanOk,past,nums,Bool.and_eq_true,decide_eq_true_eq] at hl;obtain ⟨⟨a1,a2,a3,a4,a5⟩,⟨b1,b2,b3,b4,b5⟩,-⟩:=hl;simp only[sFirst,Bool.and_eq_true,decide_eq_true_eq,inB_iff];exact ⟨a1,a2,⟨b1,by omega⟩,⟨b3,b4⟩,by simp;omega,a3,a4⟩
theorem loanOk_is {d:Ln} (h:loanOk d=true):G0.isI d.rc=true/\G0.gK d.rc≠0/\G0.gZ d.rc=d.pg/\d.sav.size=d.pg.length*32/\(0<=d.ino/\d.ino<=7)/\(0<=d.cl/\d.cl<=8)/\d.pg.length<=6/\d.po.length<=4/\d.fr.length<=2/\P0.pagesOk (d.pg++d.po)=true/\(∀ z ∈ d.fr,1<=z/\z<=7)/\asc d.po=true/\asc d.fr=true:=by
 have h':=h;rw[<- sOk_eq] at h';simp only[sOk,sFirst,sLast,Bool.and_eq_true,decide_eq_true_eq,inB_iff,Bool.not_eq_true',decide_eq_false_iff_not] at h';obtain ⟨⟨a1,a2,a3,a4,a5,a6,a7⟩,-,-,b1,b2,b3,b4,-⟩:=h';simp only[loanOk,poolOk,Bool.and_eq_true] at h;have hp:=h.2.2.1.2.2;rw[a6] at hp;have:=(O0.got a1).2.1;rw[a6] at this;exact ⟨a1,a2,a6,a7,a3,a4,this,b2,b4,hp,(up_iff.1 b3).1,(up_iff.1 b1).2,(up_iff.1 b3).2⟩
end N0
namespace I2
open ChangeShapes WideShapes ChangeAt RowKit Go.Joins
open P1 (ret_bool quiet_bool)
open I0 (val vals)
section Args
variable {H : Type} {enc : TypeId × Value → H} {w : World}
theorem take_row {w:World} {b off:Nat} {zs:List Int} {n:Nat} (hb:b<w.heap.size) (hn:n<=zs.length) (hc:∀ j,j<zs.length->Ce w b (off+j) (Iv (zs.getD j 0))):P0.Row w (some ⟨b,off,none⟩) (zs.take n):=by
 refine Or.inr ⟨b,off,rfl,hb,fun j hj=>?_⟩
 have hj':j<n:=by simp at hj;omega
 rw[hc j (by omega)]
 congr 2
 simp[List.getD,hj']
theorem cell_lt {w:World} {a:Addr} {v:Value} (h:w.cell? a=some v):a.block<w.heap.size:=by
 unfold World.cell? at h
 cases hb:w.heap[a.block]? with
 | none=>simp[hb] at h
 | some o=>exact (Array.getElem?_eq_some_iff.1 hb).1
theorem open_row {fuel:Nat} {v:Value} {x:DataW H × List MemPlace} (h:DataW.trod enc prog w 0 (fun _=>true) true fuel 32 [v]=some x) :
  ∃ (a:Option Addr) (c:Nat) (zs:List Int),v=.slice a zs.length c/\zs.length<=c/\c<=maxLen/\P0.Row w a zs:=by
 rcases open_ints underlying32 underlying3 (by kernel_rfl) h with ⟨hcs,_⟩ | ⟨a,len,cap,zs,hcs,_,hl,hm,hz,_,hcell,_⟩
 ·simp at hcs
  exact ⟨none,0,[],hcs,Nat.le_refl _,Nat.zero_le _,Or.inl rfl⟩
 ·simp at hcs hz
  have hlen:(zs.take len).length=len:=by simp;omega
  by_cases h0:zs.length=0
  ·have hl0:len=0:=by omega
   refine ⟨some a,cap,[],?_,Nat.zero_le _,hm,Or.inl rfl⟩;rw[hcs,hl0];rfl
  ·obtain ⟨b,off,rfl,hc⟩:=ints_at hcell (by omega)
   have hb:b<w.heap.size:=cell_lt (hc 0 (by omega));exact ⟨some ⟨b,off,none⟩,cap,zs.take len,by rw[hcs,hlen],by omega,hm,take_row hb (by omega) hc⟩
end Args
def left (l:Int) (n:Nat):Int:=if l-n<0 then -1 else l-n
theorem szIntS (a:Option Addr) (c n:Nat) (l:Int) (w:World) (hn:n<=maxLen) (h0:0<=l) (h1:l<=1048576) :
  Calls prog 57 #[.slice a n c,Iv l] w (Rw (Iv (left l n)) w):=by
 unfold maxLen at hn
 by_cases h:l-(n:Int)<0
 ·have e:left l n = -1:=if_pos h
  rw[e];go_enter func57,ntmps57;go_wp2;go_ret;exact ⟨rfl,rfl⟩
 ·have e:left l n=l-(n:Int):=if_neg h
  rw[e];go_enter func57,ntmps57;go_wp2;go_ret;exact ⟨rfl,rfl⟩
abbrev ints (zs:List Int):List Value:=zs.map fun z=>.int .i64 z
theorem row_of_blk {W:World} {g:Nat} {zs:List Int} (h:K0.Blk g (ints zs) W):P0.Row W (some ⟨g,0,none⟩) zs:=by
 refine Or.inr ⟨g,0,rfl,h.lt,fun j hj=>?_⟩;rw[Nat.zero_add,h.cell j (by simpa using hj)];simp[List.getD,hj]
def fill (zs:List Int) (k:Nat):List Value:=ints (zs.take k)++List.replicate (zs.length-k) (.int .i64 0)
theorem fill_zero (zs:List Int):fill zs 0=List.replicate zs.length (Iv 0):=by simp[fill]
theorem fill_all (zs:List Int):fill zs zs.length=ints zs:=by simp[fill]
theorem fill_length (zs:List Int) (k:Nat) (h:k<=zs.length):(fill zs k).length=zs.length:=by simp[fill];omega
theorem fill_succ (zs:List Int) (k:Nat) (h:k<zs.length):(fill zs k).set k (Iv (zs.getD k 0))=fill zs (k+1):=by
 unfold fill
 have e:zs.length-k=(zs.length-(k+1))+1:=by omega
 rw[e,List.replicate_succ,List.take_succ_eq_append_getElem h,ints,ints,List.map_append,List.set_append_right _ _ (by simp;omega)]
 have hm:min k zs.length=k:=by omega
 simp[hm,List.getD,h]
theorem info3:(prog.info? 3).map (fun i=>(i.zero,i.size,i.bytes))=some (some (Iv 0),1,8):=by kernel_rfl
theorem make_ints (n:Nat) (hn:n<=1048576) (W:World):(Instr.makeSlice 32 (Iv (n:Int)) (Iv (n:Int))).run prog W=.ok (Sv W.heap.size n n) (W.alloc (.cells (List.replicate n (Value.int .i64 0)).toArray 3)):=by
 obtain ⟨i0,hi,hz0,hz1,hz2⟩:=info_parts info3;have h:=run_make (P:=prog) W 32 3 i0 (Iv 0) underlying32 hi hz0 .i64 .i64 (n:Int) (n:Int) (by omega) (by omega) (by rw[hz2];omega) (by omega)
 have e:madeCells (Value.int .i64 0).cells (n*i0.size)=(List.replicate n (Value.int .i64 0)).toArray:=by
  apply Array.toList_inj.1
  rw[show (Value.int .i64 0).cells=#[Value.int .i64 0] from rfl,toList_madeCells_one,hz1]
  simp
 rw[show ((n:Int)).toNat=n by omega,e] at h;exact h
theorem toIntS (a:Option Addr) (c:Nat) (zs:List Int) (w:World) (hn:zs.length<=1048576) (hR:P0.Row w a zs) :
  Calls prog 77 #[.slice a zs.length c] w fun e w'=>∃ g,e=.returned (Sv g zs.length zs.length)/\w.heap.size<=g/\K0.Blk g (ints zs) w'/\Bq w w':=by
 have hmk:=make_ints zs.length hn;have hb0:=K0.blk_new (List.replicate zs.length (Value.int .i64 0)) w 3;have hl0:=K0.below_new w (.cells (List.replicate zs.length (Value.int .i64 0)).toArray 3);obtain ⟨W0,hW0⟩:∃ W0,w.alloc (.cells (List.replicate zs.length (Value.int .i64 0)).toArray 3)=W0:=⟨_,rfl⟩;have hmk0:=hmk w;rw[hW0] at hb0 hl0 hmk0;clear hmk hW0;go_enter func77,ntmps77;go_wp2
 go_loopw [4] (fun i w'=>∃ k:Nat,k<=zs.length/\i=Iv k/\K0.Blk w.heap.size (fill zs k) w'/\Bq w w') (fun i _=>zs.length-(intOf i).toNat)
 case atStart=>exact ⟨0,Nat.zero_le _,rfl,by rw[fill_zero];exact hb0,hl0⟩
 case round=>
  obtain ⟨k,hk,rfl,hblk,hbel⟩:=hrel
  by_cases hlt:k<zs.length
  ·obtain ⟨b,off,rfl,hb,hc⟩:=(hR.below hbel).get hlt
   have x1:=hc k hlt;have x2:=hblk.cell k (by rw[fill_length _ _ hk];exact hlt);have x3:=hblk.free k (by rw[fill_length _ _ hk];exact hlt);obtain ⟨u,x4⟩:∃ u,Ce wr w.heap.size k u:=⟨_,x2⟩
   have HB:Hid (K0.Blk w.heap.size (fill zs (k+1)) (wr.setCell ⟨w.heap.size,k,none⟩ (Iv (zs.getD k 0)))):=by rw[<- fill_succ zs k hlt];exact hblk.set k _
   obtain ⟨z,ez⟩:∃ z,zs.getD k 0=z:=⟨_,rfl⟩;rw[ez] at x1 HB
   have e1:(0:Int)<=(k:Int):=by omega
   have e2:(k:Int)<(zs.length:Int):=by omega
   clear x2 ez hc hblk hR hb0 hl0 hmk0;go_wp2
   go_roundw
   case rel=>exact ⟨k+1,by omega,by go_num,HB.out,hbel.setCell (p:=⟨w.heap.size,k,none⟩) (Nat.le_refl _) _⟩
   case measure=>simp[intOf];omega
  ·obtain rfl:k=zs.length:=by omega
   rw[fill_all] at hblk;clear hR hb0 hl0 hmk0;go_wp2;go_ret;exact ⟨_,rfl,Nat.le_refl _,hblk,hbel⟩
theorem eqIntS (a1 a2:Option Addr) (c1 c2:Nat) (zs:List Int) (w:World) (hn:zs.length<=281474976710656) (h1:P0.Row w a1 zs) (h2:P0.Row w a2 zs) :
  Calls prog 9 #[.slice a1 zs.length c1,.slice a2 zs.length c2] w fun e w'=>e=.returned (.bool true)/\∃ n,w'=w.drewN n:=by
 go_enter func9,ntmps9;go_wp2
 go_loopw [5] (fun i w'=>∃ k n:Nat,k<=zs.length/\w'=w.drewN n/\i=Iv k) (fun i _=>zs.length-(intOf i).toNat)
 case atStart=>exact ⟨0,0,Nat.zero_le _,rfl,rfl⟩
 case round=>
  obtain ⟨k,n,hk,rfl,rfl⟩:=hrel
  by_cases hlt:k<zs.length
  ·have e1:(0:Int)<=(k:Int):=by omega
   have e2:(k:Int)<(zs.length:Int):=by omega
   obtain ⟨b1,off1,rfl,hb1,hc1⟩:=h1.get hlt;obtain ⟨b2,off2,rfl,hb2,hc2⟩:=h2.get hlt;have x1:=hc1 k hlt;have x2:=hc2 k hlt;obtain ⟨z,ez⟩:∃ z,zs.getD k 0=z:=⟨_,rfl⟩;rw[ez] at x1 x2;clear ez hc1 hc2 h1 h2;go_wp2
   go_quiet (fail)
   go_wp2
   go_roundw
   case rel=>exact ⟨k+1,_,by omega,rfl,by go_num⟩
   case measure=>simp[intOf];omega
  ·clear h1 h2
   go_wp2;go_ret;exact ⟨rfl,_,rfl⟩
structure Three (w:World) (k o s:Int) (a:Option Addr) (n c:Nat) (W:World):Prop where
 arg:K0.Blk w.heap.size (vals k o s a n c) W
 res:K0.Blk (w.heap.size+1) (vals 0 0 0 none 0 0) W
 tmp:K0.Blk (w.heap.size+2) (vals k o s none 0 0) W
 bel:Bq w W
theorem Three.below {w W W':World} {k o s:Int} {a:Option Addr} {n c:Nat} (h:Three w k o s a n c W) (hb:Bq W W'):Three w k o s a n c W':=
 ⟨h.arg.below hb,h.res.below hb,h.tmp.below hb,h.bel.trans (hb.mono (Nat.le_of_lt h.arg.lt))⟩
end I2
namespace J0
open ChangeShapes WideShapes ChangeAt RowKit
open I2 (ints)
def IBuf (base:Nat) (w:World) (a:Option Addr) (n cap:Nat) (zs:List Int):Prop:=n=zs.length/\w.ownsRow base 3 1 (.slice a n cap) n (ints zs)
variable {base n cap : Nat} {a : Option Addr} {w W : World} {zs : List Int}
theorem blk_keep {B B0:Nat} {vs:List Value} (h:K0.Blk B vs w) (hb:Below B0 w W) (hlt:B<B0):K0.Blk B vs W:=
 ⟨fun j hj=>(hb.cell (p:=⟨B,j,none⟩) hlt).trans (h.cell j hj),fun j hj=>(hb.frozen (p:=⟨B,j,none⟩) hlt).trans (h.free j hj),Nat.lt_of_lt_of_le h.lt hb.size⟩
theorem IBuf.below (h:IBuf base w a n cap zs) (hb:Bq w W):IBuf base W a n cap zs:=⟨h.1,F0.owns_below h.2 hb⟩
theorem IBuf.alloc (h:IBuf base w a n cap zs) (o:Obj):IBuf base (w.alloc o) a n cap zs:=h.below ((Below.refl _ _).alloc (Nat.le_refl _) o)
theorem IBuf.drew (h:IBuf base w a n cap zs):IBuf base w.drew a n cap zs:=h
theorem IBuf.drewN (h:IBuf base w a n cap zs) (m:Nat):IBuf base (w.drewN m) a n cap zs:=h
theorem ibuf_nil (w:World):IBuf base w none 0 0 []:=⟨rfl,rfl,Or.inl ⟨rfl,rfl⟩⟩
theorem ibuf_made (w:World) (hb:base<=w.heap.size):IBuf base (w.alloc (.cells #[] 3)) (some ⟨w.heap.size,0,none⟩) 0 0 []:=⟨rfl,World.ownsRow_made w #[] 0 hb (Nat.zero_le _) rfl⟩
theorem IBuf.fits (h:IBuf base w a n cap zs):n<=cap:=by
 rcases h.2.2 with ⟨h0,h1⟩ | ⟨g,c,cur,hv,_,_,hle,_⟩
 ·omega
 ·simp at hv
  omega
def Own (base:Nat) (W:World) (a:Option Addr) (zs:List Int):Prop:=zs=[]\/∃ g,a=some ⟨g,0,none⟩/\base<=g/\K0.Blk g (ints zs) W
theorem IBuf.own (h:IBuf base w a n cap zs):Own base w a zs:=by
 rcases h.2.2 with ⟨h0,h1⟩ | ⟨g,c,cur,hv,hg,hc,hle,_,hs,ht⟩
 ·left
  exact List.eq_nil_of_length_eq_zero (by rw[<- h.1];exact h1)
 ·right
  simp at hv;refine ⟨g,hv.1,hg,⟨fun j hj=>?_,fun j hj=>?_,(Array.getElem?_eq_some_iff.1 hc).1⟩⟩
  ·have hcell:w.cell? ⟨g,j,none⟩=cur[j]?:=by
    unfold World.cell?;rw[hc];simp
   have hj':j<zs.length:=by simpa using hj
   have e1:(cur.toList.take (n*1))[j]? = (ints zs)[j]?:=by rw[ht]
   rw[List.getElem?_take_of_lt (by have:=h.1;omega)] at e1;rw[hcell,<- Array.getElem?_toList,e1];simp[hj']
  ·unfold World.frozen?
   rw[hc];simp
theorem Own.row (h:Own base W a zs):P0.Row W a zs:=by
 rcases h with h | ⟨g,rfl,_,hb⟩
 ·exact Or.inl h
 ·exact I2.row_of_blk hb
theorem Own.below {W':World} (h:Own base W a zs) (hb:Bq W W'):Own base W' a zs:=by
 rcases h with h | ⟨g,e,hg,hk⟩
 ·exact Or.inl h
 ·exact Or.inr ⟨g,e,hg,hk.below hb⟩
theorem Own.alloc (h:Own base W a zs) (o:Obj):Own base (W.alloc o) a zs:=h.below ((Below.refl _ _).alloc (Nat.le_refl _) o)
theorem Own.drew (h:Own base W a zs):Own base W.drew a zs:=h.imp id fun ⟨g,e,hg,hk⟩=>⟨g,e,hg,hk.drew⟩
theorem Own.drewN (h:Own base W a zs) (m:Nat):Own base (W.drewN m) a zs:=h.imp id fun ⟨g,e,hg,hk⟩=>⟨g,e,hg,hk.drewN m⟩
theorem Own.mono {base':Nat} (h:Own base W a zs) (hb:base'<=base):Own base' W a zs:=by
 rcases h with h | ⟨g,e,hg,hk⟩
 ·exact Or.inl h
 ·exact Or.inr ⟨g,e,Nat.le_trans hb hg,hk⟩
theorem Own.set (h:Own base W a zs) {B:Nat} (hB:B<base) (j:Nat) (v:Value):Own base (W.setCell ⟨B,j,none⟩ v) a zs:=by
 rcases h with h | ⟨g,e,hg,hk⟩
 ·exact Or.inl h
 ·exact Or.inr ⟨g,e,hg,hk.setOther (by omega) j v⟩
theorem one_int (c:Int):∀ u ∈ [Value.int .i64 c],u.oneCell'=true:=by
 intro u h;simp at h;subst h;rfl
theorem own_block (h:IBuf base w a n cap zs):∀ g,(Value.slice a n cap).ownBlock=some g->base<=g:=fun g hg=>(h.2.lt g hg).1
theorem ints_snoc (zs:List Int) (z:Int):ints zs ++ [Iv z]=ints (zs ++ [z]):=by simp
theorem append_int {ops:Array Oper} {rest:List Oper} {o:Oper} {A:Act} {Q:Exit->Act->World->Prop} (hgd:o.guard=none) (sl x:Operand)
  (ho:o.op=.call { callee:=.builtin .append,args:=#[sl,x],argTypes:=#[32,32] })
  (hbuf:IBuf base w a n cap zs) (z:Int) (hs:A.eval sl=.slice a n cap) (hx:A.eval x=Sv w.heap.size 1 1) (hlen:n+1<=1048576) (hb:base<=w.heap.size)
  (h:∀ g' cap' w',IBuf base w' (some ⟨g',0,none⟩) (n+1) cap' (zs ++ [z])->Below base w w'->wpList prog ops Q rest (A.put o.dst (Sv g' (n+1) cap')) w'):wpList prog ops Q (o :: rest) A (w.alloc (.cells #[Iv z] 3)):=by
 obtain ⟨i0,hi,hz0,hz1,hz2⟩:=info_parts I2.info3;have hb2:=hbuf.alloc (.cells #[Iv z] 3);refine wpList_append_lies _ hgd sl x 32 ho base 3 i0 (Iv 0) 1 8 underlying32 hi hz0 hz1 hz2 rfl (by omega) _ n _ hs hb2.2 ⟨w.heap.size,0,none⟩ 1 1 [Iv z] hx rfl (World.news_of_block (heap_alloc_new w _)) (one_int z) (by omega) (by unfold maxLen;omega) (by omega) (by simp;omega) _ rfl ?_;intro g' cap' w' ho' hg' _ _;refine h g' cap' w' ⟨by rw[hbuf.1];simp,?_⟩ ?_
 ·rw[<- ints_snoc]
  exact ho'
 ·exact F0.below_grown ((Below.refl _ _).alloc hb _) hg' (own_block hbuf) (by simp;omega)
theorem step_int {ops:Array Oper} {o:Oper} {A:Act} {K:Act->World->Prop} {Q:Exit->Act->World->Prop} {E:Prop} (hgd:o.guard=none) (sl x:Operand)
  (ho:o.op=.call { callee:=.builtin .append,args:=#[sl,x],argTypes:=#[32,32] })
  (hbuf:IBuf base w a n cap zs) (z:Int) (hs:A.eval sl=.slice a n cap) (hx:A.eval x=Sv w.heap.size 1 1) (hlen:n+1<=1048576) (hb:base<=w.heap.size)
  (h:∀ g' cap' w',IBuf base w' (some ⟨g',0,none⟩) (n+1) cap' (zs ++ [z])->Below base w w'->K (A.put o.dst (Sv g' (n+1) cap')) w') :
  if Region.wanted o (yielded ops A.tmps)=true then Oper.wp prog o A (w.alloc (.cells #[Iv z] 3)) K Q else E:=by
 obtain ⟨i0,hi,hz0,hz1,hz2⟩:=info_parts I2.info3;have hb2:=hbuf.alloc (.cells #[Iv z] 3);refine step_append_lies _ hgd sl x 32 ho base 3 i0 (Iv 0) 1 8 underlying32 hi hz0 hz1 hz2 rfl (by omega) _ n _ hs hb2.2 ⟨w.heap.size,0,none⟩ 1 1 [Iv z] hx rfl (World.news_of_block (heap_alloc_new w _)) (one_int z) (by omega) (by unfold maxLen;omega) (by omega) (by simp;omega) _ rfl ?_;intro g' cap' w' ho' hg' _ _;refine h g' cap' w' ⟨by rw[hbuf.1];simp,?_⟩ ?_
 ·rw[<- ints_snoc]
  exact ho'
 ·exact F0.below_grown ((Below.refl _ _).alloc hb _) hg' (own_block hbuf) (by simp;omega)
end J0
namespace N1
open ChangeShapes WideShapes ChangeAt RowKit Go.Joins Go.Deep
open N0 (Ln)
structure Sl where
 a1:Option Addr
 c1:Nat
 a2:Option Addr
 c2:Nat
 a3:Option Addr
 c3:Nat
abbrev vals (d:Ln) (s:Sl):List Value:=[.int .i64 d.ino,.int .i64 d.cl,.int .i64 d.un,.string d.rc,.slice s.a1 d.pg.length s.c1,.string d.sav,.slice s.a2 d.po.length s.c2,.slice s.a3 d.fr.length s.c3]
abbrev val (d:Ln) (s:Sl):Value:=.agg #[.int .i64 d.ino,.int .i64 d.cl,.int .i64 d.un,.string d.rc,.slice s.a1 d.pg.length s.c1,.string d.sav,.slice s.a2 d.po.length s.c2,.slice s.a3 d.fr.length s.c3]
abbrev Lc (d:Ln) (s:Sl):Array Value:=#[.int .i64 d.ino,.int .i64 d.cl,.int .i64 d.un,.string d.rc,.slice s.a1 d.pg.length s.c1,.string d.sav,.slice s.a2 d.po.length s.c2,.slice s.a3 d.fr.length s.c3]
structure Lists (W:World) (d:Ln) (s:Sl):Prop where
 r1:P0.Row W s.a1 d.pg
 r2:P0.Row W s.a2 d.po
 r3:P0.Row W s.a3 d.fr
structure FitM (d:Ln) (s:Sl):Prop where
 l1:d.pg.length<=maxLen
 l2:d.po.length<=maxLen
 l3:d.fr.length<=maxLen
 m4:d.rc.size<=maxLen
 m5:d.sav.size<=maxLen
structure Fit (d:Ln) (s:Sl):Prop where
 p1:d.pg.length<=281474976710656
 m4:d.rc.size<=281474976710656
 m5:d.sav.size<=281474976710656
variable {W W' : World} {d : Ln} {s : Sl}
theorem Lists.below (h:Lists W d s) (hb:Bq W W'):Lists W' d s:=⟨h.r1.below hb,h.r2.below hb,h.r3.below hb⟩
theorem Lists.alloc (h:Lists W d s) (o:Obj):Lists (W.alloc o) d s:=⟨h.r1.alloc o,h.r2.alloc o,h.r3.alloc o⟩
theorem Lists.drewN (h:Lists W d s) (n:Nat):Lists (W.drewN n) d s:=⟨h.r1,h.r2,h.r3⟩
theorem Lists.drew (h:Lists W d s):Lists W.drew d s:=⟨h.r1,h.r2,h.r3⟩
section Args
variable {H : Type} {enc : TypeId × Value → H} {w : World}
theorem cells:prog.cellsOf 70=8:=by kernel_rfl
end Args
structure LB (B:Nat) (d:Ln) (s:Sl) (W:World):Prop where
 b:K0.Blk B (vals d s) W
variable {B : Nat}
theorem LB.c0 (h:LB B d s W):Ce W B 0 (Iv d.ino):=h.b.cell 0 (by simp)
theorem LB.c1 (h:LB B d s W):Ce W B 1 (Iv d.cl):=h.b.cell 1 (by simp)
theorem LB.c2 (h:LB B d s W):Ce W B 2 (Iv d.un):=h.b.cell 2 (by simp)
theorem LB.c3 (h:LB B d s W):Ce W B 3 (.string d.rc):=h.b.cell 3 (by simp)
theorem LB.c4 (h:LB B d s W):Ce W B 4 (.slice s.a1 d.pg.length s.c1):=h.b.cell 4 (by simp)
theorem LB.c5 (h:LB B d s W):Ce W B 5 (.string d.sav):=h.b.cell 5 (by simp)
theorem LB.c6 (h:LB B d s W):Ce W B 6 (.slice s.a2 d.po.length s.c2):=h.b.cell 6 (by simp)
theorem LB.c7 (h:LB B d s W):Ce W B 7 (.slice s.a3 d.fr.length s.c3):=h.b.cell 7 (by simp)
theorem LB.below (h:LB B d s W) (hb:Bq W W'):LB B d s W':=⟨h.b.below hb⟩
theorem lb_new (d:Ln) (s:Sl) (w:World) (T:TypeId):LB w.heap.size d s (w.alloc (.cells (N1.Lc d s) T)):=⟨K0.blk_new (vals d s) w T⟩
end N1
namespace N2
open ChangeShapes WideShapes ChangeAt RowKit
open P1 (ret_bool quiet_bool)
theorem hasRow (a:Option Addr) (c:Nat) (zs:List Int) (x:Int) (w:World) (hbig:zs.length<=281474976710656) (hR:P0.Row w a zs) :
  Calls prog 64 #[.slice a zs.length c,Iv x] w (Rw (.bool (P0.has zs x)) w):=by
 by_cases h0:zs=[]
 ·subst h0
  go_enter func64,ntmps64;go_wp2
  go_loop [5] (fun i=>i=Iv 0) (fun _=>0)
  case atStart=>rfl
  case round=>
   subst hrel;go_wp2;go_ret;exact ⟨rfl,rfl⟩
 ·rcases hR with h | ⟨b,off,rfl,hb,hc⟩
  ·exact absurd h h0
  ·have:=P1.l02Has b off zs.length c zs x w (Nat.le_refl _) hbig hc
   rw[List.take_length] at this;exact this
theorem containsRow (a:Option Addr) (c:Nat) (zs:List Int) (x:Int) (w:World) (hbig:zs.length<=281474976710656) (hR:P0.Row w a zs) :
  Calls prog 130 #[.slice a zs.length c,Iv x] w (Rw (.bool (P0.has zs x)) w):=by
 by_cases h0:zs=[]
 ·subst h0
  exact Tryz.slices_Contains_int_empty a c x w
 ·rcases hR with h | ⟨b,off,rfl,hb,hc⟩
  ·exact absurd h h0
  ·have:=P1.impl_Contains b off zs.length c zs x w (Nat.le_refl _) hbig hc
   rw[List.take_length] at this;exact this
theorem ascends (a:Option Addr) (c:Nat) (zs:List Int) (w:World) (hbig:zs.length<=281474976710656) (hR:P0.Row w a zs) :
  Calls prog 100 #[.slice a zs.length c] w fun e w'=>e=.returned (.bool (N0.asc zs))/\∃ n,w'=w.drewN n:=by
 go_enter func100,ntmps100;go_wp2
 go_loopw [3] (fun i w'=>∃ k n:Nat,1<=k/\(k<=zs.length\/k=1)/\N0.to (N0.ascAt zs) k=true/\i=Iv k/\w'=w.drewN n) (fun i _=>zs.length-(intOf i).toNat)
 case atStart=>exact ⟨1,0,Nat.le_refl _,Or.inr rfl,rfl,rfl,rfl⟩
 case round=>
  obtain ⟨k,n,hk1,hk,hok,rfl,hW⟩:=hrel
  have HW:Hid (∀ m,∃ m',wr.drewN m=w.drewN m'):=fun m=>⟨n+m,by rw[hW,World.drewN_drewN]⟩
  by_cases hlt:k<zs.length
  ·have hR':P0.Row wr a zs:=by rw[hW];exact hR.drewN n
   obtain ⟨b,off,rfl,hb,hc⟩:=hR'.get hlt;have x1:=hc k hlt;have x2:=hc (k-1) (by omega);have hat:N0.ascAt zs k=(decide (k=0) || decide (zs.getD (k-1) 0<zs.getD k 0)):=rfl;obtain ⟨z,ez⟩:∃ z,zs.getD k 0=z:=⟨_,rfl⟩;obtain ⟨y,ey⟩:∃ y,zs.getD (k-1) 0=y:=⟨_,rfl⟩;rw[ez] at x1 hat;rw[ey] at x2 hat
   have e1:(0:Int)<=(k:Int):=by omega
   have e2:(k:Int)<(zs.length:Int):=by omega
   have e3:(0:Int)<=(k:Int)-1:=by omega
   have e4:(k:Int)-1<(zs.length:Int):=by omega
   have e5:((k:Int)-1).toNat=k-1:=by omega
   by_cases h:z<=y
   ·have HR:Hid (N0.asc zs=false):=N0.to_bad hlt (by rw[hat,decide_eq_false (by omega),decide_eq_false (by omega)];rfl)
    clear hat hok ez ey hc hR hR' hW;go_wp2
    go_quiet (fail)
    go_wp2;go_ret;exact ⟨ret_bool HR.out.symm,HW.out _⟩
   ·have h':decide (z<=y)=false:=by simpa using h
    have HO:Hid (N0.to (N0.ascAt zs) (k+1)=true):=N0.to_step hok (by rw[hat,decide_eq_true (show y<z by omega),Bool.or_true]);clear hat hok ez ey hc hR hR' hW;go_wp2
    go_quiet (fail)
    go_wp2;obtain ⟨m',hm'⟩:=HW.out nq
    go_roundw
    case rel=>exact ⟨k+1,m',by omega,Or.inl (by omega),HO.out,by go_num,hm'⟩
    case measure=>simp[intOf];omega
  ·have HR:Hid (N0.asc zs=true):=by
    show N0.to (N0.ascAt zs) zs.length=true
    exact N0.to_iff.2 fun i hi=>N0.to_iff.1 hok i (by omega)
   have HW0:Hid (wr=w.drewN n):=hW
   have e6:decide ((k:Int)<(zs.length:Int))=false:=by simp;omega
   clear hok hR hW;go_wp2;go_ret;exact ⟨ret_bool HR.out.symm,n,HW0.out⟩
def eqAt (xs ys:List Int) (i:Nat):Bool:=decide (xs.getD i 0=ys.getD i 0)
theorem eq_of {xs ys:List Int} (hl:xs.length=ys.length) (h:N0.to (eqAt xs ys) xs.length=true):xs=ys:=by
 apply List.ext_getElem hl
 intro i h1 h2;have:=N0.to_iff.1 h i h1;simp only[eqAt,decide_eq_true_eq] at this
 rwa [P0.getD_get _ _ h1,P0.getD_get _ _ h2] at this
theorem ne_of {xs ys:List Int} {k:Nat} (hk:¬ xs.getD k 0=ys.getD k 0):¬ xs=ys:=fun e=>hk (by rw[e])
theorem equal (a1 a2:Option Addr) (c1 c2:Nat) (xs ys:List Int) (w:World) (hb1:xs.length<=281474976710656) (hb2:ys.length<=281474976710656) (h1:P0.Row w a1 xs) (h2:P0.Row w a2 ys) :
  Calls prog 216 #[.slice a1 xs.length c1,.slice a2 ys.length c2] w fun e w'=>e=.returned (.bool (decide (xs=ys)))/\∃ n,w'=w.drewN n:=by
 by_cases hl:xs.length=ys.length
 ·have hl':((xs.length:Int) != (ys.length:Int))=false:=by simp;omega
  go_enter func216,ntmps216;go_wp2
  go_loopw [13] (fun i w'=>∃ k n:Nat,k<=xs.length/\N0.to (eqAt xs ys) k=true/\i=Iv k/\w'=w.drewN n) (fun i _=>xs.length-(intOf i).toNat)
  case atStart=>exact ⟨0,0,Nat.zero_le _,rfl,rfl,rfl⟩
  case round=>
   obtain ⟨k,n,hk,hok,rfl,hW⟩:=hrel
   have HW:Hid (∀ m,∃ m',wr.drewN m=w.drewN m'):=fun m=>⟨n+m,by rw[hW,World.drewN_drewN]⟩
   by_cases hlt:k<xs.length
   ·have h1':P0.Row wr a1 xs:=by rw[hW];exact h1.drewN n
    have h2':P0.Row wr a2 ys:=by rw[hW];exact h2.drewN n
    obtain ⟨b1,off1,rfl,_,hc1⟩:=h1'.get hlt;obtain ⟨b2,off2,rfl,_,hc2⟩:=h2'.get (by omega:k<ys.length);have x1:=hc1 k hlt;have x2:=hc2 k (by omega);have hat:eqAt xs ys k=decide (xs.getD k 0=ys.getD k 0):=rfl;have hne:¬ xs.getD k 0=ys.getD k 0->¬ xs=ys:=ne_of;obtain ⟨z,ez⟩:∃ z,xs.getD k 0=z:=⟨_,rfl⟩;obtain ⟨y,ey⟩:∃ y,ys.getD k 0=y:=⟨_,rfl⟩;rw[ez] at x1 hat hne;rw[ey] at x2 hat hne
    have e1:(0:Int)<=(k:Int):=by omega
    have e2:(k:Int)<(xs.length:Int):=by omega
    have e3:(k:Int)<(ys.length:Int):=by omega
    by_cases h:z=y
    ·have h':(z != y)=false:=by simpa using h
     have HO:Hid (N0.to (eqAt xs ys) (k+1)=true):=N0.to_step hok (by rw[hat,decide_eq_true h]);clear hat hok ez ey hc1 hc2 h1 h2 h1' h2' hW h hne hl;go_wp2
     go_quiet (fail)
     go_wp2;obtain ⟨m',hm'⟩:=HW.out nq
     go_roundw
     case rel=>exact ⟨k+1,m',by omega,HO.out,by go_num,hm'⟩
     case measure=>simp[intOf];omega
    ·have h':(z != y)=true:=by simpa using h
     have HR:Hid (decide (xs=ys)=false):=decide_eq_false (hne h);clear hat hok ez ey hc1 hc2 h1 h2 h1' h2' hW h hne hl;go_wp2
     go_quiet (fail)
     go_wp2;go_ret;exact ⟨ret_bool HR.out.symm,HW.out _⟩
   ·obtain rfl:k=xs.length:=by omega
    have HR:Hid (decide (xs=ys)=true):=decide_eq_true (eq_of hl hok);have HW0:Hid (wr=w.drewN n):=hW;have e9:decide (xs.length<ys.length)=false:=decide_eq_false (by omega);clear hok h1 h2 hW hl;go_wp2;go_ret;exact ⟨ret_bool HR.out.symm,n,HW0.out⟩
 ·have hl':((xs.length:Int) != (ys.length:Int))=true:=by simp;omega
  have HR:Hid (decide (xs=ys)=false):=decide_eq_false fun e=>hl (by rw[e])
  clear hl;go_enter func216,ntmps216;go_wp2;go_ret;exact ⟨ret_bool HR.out.symm,0,rfl⟩
theorem same (a1 a2:Option Addr) (c1 c2:Nat) (xs ys:List Int) (w:World) (hb1:xs.length<=281474976710656) (hb2:ys.length<=281474976710656) (h1:P0.Row w a1 xs) (h2:P0.Row w a2 ys) :
  Calls prog 70 #[.slice a1 xs.length c1,.slice a2 ys.length c2] w fun e w'=>e=.returned (.bool (decide (xs=ys)))/\∃ n,w'=w.drewN n:=by
 by_cases hl:xs.length=ys.length
 ·have hl':((xs.length:Int) != (ys.length:Int))=false:=by simp;omega
  go_enter func70,ntmps70;go_wp2
  go_loopw [5] (fun i w'=>∃ k n:Nat,k<=xs.length/\N0.to (eqAt xs ys) k=true/\i=Iv k/\w'=w.drewN n) (fun i _=>xs.length-(intOf i).toNat)
  case atStart=>exact ⟨0,0,Nat.zero_le _,rfl,rfl,rfl⟩
  case round=>
   obtain ⟨k,n,hk,hok,rfl,hW⟩:=hrel
   have HW:Hid (∀ m,∃ m',wr.drewN m=w.drewN m'):=fun m=>⟨n+m,by rw[hW,World.drewN_drewN]⟩
   by_cases hlt:k<xs.length
   ·have h1':P0.Row wr a1 xs:=by rw[hW];exact h1.drewN n
    have h2':P0.Row wr a2 ys:=by rw[hW];exact h2.drewN n
    obtain ⟨b1,off1,rfl,_,hc1⟩:=h1'.get hlt;obtain ⟨b2,off2,rfl,_,hc2⟩:=h2'.get (by omega:k<ys.length);have x1:=hc1 k hlt;have x2:=hc2 k (by omega);have hat:eqAt xs ys k=decide (xs.getD k 0=ys.getD k 0):=rfl;have hne:¬ xs.getD k 0=ys.getD k 0->¬ xs=ys:=ne_of;obtain ⟨z,ez⟩:∃ z,xs.getD k 0=z:=⟨_,rfl⟩;obtain ⟨y,ey⟩:∃ y,ys.getD k 0=y:=⟨_,rfl⟩;rw[ez] at x1 hat hne;rw[ey] at x2 hat hne
    have e1:(0:Int)<=(k:Int):=by omega
    have e2:(k:Int)<(xs.length:Int):=by omega
    have e3:(k:Int)<(ys.length:Int):=by omega
    by_cases h:z=y
    ·have h':(z != y)=false:=by simpa using h
     have HO:Hid (N0.to (eqAt xs ys) (k+1)=true):=N0.to_step hok (by rw[hat,decide_eq_true h]);clear hat hok ez ey hc1 hc2 h1 h2 h1' h2' hW h hne hl;go_wp2
     go_quiet (fail)
     go_wp2;obtain ⟨m',hm'⟩:=HW.out nq
     go_roundw
     case rel=>exact ⟨k+1,m',by omega,HO.out,by go_num,hm'⟩
     case measure=>simp[intOf];omega
    ·have h':(z != y)=true:=by simpa using h
     have HR:Hid (decide (xs=ys)=false):=decide_eq_false (hne h);clear hat hok ez ey hc1 hc2 h1 h2 h1' h2' hW h hne hl;go_wp2
     go_quiet (fail)
     go_wp2;go_ret;exact ⟨ret_bool HR.out.symm,HW.out _⟩
   ·obtain rfl:k=xs.length:=by omega
    have HR:Hid (decide (xs=ys)=true):=decide_eq_true (eq_of hl hok);have HW0:Hid (wr=w.drewN n):=hW;have e9:decide (xs.length<ys.length)=false:=decide_eq_false (by omega);clear hok h1 h2 hW hl;go_wp2;go_ret;exact ⟨ret_bool HR.out.symm,n,HW0.out⟩
 ·have hl':((xs.length:Int) != (ys.length:Int))=true:=by simp;omega
  have HR:Hid (decide (xs=ys)=false):=decide_eq_false fun e=>hl (by rw[e])
  clear hl;go_enter func70,ntmps70;go_wp2;go_ret;exact ⟨ret_bool HR.out.symm,0,rfl⟩
theorem l05Up (a:Option Addr) (c:Nat) (zs:List Int) (x y:Int) (w:World) (hbig:zs.length<=281474976710656) (hR:P0.Row w a zs) :
  Calls prog 94 #[.slice a zs.length c,Iv x,Iv y] w fun e w'=>e=.returned (.bool (N0.up zs x y))/\∃ n,w'=w.drewN n:=by
 go_enter func94,ntmps94;go_wp2
 go_loopw [7] (fun i w'=>∃ k n:Nat,k<=zs.length/\N0.to (N0.upAt zs x y) k=true/\i=Iv k/\w'=w.drewN n) (fun i _=>zs.length-(intOf i).toNat)
 case atStart=>exact ⟨0,0,Nat.zero_le _,rfl,rfl,rfl⟩
 case round=>
  obtain ⟨k,n,hk,hok,rfl,hW⟩:=hrel
  have HW:Hid (∀ m,∃ m',wr.drewN m=w.drewN m'):=fun m=>⟨n+m,by rw[hW,World.drewN_drewN]⟩
  by_cases hlt:k<zs.length
  ·have hR':P0.Row wr a zs:=by rw[hW];exact hR.drewN n
   obtain ⟨b,off,rfl,hb,hc⟩:=hR'.get hlt;have x1:=hc k hlt;have hat:N0.upAt zs x y k=(B1.inB (zs.getD k 0) x y && (decide (k=0) || decide (zs.getD (k-1) 0<zs.getD k 0))):=rfl
   have e1:(0:Int)<=(k:Int):=by omega
   have e2:(k:Int)<(zs.length:Int):=by omega
   by_cases g0:k=0
   ·subst g0
    obtain ⟨z,ez⟩:∃ z,zs.getD 0 0=z:=⟨_,rfl⟩;rw[ez] at x1 hat;rw[Nat.add_zero] at x1;rw[decide_eq_true rfl,Bool.true_or,Bool.and_true] at hat
    cases h1:B1.inB z x y with
    | true=>
     have HO:Hid (N0.to (N0.upAt zs x y) (0+1)=true):=N0.to_step hok (by rw[hat,h1]);clear hat hok ez hc hR hR' hW;go_wp2
     go_quiet ((go_at_call 32;exact quiet_bool (B1.l01In_any _ _ _ _) h1))
     go_wp2;obtain ⟨m',hm'⟩:=HW.out nq
     go_roundw
     case rel=>exact ⟨0+1,m',by omega,HO.out,by go_num,hm'⟩
     case measure=>simp[intOf];omega
    | false=>
     have HR:Hid (N0.up zs x y=false):=N0.to_bad hlt (by rw[hat,h1]);clear hat hok ez hc hR hR' hW;go_wp2
     go_quiet ((go_at_call 32;exact quiet_bool (B1.l01In_any _ _ _ _) h1))
     go_wp2;go_ret;exact ⟨ret_bool HR.out.symm,HW.out _⟩
   ·have x2:=hc (k-1) (by omega)
    obtain ⟨z,ez⟩:∃ z,zs.getD k 0=z:=⟨_,rfl⟩;obtain ⟨u,eu⟩:∃ u,zs.getD (k-1) 0=u:=⟨_,rfl⟩;rw[ez] at x1 hat;rw[eu] at x2 hat;rw[decide_eq_false g0,Bool.false_or] at hat
    have e3:(0:Int)<=(k:Int)-1:=by omega
    have e4:(k:Int)-1<(zs.length:Int):=by omega
    have e5:((k:Int)-1).toNat=k-1:=by omega
    have e6:0<k:=by omega
    cases h1:B1.inB z x y with
    | true=>
     by_cases h:z<=u
     ·have HR:Hid (N0.up zs x y=false):=N0.to_bad hlt (by rw[hat,h1,decide_eq_false (by omega)];rfl)
      clear hat hok ez eu hc hR hR' hW;go_wp2
      go_quiet ((go_at_call 32;exact quiet_bool (B1.l01In_any _ _ _ _) h1))
      go_wp2;go_ret;exact ⟨ret_bool HR.out.symm,HW.out _⟩
     ·have h':decide (z<=u)=false:=by simpa using h
      have HO:Hid (N0.to (N0.upAt zs x y) (k+1)=true):=N0.to_step hok (by rw[hat,h1,decide_eq_true (by omega)];rfl);clear hat hok ez eu hc hR hR' hW;go_wp2
      go_quiet ((go_at_call 32;exact quiet_bool (B1.l01In_any _ _ _ _) h1))
      go_wp2;obtain ⟨m',hm'⟩:=HW.out nq
      go_roundw
      case rel=>exact ⟨k+1,m',by omega,HO.out,by go_num,hm'⟩
      case measure=>simp[intOf];omega
    | false=>
     have HR:Hid (N0.up zs x y=false):=N0.to_bad hlt (by rw[hat,h1];rfl);clear hat hok ez eu hc hR hR' hW;go_wp2
     go_quiet ((go_at_call 32;exact quiet_bool (B1.l01In_any _ _ _ _) h1))
     go_wp2;go_ret;exact ⟨ret_bool HR.out.symm,HW.out _⟩
  ·obtain rfl:k=zs.length:=by omega
   have HR:Hid (N0.up zs x y=true):=hok;have HW0:Hid (wr=w.drewN n):=hW;clear hok hR hW;go_wp2;go_ret;exact ⟨ret_bool HR.out.symm,n,HW0.out⟩
end N2
namespace N3
open ChangeShapes WideShapes ChangeAt RowKit
open N0 (Ln)
open N1 (Sl val vals Lists FitM LB lb_new)
open I2 (ints)
def total (d:Ln):Nat:=d.rc.size+d.pg.length+d.sav.size+d.po.length+d.fr.length
theorem szOk (a:Option Addr) (c n:Nat) (l:Int) (w:World) (hn:n<=maxLen) (h1:l<=1048576) (h:(n:Int)<=l) :
  Calls prog 57 #[.slice a n c,Iv l] w (Rw (Iv (l-n)) w):=
 (I2.szIntS a c n l w hn (by omega) h1).mono fun _ _ ⟨he,hw⟩=>⟨by rw[he,I2.left,if_neg (by omega)],hw⟩
theorem szNo (a:Option Addr) (c n:Nat) (l:Int) (w:World) (hn:n<=maxLen) (h0:0<=l) (h1:l<=1048576) (h:l<(n:Int)) :
  Calls prog 57 #[.slice a n c,Iv l] w (Rw (Iv (-1)) w):=
 (I2.szIntS a c n l w hn h0 h1).mono fun _ _ ⟨he,hw⟩=>⟨by rw[he,I2.left,if_pos (by omega)],hw⟩
theorem eqLoan (d:Ln) (s1 s2:Sl) (w:World) (hp:d.pg.length<=281474976710656) (ho:d.po.length<=281474976710656) (hf:d.fr.length<=281474976710656) (h1:Lists w d s1) (h2:Lists w d s2) :
  Calls prog 55 #[val d s1,val d s2] w (Rb (.bool true) w):=by
 have b1:=lb_new d s1 w 46;have hB:=K0.below_new w (.cells (N1.Lc d s1) 46);have hB2:=hB.alloc hB.size (.cells (N1.Lc d s2) 46);have h1':=h1.below hB2;have h2':=h2.below hB2;obtain ⟨W,hW⟩:∃ W,(w.alloc (.cells (N1.Lc d s1) 46)).alloc (.cells (N1.Lc d s2) 46)=W:=⟨_,rfl⟩
 have hr1:∀ m,P0.Row (W.drewN m) s1.a1 d.pg:=fun m=>by rw[<- hW];exact h1'.r1.drewN m
 have hr2:∀ m,P0.Row (W.drewN m) s2.a1 d.pg:=fun m=>by rw[<- hW];exact h2'.r1.drewN m
 have hr3:∀ m,P0.Row (W.drewN m) s1.a2 d.po:=fun m=>by rw[<- hW];exact h1'.r2.drewN m
 have hr4:∀ m,P0.Row (W.drewN m) s2.a2 d.po:=fun m=>by rw[<- hW];exact h2'.r2.drewN m
 have hr5:∀ m,P0.Row (W.drewN m) s1.a3 d.fr:=fun m=>by rw[<- hW];exact h1'.r3.drewN m
 have hr6:∀ m,P0.Row (W.drewN m) s2.a3 d.fr:=fun m=>by rw[<- hW];exact h2'.r3.drewN m
 rw[hW] at hB2
 have hu:∀ x:ByteArray,(x.toList != x.toList)=false:=fun x=>by simp
 subst hW;go_enter func55,ntmps55
 go_wp2_with (first
  | (go_at_call 9;have n2':=n2;refine (I2.eqIntS _ _ _ _ d.fr _ hf (by simpa only[World.drewN_drewN] using hr5 (n1+n2)) (by simpa only[World.drewN_drewN] using hr6 (n1+n2))).mono ?_;rintro e w' ⟨rfl,n3,rfl⟩)
  | (go_at_call 9;have n1':=n1;refine (I2.eqIntS _ _ _ _ d.po _ ho (hr3 n1) (hr4 n1)).mono ?_;rintro e w' ⟨rfl,n2,rfl⟩)
  | (go_at_call 9;refine (I2.eqIntS _ _ _ _ d.pg _ hp (hr1 0) (hr2 0)).mono ?_;rintro e w' ⟨rfl,n1,rfl⟩))
 go_ret;exact ⟨rfl,K0.below_drewN hB2 _⟩
end N3
namespace Q1
open ChangeShapes WideShapes ChangeAt RowKit
open I2 (ints)
open J0 (IBuf Own)
theorem run_append_none {P:Program} (w:World) (t ty e:TypeId) (i:TypeInfo) (ht:P.underlying t=some (.slice e)) (hi:P.info? e=some i) (b:Option Addr) (n cap:Nat) (hle:n<=cap) (ax:Option Addr) (cx:Nat) :
  (Builtin.append_ #[t,t] ty #[.slice b n cap,.slice ax 0 cx]).run P w=.ok (.slice b n cap) w:=by
 cases b <;> cases ax <;> simp[Builtin.append_,run_underlying ht,sizeOf,typeInfo,hi,Builtin.lenOf,Builtin.firstCells,loadCells,loadCellsFrom,storeCells,hle]
variable {base n cap : Nat} {a : Option Addr} {w W : World} {zs : List Int}
theorem ints_one (xs:List Int):∀ u ∈ ints xs,u.oneCell'=true:=by
 intro u h;simp at h;obtain ⟨z,_,rfl⟩:=h;rfl
theorem append_rows {ops:Array Oper} {rest:List Oper} {o:Oper} {A:Act} {Q:Exit->Act->World->Prop} (hgd:o.guard=none) (sl x:Operand)
  (ho:o.op=.call { callee:=.builtin .append,args:=#[sl,x],argTypes:=#[32,32] })
  (hbuf:IBuf base w a n cap zs) (ax:Option Addr) (cx:Nat) (xs:List Int) (hs:A.eval sl=.slice a n cap) (hx:A.eval x=.slice ax xs.length cx) (hR:P0.Row w ax xs) (hlen:n+xs.length<=4194304) (hb:base<=w.heap.size)
  (h:∀ a' cap' w',IBuf base w' a' (n+xs.length) cap' (zs++xs)->Below base w w'->wpList prog ops Q rest (A.put o.dst (.slice a' (n+xs.length) cap')) w'):wpList prog ops Q (o :: rest) A w:=by
 obtain ⟨i0,hi,hz0,hz1,hz2⟩:=info_parts I2.info3
 by_cases h0:xs=[]
 ·subst h0
  refine Lib.wpList_append_run _ hgd sl x 32 32 ho _ _ hs hx _ _ (run_append_none w 32 _ 3 i0 underlying32 hi a n cap hbuf.fits ax cx) ?_;exact h a cap w (by rw[List.append_nil];exact hbuf) (Below.refl _ _)
 ·rcases hR with hR | ⟨b,off,rfl,hb2,hc⟩
  ·exact absurd hR h0
  ·have hm:0<xs.length:=List.length_pos_iff.2 h0
   refine wpList_append_lies _ hgd sl x 32 ho base 3 i0 (Iv 0) 1 8 underlying32 hi hz0 hz1 hz2 rfl (by omega) _ n _ hs hbuf.2 ⟨b,off,none⟩ xs.length cx (ints xs) hx (by simp) ?_ (ints_one xs) hm (by unfold maxLen;omega) (by omega) hb _ rfl ?_
   ·intro j u hj
    have hj':j<xs.length:=by
     have:=(List.getElem?_eq_some_iff.1 hj).1
     simpa using this
    rw[B0.add_off,hc j hj',P0.getD_get _ _ hj',<- hj];simp[hj']
   ·intro g' cap' w' ho' hg' _ _
    refine h (some ⟨g',0,none⟩) cap' w' ⟨by rw[hbuf.1];simp,?_⟩ ?_
    ·rw[show ints (zs++xs)=ints zs++ints xs by simp]
     exact ho'
    ·exact F0.below_grown (Below.refl _ _) hg' (J0.own_block hbuf) hb
theorem grow (k:Nat) (w:World) (hk:k<=4194304) :
  Calls prog 143 #[.slice none 0 0,Iv k] w fun e w'=>∃ a c,e=.returned (.slice a 0 c)/\IBuf w.heap.size w' a 0 c []/\Bq w w':=by
 by_cases h0:k=0
 ·subst h0
  go_enter func143,ntmps143;go_wp2;go_ret;exact ⟨none,0,rfl,J0.ibuf_nil _,Below.refl _ _⟩
 ·obtain ⟨i0,hi,hz0,hz1,hz2⟩:=info_parts I2.info3
  have hrz:∀ ty,(Builtin.append_ #[32,3] ty #[.slice none 0 0,Iv k]).run prog w=.ok (Sv w.heap.size (0+k) (grownCap w (0+k) 0 3)) (w.drew.alloc (.cells ((#[]:Array Value)++Builtin.zeroCells (Value.int .i64 0).cells k++Builtin.zeroCells (Value.int .i64 0).cells (grownCap w (0+k) 0 3-(0+k))) 3)):=fun ty=>
   Lib.run_append_grow_zeros w 32 3 ty 3 i0 (Iv 0) .i64 .i64 underlying32 underlying3 hi hz0 none 0 0 [] (run_firstCells_none w.drew i0.size 0 0 0) k (by omega) (by omega) (by omega) (by omega) (by rw[hz2];omega) (by rw[hz2,Builtin.nextslicecap,if_pos (by omega)];omega)
  have hG:=grownCap_ge w (0+k) 0 3;have hM:=grownCap_le_maxLen w (0+k) 0 3 (by unfold maxLen;omega)
  have hgt:(0:Int)<(k:Int):=by omega
  have hnk:0<k:=by omega
  obtain ⟨C,hC⟩:∃ C:Array Value,C=(#[]:Array Value)++Builtin.zeroCells (Value.int .i64 0).cells k++Builtin.zeroCells (Value.int .i64 0).cells (grownCap w (0+k) 0 3-(0+k)):=⟨_,rfl⟩;rw[<- hC] at hrz;rw[Nat.zero_add] at hC hrz hG hM
  have hsz:C.size=grownCap w k 0 3:=by
   rw[hC];simp[Builtin.zeroCells,Value.cells];omega
  obtain ⟨G,hg⟩:∃ G,grownCap w k 0 3=G:=⟨_,rfl⟩;rw[hg] at hrz hG hM hsz;have hbuf:IBuf w.heap.size (w.drew.alloc (.cells C 3)) (some ⟨w.heap.size,0,none⟩) 0 G []:=⟨rfl,World.ownsRow_made w.drew C G (Nat.le_refl _) hM (by omega)⟩;have hbel:Bq w (w.drew.alloc (.cells C 3)):=(Below.refl _ w).drew.alloc (Nat.le_refl _) _;have hM':G<=9223372036854775807:=hM
  have hGk:k<=G:=by omega
  clear hC hsz hg hM hi hz0 hz1 hz2;go_enter func143,ntmps143
  go_wp2_with (at_builtin;refine Lib.wpList_append_run _ rfl _ _ _ _ rfl _ _ rfl rfl _ _ (hrz _) ?_)
  all_goals
   go_ret;exact ⟨_,_,rfl,hbuf,hbel⟩
def pre (xs zs:List Int) (k:Nat):List Int:=if k=0 then [] else if k=1 then xs else zs
theorem concat0 (B:Nat) (a1 a2:Option Addr) (c1 c2:Nat) (xs ys zs:List Int) (hzs:zs=xs++ys) (w:World) (h1:Ce w B 0 (.slice a1 xs.length c1)) (h2:Ce w B 1 (.slice a2 ys.length c2)) (hB:B<w.heap.size)
  (R1:P0.Row w a1 xs) (R2:P0.Row w a2 ys) (hx:xs.length<=1048576) (hy:ys.length<=1048576) :
  Calls prog 104 #[Sv B 2 2] w fun e w'=>∃ a c,e=.returned (.slice a zs.length c)/\J0.Own w.heap.size w' a zs/\zs.length<=c/\Bq w w':=by
 have HL:Hid (zs.length=xs.length+ys.length):=by rw[hzs];exact List.length_append
 have HZ:Hid (xs++ys=zs):=hzs.symm
 have hzl:zs.length<=4194304:=by rw[HL.out];omega
 clear hzs;go_enter func104,ntmps104;go_wp2
 go_loop [3,11] (fun v i=>∃ k:Nat,k<=2/\i=Iv k/\v=Iv ((pre xs zs k).length:Int)) (fun _ i=>2-(intOf i).toNat)
 case atStart=>exact ⟨0,Nat.zero_le _,rfl,rfl⟩
 case round=>
  obtain ⟨k,hk,rfl,rfl⟩:=hrel
  have hk':k=0\/k=1\/k=2:=by omega
  rcases hk' with rfl | rfl | rfl
  ·have e0:(pre xs zs 0).length=0:=rfl
   rw[e0]
   have e1:¬ ((xs.length:Int)<0):=by omega
   go_wp2
   go_round
   case rel=>exact ⟨1,by omega,by go_num,rfl⟩
   case measure=>simp[intOf]
  ·have e0:(pre xs zs 1).length=xs.length:=rfl
   rw[e0]
   have e1:¬ ((xs.length:Int)+(ys.length:Int)<0):=by omega
   go_wp2
   go_round
   case rel=>exact ⟨2,by omega,by go_num,by show _=Value.int .i64 ((zs.length:Nat):Int);rw[HL.out];go_num⟩
   case measure=>simp[intOf]
  ·have e0:(pre xs zs 2).length=zs.length:=rfl
   rw[e0];have hgr:=grow zs.length w (by omega)
   go_wp2_with (go_at_call 143;refine hgr.mono ?_;rintro e w1 ⟨a,c,rfl,hbuf,hbel⟩)
   clear hgr
   go_loopw [6,27] (fun v i w'=>∃ (k c:Nat) (a:Option Addr),k<=2/\i=Iv k/\v=.slice a (pre xs zs k).length c/\IBuf w.heap.size w' a (pre xs zs k).length c (pre xs zs k)/\Bq w w') (fun _ i _=>2-(intOf i).toNat)
   case atStart=>exact ⟨0,c,a,Nat.zero_le _,rfl,rfl,hbuf,hbel⟩
   case round=>
    obtain ⟨k,c',a',hk,rfl,rfl,hbuf',hbel'⟩:=hrel;clear hbuf hbel;have x1:=(hbel'.cell (p:=⟨B,0,none⟩) hB).trans h1;have x2:=(hbel'.cell (p:=⟨B,1,none⟩) hB).trans h2;have r1:=R1.below hbel';have r2:=R2.below hbel'
    have hk':k=0\/k=1\/k=2:=by omega
    rcases hk' with rfl | rfl | rfl
    ·have hb0:IBuf w.heap.size wr a' 0 c' []:=hbuf'
     have e0:(pre xs zs 0).length=0:=rfl;rw[e0];clear hbuf' h1 h2 R1 R2
     go_wp2_with (at_builtin;refine append_rows rfl (.tmp 31) (.tmp 32) rfl hb0 a1 c1 xs rfl rfl r1 (by omega) hbel'.size ?_;intro a3 c3 w3 b3 l3)
     go_roundw
     case rel=>exact ⟨1,c3,a3,by omega,by go_num,rfl,by rw[Nat.zero_add] at b3;exact b3,hbel'.trans l3⟩
     case measure=>simp[intOf]
    ·have hb0:IBuf w.heap.size wr a' xs.length c' xs:=hbuf'
     have e0:(pre xs zs 1).length=xs.length:=rfl;rw[e0];clear hbuf' h1 h2 R1 R2
     go_wp2_with (at_builtin;refine append_rows rfl (.tmp 31) (.tmp 32) rfl hb0 a2 c2 ys rfl rfl r2 (by omega) hbel'.size ?_;intro a3 c3 w3 b3 l3)
     go_roundw
     case rel=>exact ⟨2,c3,a3,by omega,by go_num,by rw[<- HL.out];rfl,by rw[<- HL.out,HZ.out] at b3;exact b3,hbel'.trans l3⟩
     case measure=>simp[intOf]
    ·have hb0:IBuf w.heap.size wr a' zs.length c' zs:=hbuf'
     have e0:(pre xs zs 2).length=zs.length:=rfl;rw[e0];clear hbuf' h1 h2 R1 R2;go_wp2;go_ret;exact ⟨a',c',rfl,hb0.own,hb0.fits,hbel'⟩
theorem concat (B:Nat) (a1 a2:Option Addr) (c1 c2:Nat) (xs ys:List Int) (w:World) (h1:Ce w B 0 (.slice a1 xs.length c1)) (h2:Ce w B 1 (.slice a2 ys.length c2)) (hB:B<w.heap.size)
  (R1:P0.Row w a1 xs) (R2:P0.Row w a2 ys) (hx:xs.length<=1048576) (hy:ys.length<=1048576) :
  Calls prog 104 #[Sv B 2 2] w fun e w'=>∃ a c,e=.returned (.slice a (xs++ys).length c)/\J0.Own w.heap.size w' a (xs++ys)/\(xs++ys).length<=c/\Bq w w':=
 concat0 B a1 a2 c1 c2 xs ys (xs++ys) rfl w h1 h2 hB R1 R2 hx hy
end Q1
end Go.Proofs.YtlejhfnjmkdobaaGreatDoor
