/- Joined texts. -/
import Derived.Test.YtlejhfnjmkdobaaGreatDoorJtZK
import Derived.Test.YtlejhfnjmkdobaaGreatDoorJtZG
set_option linter.unusedVariables false
set_option linter.unusedSimpArgs false
set_option maxRecDepth 10000
set_option maxHeartbeats 16000000
namespace Go.Proofs.YtlejhfnjmkdobaaGreatDoor
open Go.Proofs.Tryz
namespace KX
open Go
open N0 (Ln)
open HP (Rg at_)
open WI (rl)
open Z0 (dat Kp)
open X0 (mix mix_len mix_get)
open F1 (span)
open KQ (lay layN layS layN_size)
open KT (outN outS outN_size outS_size)
def g (x:ByteArray) (j:Nat):UInt8:=x.data.toList.getD j 0
def cov (r:Rg) (j:Nat):Bool:=decide (r.1<=(j:Int)/\(j:Int)<r.1+r.2)
theorem rl_eight (d:Ln):∀ r ∈ rl d,r.1 % 8=0/\r.2 % 8=0:=by
 unfold rl
 cases h:N0.loanOk d with
 | false=>simp
 | true=>
  obtain ⟨-,-,-,-,hi,-,-,-,-,hpp,hfr,-,-⟩:=N0.loanOk_is h
  have hrec:∀ z:Int,0<=z->z<=7->L1.recAt z=32+z*16:=by
   intro z h0 h7;unfold L1.recAt;rw[if_pos (N0.inB_iff.2 ⟨h0,h7⟩)]
  intro r hr;simp only[if_true,List.mem_append,List.mem_map,List.mem_singleton] at hr
  rcases hr with ((hr | ⟨p,hp,hr⟩) | ⟨p,hp,hr⟩) | ⟨f,hf,hr⟩
  ·subst hr
   rw[hrec _ hi.1 hi.2];simp;omega
  ·subst hr
   simp;omega
  ·subst hr
   simp;omega
  ·subst hr
   have:=hfr f hf;rw[hrec f (by omega) (by omega)];simp;omega
theorem lay_get (a b:ByteArray) (r:Rg) (j:Nat) (hj:j<768) (h0:0<=r.1) (h1:16<=r.2) (h2:r.1 % 8=0) (h3:r.2 % 8=0):g (lay a b r) j=if cov r j then g a j else g b j:=by
 have hsp:span (r.1.toNat / 8) ((r.1.toNat+r.2.toNat-1) / 8) (j / 8)=cov r j:=by
  unfold span cov
  congr 1
  apply propext
  omega
 have h:=mix_get a.data.toList b.data.toList (span (r.1.toNat / 8) ((r.1.toNat+r.2.toNat-1) / 8)) j hj;rw[hsp] at h;unfold g lay;rw[List.getD_eq_getElem?_getD,h];rfl
theorem nulls_get (n j:Nat):(B4.nulls n).data.toList[j]? = if j<n then some 0 else none:=by
 unfold B4.nulls;rw[Array.toList_replicate,List.getElem?_replicate]
theorem laid_get (s:ByteArray) (hs:s.size=768) (r:Rg) (j:Nat) (hj:j<768) (h0:0<=r.1) (h1:16<=r.2) (h2:r.1+r.2<=768):g (B5.laid s r.1 (B4.zeros r.2)) j=if cov r j then 0 else g s j:=by
 obtain ⟨u,hu⟩:∃ u:Nat,r.1=u:=⟨r.1.toNat,by omega⟩;obtain ⟨v,hv⟩:∃ v:Nat,r.2=v:=⟨r.2.toNat,by omega⟩
 have hz:B4.zeros r.2=B4.nulls v:=by rw[B4.zeros,if_pos (by omega),hv];rfl
 have hl:B2.lies s.size r.1 (B4.nulls v).size=true:=decide_eq_true (by rw[B4.nulls_size,hs];omega)
 have hsl:s.data.toList.length=768:=by rw[<- hs];exact (Lib.size_eq s).symm
 rw[hz,B5.laid,hl,if_pos rfl,B4.nulls_size,hu,hs];unfold g cov;rw[hu,hv];simp only[List.getD_eq_getElem?_getD,ByteArray.data_append,Array.toList_append,Lib.extract_data,List.getElem?_append,nulls_get,List.getElem?_take,List.getElem?_drop,List.length_take,List.length_drop,hsl,List.length_append];rw[show (B4.nulls v).data.toList.length=v by simp[B4.nulls],show ((u:Int)).toNat=u by omega,show ((u:Int)+(v:Int)).toNat=u+v by omega]
 by_cases hc:(u:Int)<=(j:Int)/\(j:Int)<(u:Int)+(v:Int)
 ·rw[decide_eq_true hc]
  grind
 ·rw[decide_eq_false hc]
  grind
theorem or_if {α:Type} (p q:Bool) (x y:α):(if p then x else if q then x else y)=if (p || q) then x else y:=by cases p <;> cases q <;> rfl
theorem one_cov (a:ByteArray) (rs:List Rg) (hin:∀ r ∈ rs,0<=r.1/\16<=r.2/\r.1+r.2<=768) (h8:∀ r ∈ rs,r.1 % 8=0/\r.2 % 8=0):∀ k,k<=rs.length->∃ c:Nat->Bool,∀ j,j<768->(∀ b,b.size=768->g (layN a b rs k) j=if c j then g a j else g b j)/\∀ x,x.size=768->g (outN x rs k) j=if c j then 0 else g x j
 | 0,_=>⟨fun _=>false,fun j hj=>⟨fun b hb=>rfl,fun x hx=>rfl⟩⟩
 | k+1,hk=>by
  obtain ⟨c,hc⟩:=one_cov a rs hin h8 k (by omega)
  have hm:at_ rs k ∈ rs:=by rw[HP.at_get _ _ (by omega)];exact List.getElem_mem _
  obtain ⟨i1,i2,i3⟩:=hin _ hm;obtain ⟨e1,e2⟩:=h8 _ hm;refine ⟨fun j=>cov (at_ rs k) j || c j,fun j hj=>⟨fun b hb=>?_,fun x hx=>?_⟩⟩
  ·rw[layN,lay_get _ _ _ _ hj i1 i2 e1 e2,(hc j hj).1 b hb]
   exact or_if _ _ _ _
  ·rw[outN,laid_get _ (by rw[outN_size];exact hx) _ _ hj i1 i2 i3,(hc j hj).2 x hx]
   exact or_if _ _ _ _
theorem all_cov (a b:ByteArray) (hb:b.size=768) (ds:List Ln):∀ k,∃ c:Nat->Bool,∀ j,j<768->g (layS a b ds k) j=(if c j then g a j else g b j)/\∀ x,x.size=768->g (outS x ds k) j=if c j then 0 else g x j
 | 0=>⟨fun _=>false,fun j hj=>⟨rfl,fun x hx=>rfl⟩⟩
 | k+1=>by
  obtain ⟨c,hc⟩:=all_cov a b hb ds k;obtain ⟨c',hc'⟩:=one_cov a (rl (dat ds k)) (WI.rl_in _) (rl_eight _) (rl (dat ds k)).length (Nat.le_refl _);refine ⟨fun j=>c' j || c j,fun j hj=>⟨?_,fun x hx=>?_⟩⟩
  ·rw[layS,(hc' j hj).1 _ (KQ.layS_size a b ds hb k),(hc j hj).1]
   exact or_if _ _ _ _
  ·rw[outS,(hc' j hj).2 _ (by rw[outS_size];exact hx),(hc j hj).2 x hx]
   exact or_if _ _ _ _
theorem same_iff {x y:ByteArray} (hx:x.size=768) (hy:y.size=768):(x.toList == y.toList)=true ↔ ∀ j,j<768->g x j=g y j:=by
 rw[beq_iff_eq,ByteArray.toList_eq,ByteArray.toList_eq]
 have lx:x.data.toList.length=768:=by rw[<- hx];exact (Lib.size_eq x).symm
 have ly:y.data.toList.length=768:=by rw[<- hy];exact (Lib.size_eq y).symm
 constructor
 ·intro h j hj
  unfold g;rw[h]
 ·intro h
  apply List.ext_getElem?
  intro j
  by_cases hj:j<768
  ·have:=h j hj
   unfold g at this;rw[X0.get_of lx hj,X0.get_of ly hj,this]
  ·rw[List.getElem?_eq_none (by omega),List.getElem?_eq_none (by omega)]
theorem rest_eq (a b:ByteArray) (ha:a.size=768) (hb:b.size=768) (ds:List Ln) (n:Nat):(a.toList == (layS a b ds n).toList)=((outS a ds n).toList == (outS b ds n).toList):=by
 obtain ⟨c,hc⟩:=all_cov a b hb ds n;rw[Bool.eq_iff_iff,same_iff ha (KQ.layS_size a b ds hb n),same_iff (by rw[outS_size];exact ha) (by rw[outS_size];exact hb)];constructor
 ·intro h j hj
  have h1:=h j hj;rw[(hc j hj).1] at h1;rw[(hc j hj).2 a ha,(hc j hj).2 b hb]
  cases hcj:c j with
  | true=>rfl
  | false=>
   rw[hcj] at h1;exact h1
 ·intro h j hj
  have h1:=h j hj;rw[(hc j hj).2 a ha,(hc j hj).2 b hb] at h1;rw[(hc j hj).1]
  cases hcj:c j with
  | true=>rfl
  | false=>
   rw[hcj] at h1;exact h1
end KX
namespace Y3
open ChangeShapes WideShapes ChangeAt RowKit
open N0 (Ln)
open N1 (Sl Lists Fit)
open D1 (nodeE)
open J0 (IBuf Own)
open Y1 (only come)
theorem yes_parts {mem:ByteArray} {d:Ln} (h:D6.verdict mem d=true):mem.size=768/\G0.isI (O0.recd mem d.ino)=true/\G0.gK (O0.recd mem d.ino)≠0/\N0.asc d.fr=true:=by
 unfold D6.verdict at h;simp only[Bool.and_eq_true] at h;obtain ⟨h1,h2,h3,h4,-⟩:=h;unfold N0.loanOk N0.past at h1;simp only[Bool.and_eq_true] at h1;unfold D6.like at h4;simp only[Bool.and_eq_true,decide_eq_true_eq] at h4;unfold D1.nodeOk at h3;simp only[Bool.and_eq_true] at h3;refine ⟨by simpa using h2,h3.1,?_,?_⟩
 ·rw[h4.1]
  simpa using h1.1.2.1
 ·have hf:=h1.2.2.2
  unfold N0.freshOk at hf
  split at hf
  ·simp only[Bool.and_eq_true] at hf
   exact hf.2.1
  ·have:d.fr=[]:=by simpa using hf
   rw[this];rfl
theorem spec_Come (mem:ByteArray) (d:Ln) (s:Sl) (w:World) (hms:mem.size<=281474976710656) (hF:Fit d s) (hpo:d.po.length<=1048576) (hfr:d.fr.length<=1048576) (hR:Lists w d s) :
  Calls prog 43 #[.string mem,N1.val d s] w fun e w'=>∃ a c,e=.returned (.slice a (come mem d).length c)/\(come mem d).length<=c/\J0.Own w.heap.size w' a (come mem d)/\Bq w w':=by
 have k0:=N1.lb_new d s w 46;have l0:=K0.below_new w (.cells (N1.Lc d s) 46);have c0:=k0.c0;have c1:=k0.c1;have c2:=k0.c2;have c3:=k0.c3;have c4:=k0.c4;have c5:=k0.c5;have c6:=k0.c6;have c7:=k0.c7
 have HV:Hid (∀ W,Bq w W->_):=fun W hb=>E6.spec_Verdict mem d s W hms hF hpo hfr (hR.below hb)
 have hr3:Hid (∀ W,Bq w W->P0.Row W s.a3 d.fr):=fun W hb=>(hR.below hb).r3
 have hel:(D0.inos (nodeE mem d.ino)).length<=13:=by rw[D0.inos_length];exact D6.nodeE_len mem d.ino
 cases hv:D6.verdict mem d with
 | false=>
  have hco:come mem d=[]:=by rw[come,hv];rfl
  rw[hco];rw[hv] at HV;clear hv hco hel hR hF;go_enter func43,ntmps43
  go_wp2_with (go_at_call 72;refine (HV.out _ l0).mono ?_;rintro e w1 ⟨rfl,b1⟩)
  go_ret;exact ⟨_,_,rfl,Nat.le_refl _,Or.inl rfl,(l0.trans (b1.mono l0.size)).alloc (Nat.le_trans l0.size b1.size) _⟩
 | true=>
  obtain ⟨p1,p2,p3,p4⟩:=yes_parts hv
  have HN:Hid (∀ W,_):=fun W=>D7.l05Now mem d s W p1 p2 p3
  have hco:come mem d=only d.fr (D0.inos (nodeE mem d.ino)):=by rw[come,if_pos hv]
  rw[hco];rw[hv] at HV;obtain ⟨E,hE⟩:∃ E,D0.inos (nodeE mem d.ino)=E:=⟨_,rfl⟩;obtain ⟨bn,hbn⟩:∃ b,D7.nowOk mem d.ino=b:=⟨_,rfl⟩;rw[hE,hbn] at HN;rw[hE] at hel ⊢
  have HO:Hid (∀ W c1 c2 a2,P0.Row W s.a3 d.fr->P0.Row W a2 E->_):=fun W c1 c2 a2 r1 r2=>Y2.l05Only s.a3 a2 c1 c2 d.fr E W hfr (by omega) p4 r1 r2
  clear hv hco hE hbn p1 p2 p3 p4 hR hF;go_enter func43,ntmps43
  go_wp2_with (first
   | (go_at_call 72;refine (HV.out _ l0).mono ?_;rintro e w1 ⟨rfl,b1⟩;have l1:=l0.trans (b1.mono l0.size);have k1:=k0.below b1;have d0:=k1.c0;have d1:=k1.c1;have d2:=k1.c2;have d3:=k1.c3;have d4:=k1.c4;have d5:=k1.c5;have d6:=k1.c6;have d7:=k1.c7)
   | (go_at_call 73;refine (HN.out _).mono ?_;rintro e w2 ⟨a2,n2,rfl,o2,b2⟩;have l2:=l1.trans (b2.mono l1.size);have e7:=(k1.below b2).c7)
   | (go_at_call 42;refine (HO.out _ _ _ _ (hr3.out _ l2) o2.row).mono ?_;rintro e w3 ⟨a3,n3,rfl,q3,o3,b3⟩))
  go_ret;exact ⟨a3,n3,rfl,q3,o3.mono l2.size,l2.trans (b3.mono l2.size)⟩
end Y3
end Go.Proofs.YtlejhfnjmkdobaaGreatDoor
