/- Joined texts. -/
import Derived.Test.YtidmmopnkjbjoaaGreatDoorJpO
import Derived.Test.YtidmmopnkjbjoaaGreatDoorJpP
set_option linter.unusedVariables false
set_option linter.unusedSimpArgs false
set_option maxRecDepth 10000
set_option maxHeartbeats 16000000
namespace Go.Proofs.YtidmmopnkjbjoaaGreatDoor
open ChangeShapes WideShapes ChangeAt RowKit
open Go.Proofs.Tryz
theorem ab2 (p q r:Option Addr) (w:World):CallsD prog 124 #[.pointer p,.pointer q,.pointer r] .returning w fun e u' w'=>e=.returned (.tuple #[])/\u'=.returning/\w'=w:=by refine callsD_of_wpS func124 rfl fun c₀ cs hu=>?_;apply wpS_seq;apply wpS_region;simp[wpOpsS,go_sem,recoverD,hu,ntmps124,Exit.thenS];apply wpS_seq;apply wpS_region;simp[wpOpsS,go_sem,Exit.thenS,Array.replicate];refine wpS_cond (t:=false) (by simp[Act.eval,Array.replicate]) ?_;simp only[Bool.false_eq_true,if_false];refine wpS_of_wp (wp_skip ?_);cases c₀;simp_all [bodyPostS,results,results124]
theorem ab3 (w:World):Calls prog 125 #[.nilIface] w (dp (ad 0) w):=by go_enter func125,ntmps125;go_wp2;go_ret;exact ⟨rfl,rfl⟩
section
open Go.Shelf
attribute [local go_sem] Xc
def js (kept:List Int) (m:Nat) (k:Nat):Bool:=ox kept k && decide (k<m)
structure mi (w:World) (G f1 f3:Nat) (kv:Value) (la ld:List UInt8) (W:World):Prop where
 dl:kB G la ld W
 c1:eo f1 0 kv W
 c3:eo f3 0 (.pointer (some ⟨G,0,none⟩)) W
 r0:eo (w.heap.size+2) 0 (.string ⟨#[]⟩) W
 r1:eo (w.heap.size+2) 1 (.string ⟨#[]⟩) W
 ah:Below w.heap.size w W
variable {w W V : World} {G f1 f3 : Nat} {kv : Value} {la ld le : List UInt8}
theorem mi.own {row:Option Nat} {B:Nat} (h:mi w G f1 f3 kv la ld W) (hB:w.heap.size<=B) (hg:W.grownBy V row) (hr:∀ r,row=some r->B<=r/\∃ o:Obj,W.heap[r]? = some o/\o.isCells=false):mi w G f1 f3 kv la ld V:=
  ⟨EY h.dl hg fun r e=>(hr r e).2,h.c1.own hg fun r e=>(hr r e).2,h.c3.own hg fun r e=>(hr r e).2,h.r0.own hg fun r e=>(hr r e).2,h.r1.own hg fun r e=>(hr r e).2,
   h.ah.grown hg h.ah.size fun r e=>bt hB (hr r e).1⟩
theorem mi.set {k:Nat} (h:mi w G f1 f3 kv la ld W) (hn:f1≠G/\f3≠G/\w.heap.size+2≠G/\w.heap.size<=G) (hla:la.length=768) (hld:ld.length=768) (hk:k<96) (he:ld.take (k*8)++cI la k++ld.drop (k*8+8)=le):mi w G f1 f3 kv la le (W.setCells G (768+k*8) (Lib.byteCells (cI la k))):=⟨Qa h.dl hla hld hk he,h.c1.set hn.1 _,h.c3.set hn.2.1 _,h.r0.set hn.2.2.1 _,h.r1.set hn.2.2.1 _,qF hn.2.2.2 _ _ _ h.ah⟩
theorem mi.drew (h:mi w G f1 f3 kv la ld W):mi w G f1 f3 kv la ld W.drew:=⟨⟨h.dl.m,h.dl.d,h.dl.t,h.dl.lt⟩,h.c1,h.c3,h.r0,h.r1,h.ah.drew⟩
theorem Jv {kept:List Int} {k i:Nat} (hi:i≠k):js kept k i=js kept (k+1) i:=by unfold js;congr 1;exact No.2 (by omega)
theorem ab4 {kept:List Int} {k:Nat} (h:ox kept k=false) (i:Nat):js kept k i=js kept (k+1) i:=by
 by_cases e:i=k
 ·subst e;unfold js;rw[h,dH,dH]
 exact Jv e
theorem ab5 (kept:List Int) (k:Nat):js kept k k=false:=by unfold js;rw[bq (by omega),dU]
theorem ab6 {kept:List Int} {k:Nat} (h:ox kept k=true):js kept (k+1) k=true:=by unfold js;rw[h,bF (by omega)];rfl
theorem ab7 {w W0 w3:World} (c1:eo (w.heap.size+1) 0 kv W0) (r0:eo (w.heap.size+2) 0 (.string ⟨#[]⟩) W0) (r1:eo (w.heap.size+2) 1 (.string ⟨#[]⟩) W0) (hb:Below w.heap.size w W0) (hG:W0.heap.size<=G) (hD:kB G la ld w3) (b3:Below W0.heap.size W0 w3):mi w G (w.heap.size+1) w3.heap.size kv la ld (w3.alloc (.cells #[.pointer (some ⟨G,0,none⟩)] 163))/\(w.heap.size+1≠G/\w3.heap.size≠G/\w.heap.size+2≠G/\w.heap.size<=G)/\¬ w.heap.size+2=w3.heap.size:=by have hn:=aB w3 (.cells #[.pointer (some ⟨G,0,none⟩)] 163);have l1:=c1.2.2;have l2:=r0.2.2;have l3:=hD.lt;have l4:=b3.size;exact ⟨⟨EZ hD hn,(c1.below b3).below hn,xh w3 _ _ _ 0 rfl,(r0.below b3).below hn,(r1.below b3).below hn,(hb.trans (b3.mono hb.size)).alloc (by omega) _⟩,⟨by omega,by omega,by omega,by omega⟩,by omega⟩
theorem mi.below (h:mi w G f1 f3 kv la ld W) (hb:Below W.heap.size W V):mi w G f1 f3 kv la ld V:=⟨EZ h.dl hb,h.c1.below hb,h.c3.below hb,h.r0.below hb,h.r1.below hb,h.ah.trans (hb.mono h.ah.size)⟩
structure sO (D:Nat) (w:World) (G f1 f3:Nat) (kv:Value) (la ld:List UInt8) (W:World):Prop where
 fl:mi w G f1 f3 kv la ld W
 dk:W.heap[D]? = some (.deferred (some []))
theorem sO.below {D:Nat} (h:sO D w G f1 f3 kv la ld W) (hb:Below W.heap.size W V):sO D w G f1 f3 kv la ld V:=⟨h.fl.below hb,(hb.block D (mY.1 h.dk).1).trans h.dk⟩
theorem sO.drew {D:Nat} (h:sO D w G f1 f3 kv la ld W):sO D w G f1 f3 kv la ld W.drew:=⟨h.fl.drew,h.dk⟩
theorem QX {D:Nat} (h:sO D w G f1 f3 kv la ld W) (hl:ld.length=768):Calls prog 132 #[.pointer (some ⟨G,768,none⟩)] W fun e w'=>e=.returned (.string ⟨ld.toArray⟩)/\sO D w G f1 f3 kv la ld w':=(IV ld G 768 W hl h.fl.dl.lt h.fl.dl.d).mono fun _ _ ⟨he,hb⟩=>⟨he,h.below hb⟩
theorem QY (a b:ByteArray) (kv:Value) (w:World):eo (w.heap.size+1) 0 kv (((w.alloc (.cells #[.string a,.string b] 25)).alloc (.cells #[kv] 29)).alloc (.cells #[.string ⟨#[]⟩,.string ⟨#[]⟩] 25))/\eo (w.heap.size+2) 0 (.string ⟨#[]⟩) (((w.alloc (.cells #[.string a,.string b] 25)).alloc (.cells #[kv] 29)).alloc (.cells #[.string ⟨#[]⟩,.string ⟨#[]⟩] 25))/\eo (w.heap.size+2) 1 (.string ⟨#[]⟩) (((w.alloc (.cells #[.string a,.string b] 25)).alloc (.cells #[kv] 29)).alloc (.cells #[.string ⟨#[]⟩,.string ⟨#[]⟩] 25))/\Below w.heap.size w (((w.alloc (.cells #[.string a,.string b] 25)).alloc (.cells #[kv] 29)).alloc (.cells #[.string ⟨#[]⟩,.string ⟨#[]⟩] 25)):=by have h1:=(xh (w.alloc (.cells #[.string a,.string b] 25)) kv 29 #[kv] 0 rfl).alloc (.cells #[.string ⟨#[]⟩,.string ⟨#[]⟩] 25);have h2:=xh ((w.alloc (.cells #[.string a,.string b] 25)).alloc (.cells #[kv] 29)) (.string ⟨#[]⟩) 25 #[.string ⟨#[]⟩,.string ⟨#[]⟩] 0 rfl;have h3:=xh ((w.alloc (.cells #[.string a,.string b] 25)).alloc (.cells #[kv] 29)) (.string ⟨#[]⟩) 25 #[.string ⟨#[]⟩,.string ⟨#[]⟩] 1 rfl;simp only[AZ] at h1 h2 h3;exact ⟨h1,h2,h3,((aB w _).alloc (by simp) _).alloc (by simp;omega) _⟩
set_option maxRecDepth 100000 in
theorem ab8 (a b:ByteArray) (ka:Option Addr) (kc:Nat) (kept:List Int) (w:World) (ha:a.size=768) (hb:b.size=768) (hnk:kept.length<=1048576) (hR:aI w ka kept):Calls prog 65 #[.agg #[.string a,.string b],.slice ka kept.length kc] w fun e w'=>e=.returned (.agg #[.string (eT a b kept),.string (eT a b kept)])/\Below w.heap.size w w':=by
 have hla:a.data.toList.length=768:=by rw[<- cV];exact ha
 have hlb:b.data.toList.length=768:=by rw[<- cV];exact hb
 have hok:cT a b=true:=za ha hb;have CX:a.size<=maxLen:=by unfold maxLen;omega
 have hmb:b.size<=maxLen:=by unfold maxLen;omega
 have HC:Hid (∀ (q:Int) W,Below w.heap.size w W->_):=fun q W hW=>abp ka kc kept q W hnk (hR.below hW);obtain ⟨kl,hkl⟩:∃ kl,kept.length=kl:=⟨_,rfl⟩;rw[hkl] at HC ⊢;obtain ⟨s1,s2,s3,s4⟩:=QY a b (.slice ka kl kc) w;have k0:=((bu [.string a,.string b] w 25).alloc (.cells #[.slice ka kl kc] 29)).alloc (.cells #[.string ⟨#[]⟩,.string ⟨#[]⟩] 25);have x0:=k0.c0;have x1:=k0.c1;have k1:=k0.alloc (.cells #[.string a,.string b] 25);have y0:=k1.c0;have y1:=k1.c1;refine (H3 (n:=5)).1 ?_;refine callsIn_of_wp_marks func65 rfl trivial ?_ rfl;simp only[ntmps65,nh,dA,fB,Nat.reduceAdd,Nat.reduceSub,Nn,WZ,Xa,Xb,iX,nS];refine H6.2 ?_;go_wp2_with (first
  | (go_at_call 35;refine (Ez _ _ _ CX hmb).mono ?_;rintro e w1 ⟨rfl,rfl⟩;rw[hok])
  | (go_at_call 129;refine (Py a b _ ha hb).mono ?_;rintro e w3 ⟨G,rfl,hG,hD,b3⟩))
 obtain ⟨hfl,hn1,hnf⟩:=ab7 s1 s2 s3 s4 (bt (by simp) hG) hD ((aB _ _).trans (b3.mono (by simp)));clear k0 k1 x0 x1 y0 y1 s1 s2 s3 s4 hG hD b3;have hsz:w.heap.size<=(w3.alloc (.cells #[.pointer (some ⟨G,0,none⟩)] 163)).heap.size:=hfl.ah.size;obtain ⟨WL,DH⟩:∃ WL,w3.alloc (.cells #[.pointer (some ⟨G,0,none⟩)] 163)=WL:=⟨_,rfl⟩;rw[DH] at hfl hsz ⊢;clear DH;obtain ⟨f3,hf3⟩:∃ f3,w3.heap.size=f3:=⟨_,rfl⟩;rw[hf3] at hfl hn1 hnf;simp only[hf3];clear hf3;refine H6.1 (Pa (n:=5) (gf:=130) (N:=96) (bd:=#[.pointer (some ⟨G,0,none⟩)]) rfl (bh func130 (by kernel_rfl) rfl) rfl
  (fun k W=>mi w G (w.heap.size+1) f3 (.slice ka kl kc) a.data.toList (cK a.data.toList b.data.toList (js kept k)) W) (IZ G a.data.toList)
  (fun c W=>False)
  (fun k W V cI h hg hr=>h.own hsz hg hr) (fun k W V cI ⟨lb',h1,h2,h3⟩ hg hr=>⟨lb',h1,EY h2 hg (fun r e=>(hr r e).2),h3⟩) (fun c W V cI h hg hr=>h)
  (by rw[EE _ _ hlb _ (fun k _=>by simp[js])];exact hfl)
  (fun l J Jx W a1 a2 a3 a4 a5 a6=>P8 5 G a.data.toList hla _ (fun k W h=>⟨_,ja _ _ _,h.dl⟩) (fun k W lb' hk h hl' hd' he=>by have e:=P9 hd' h.dl (by rw[hl',ja]);subst e;rw[Pb _ _ (js kept k) (js kept (k+1)) k hla (fun i _ hi=>Jv hi) hk (ab5 kept k) he];exact h) l J Jx W a1 a2 a3 a4 a5 a6) ?round ?done ?stop)
 case round=>
  rintro l k W V hk hI -;clear hfl;have e1:(0:Int)<=(k:Int):=by omega
  have e2:(k:Int)<96:=by omega
  have c1:=hI.c1.1;have c3:=hI.c3.1;have AG:=HC.out (k:Int) V hI.ah;by_cases hpk:ox kept k=true
  ·rw[show iC kept (k:Int)=true from hpk] at AG
   have HK:Hid (Calls prog 131 #[.slice ka kl kc,.int .i64 (k:Int)] V fun e w'=>e=.returned (.bool true)/\w'=V):=AG;clear HC AG;obtain ⟨ld,hld⟩:∃ ld,cK a.data.toList b.data.toList (js kept k)=ld:=⟨_,rfl⟩;have hll:ld.length=768:=by rw[<- hld,ja]
   have he:Hid (ld.take (k*8)++cI a.data.toList k++ld.drop (k*8+8)=cK a.data.toList b.data.toList (js kept (k+1))):=by rw[<- hld];exact IP _ _ _ _ k hla hk (fun i _ hi=>Jv hi) (ab6 hpk)
   rw[hld] at hI;have hset:=(hI.drew).set hn1 hla hll hk he;have hrl:(Lib.byteCells (cI a.data.toList k)).length=8:=by rw[my,BP hla hk]
   have hrow:V.rangeAt G (k*8) (Lib.byteCells (cI a.data.toList k)):=by have:=zj hI.dl.m (k*8) 8;rw[BI,cR] at this;exact this
   have hfin:∀ a',IN WL.heap.size (fun k W=>mi w G (w.heap.size+1) f3 (.slice ka kl kc) a.data.toList (cK a.data.toList b.data.toList (js kept k)) W) (fun c W=>False) k V .normal a' (V.drew.setCells G (768+k*8) (Lib.byteCells (cI a.data.toList k))):=fun a'=>⟨I5 _ _ _ 0 _ _ _ (Qb _ _),hset⟩;let S:World->Prop:=fun W'=>eo f3 0 (.pointer (some ⟨G,0,none⟩)) W'/\W'.rangeAt G (k*8) (Lib.byteCells (cI a.data.toList k))/\W'.there G (768+k*8) 8
   have cQ:S V.drew:=⟨hI.c3,hrow,zm hI.dl.t (by omega) (by omega)⟩;gi_wp2
   refine ⟨trivial,?_⟩;gi_wp2
   refine ⟨trivial,WU l (H3.2 (HK.out.mono ?_))⟩;rintro _ _ ⟨rfl,rfl⟩;gi_wp2
   refine Pg _ (fun A=>A.eval (.tmp 5)=.pointer (some ⟨f3,0,none⟩)/\A.eval (.tmp 6)=.int .i64 (k:Int)/\30<A.tmps.size) ⟨rfl,rfl,by simp⟩ ?_;rintro A ⟨h9,h10,hsz'⟩;have tm:A.tmps[5]?.getD undef=.pointer (some ⟨f3,0,none⟩):=by rw[<- Bb];exact h9
   have aiz:A.tmps[6]?.getD undef=.int .i64 (k:Int):=by rw[<- Bb];exact h10
   have pb:20<A.tmps.size:=by omega
   have oZ:21<A.tmps.size:=by omega
   have q22:22<A.tmps.size:=by omega
   have px:23<A.tmps.size:=by omega
   have q24:24<A.tmps.size:=by omega
   have oU:25<A.tmps.size:=by omega
   have pD:26<A.tmps.size:=by omega
   have pn:27<A.tmps.size:=by omega
   have oL:28<A.tmps.size:=by omega
   have pC:29<A.tmps.size:=by omega
   have oV:30<A.tmps.size:=by omega
   clear hsz';refine Pe (S:=S) (by simp) (by rintro ⟨_,_,h⟩;exact h.elim) (by kernel_rfl) ?_;refine bG (i:=1) (v:=.int .i64 (k:Int)) rfl (by kernel_rfl) (by kernel_rfl) (by kernel_rfl) (fun _ _ _ h=>h) (Or.inl ⟨by rfl,fun w' hS'=>?_⟩) cQ ?_
   ·simp only[ao,execOp,cC,cD,cB,cF,Nat.reduceEqDiff,cG,h9,h10,pb,oZ,q22,px,q24,oU,pD,pn,oL,pC,oV];go_simp
   simp only[ao];refine bG (i:=3) (v:=.int .i64 (k:Int)) rfl (by kernel_rfl) (by kernel_rfl) (by kernel_rfl) (fun _ _ _ h=>h) (Or.inl ⟨by rfl,fun w' hS'=>?_⟩) cQ ?_
   ·simp only[ao,execOp,cC,cD,cB,cF,Nat.reduceEqDiff,cG,h9,h10,pb,oZ,q22,px,q24,oU,pD,pn,oL,pC,oV];go_simp
   simp only[ao];refine bG (i:=0) (v:=.pointer (some ⟨G,0,none⟩)) rfl (by kernel_rfl) (by kernel_rfl) (by kernel_rfl) (fun _ _ _ h=>h) (Or.inl ⟨by rfl,fun w' hS'=>?_⟩) cQ ?_
   ·have hc:=hS'.1.1;simp only[ao,execOp,cC,cD,cB,cF,Nat.reduceEqDiff,cG,h9,h10,pb,oZ,q22,px,q24,oU,pD,pn,oL,pC,oV];go_simp
   simp only[ao];refine bG (i:=2) (v:=.pointer (some ⟨G,0,none⟩)) rfl (by kernel_rfl) (by kernel_rfl) (by kernel_rfl) (fun _ _ _ h=>h) (Or.inl ⟨by rfl,fun w' hS'=>?_⟩) cQ ?_
   ·have hc:=hS'.1.1;simp only[ao,execOp,cC,cD,cB,cF,Nat.reduceEqDiff,cG,h9,h10,pb,oZ,q22,px,q24,oU,pD,pn,oL,pC,oV];go_simp
   simp only[ao];refine bG (i:=4) (v:=.pointer (some ⟨G,0,none⟩)) rfl (by kernel_rfl) (by kernel_rfl) (by kernel_rfl) (fun _ _ _ h=>h) (Or.inl ⟨by rfl,fun w' hS'=>?_⟩) cQ ?_
   ·simp only[ao,execOp,cC,cD,cB,cF,Nat.reduceEqDiff,cG,h9,h10,pb,oZ,q22,px,q24,oU,pD,pn,oL,pC,oV];go_simp
   simp only[ao];refine bG (i:=5) (v:=.pointer (some ⟨G,0,none⟩)) rfl (by kernel_rfl) (by kernel_rfl) (by kernel_rfl) (fun _ _ _ h=>h) (Or.inl ⟨by rfl,fun w' hS'=>?_⟩) cQ ?_
   ·simp only[ao,execOp,cC,cD,cB,cF,Nat.reduceEqDiff,cG,h9,h10,pb,oZ,q22,px,q24,oU,pD,pn,oL,pC,oV];go_simp
   simp only[ao];refine bG (i:=6) (v:=.pointer (some ⟨G,k*8,none⟩)) rfl (by kernel_rfl) (by kernel_rfl) (by kernel_rfl) (fun _ _ _ h=>h) (Or.inl ⟨by rfl,fun w' hS'=>?_⟩) cQ ?_
   ·simp only[ao,execOp,cC,cD,cB,cF,Nat.reduceEqDiff,cG,h9,h10,pb,oZ,q22,px,q24,oU,pD,pn,oL,pC,oV];go_simp
   simp only[ao];refine bG (i:=7) (v:=.agg (Lib.byteCells (cI a.data.toList k)).toArray) rfl (by kernel_rfl) (by kernel_rfl) (by kernel_rfl) (fun _ _ _ h=>h) (yieldsIf_load_mid (by rfl) 166 (.tmp 26) rfl G (k*8) (by simp only[cC,cD,cB,cF,Nat.reduceEqDiff,cG,h9,h10,pb,oZ,q22,px,q24,oU,pD,pn,oL,pC,oV]) _ _ (fun w' hS'=>hS'.2.1) underlying166 rfl (by rw[EJ,hrl])) cQ ?_;simp only[ao];refine bG (i:=8) (v:=.pointer (some ⟨G,0,none⟩)) rfl (by kernel_rfl) (by kernel_rfl) (by kernel_rfl) (fun _ _ _ h=>h) (Or.inl ⟨by rfl,fun w' hS'=>?_⟩) cQ ?_
   ·simp only[ao,execOp,cC,cD,cB,cF,Nat.reduceEqDiff,cG,h9,h10,pb,oZ,q22,px,q24,oU,pD,pn,oL,pC,oV];go_simp
   simp only[ao];refine bG (i:=9) (v:=.pointer (some ⟨G,768,none⟩)) rfl (by kernel_rfl) (by kernel_rfl) (by kernel_rfl) (fun _ _ _ h=>h) (Or.inl ⟨by rfl,fun w' hS'=>?_⟩) cQ ?_
   ·simp only[ao,execOp,cC,cD,cB,cF,Nat.reduceEqDiff,cG,h9,h10,pb,oZ,q22,px,q24,oU,pD,pn,oL,pC,oV];go_simp
   simp only[ao];refine bG (i:=10) (v:=.pointer (some ⟨G,768+k*8,none⟩)) rfl (by kernel_rfl) (by kernel_rfl) (by kernel_rfl) (fun _ _ _ h=>h) (Or.inl ⟨by rfl,fun w' hS'=>?_⟩) cQ ?_
   ·simp only[ao,execOp,cC,cD,cB,cF,Nat.reduceEqDiff,cG,h9,h10,pb,oZ,q22,px,q24,oU,pD,pn,oL,pC,oV];go_simp
   simp only[ao];refine BH (i:=11) (by kernel_rfl) rfl rfl 166 (.tmp 30) (.tmp 27) rfl G (768+k*8) (Lib.byteCells (cI a.data.toList k)) (by simp only[cC,cD,cB,cF,Nat.reduceEqDiff,cG,h9,h10,pb,oZ,q22,px,q24,oU,pD,pn,oL,pC,oV]) (by simp only[cC,cD,cB,cF,Nat.reduceEqDiff,cG,h9,h10,pb,oZ,q22,px,q24,oU,pD,pn,oL,pC,oV]) (by rw[hrl];exact cQ.2.2) (by rw[EJ,hrl]) (DR _)
    ⟨cQ.1.set hn1.2.1 _,A6 cQ.2.1 _ _ _ (by rw[hrl];omega),DW cQ.2.2 _ _ _⟩ (by kernel_rfl) ?_
   exact ⟨(hfin A).1,(hfin A).2⟩
  have hpk':ox kept k=false:=by simpa using hpk
  rw[show iC kept (k:Int)=false from hpk'] at AG
  have HK:Hid (Calls prog 131 #[.slice ka kl kc,.int .i64 (k:Int)] V fun e w'=>e=.returned (.bool false)/\w'=V):=AG;have e:=wX a.data.toList b.data.toList (js kept k) (js kept (k+1)) (fun i _=>ab4 hpk' i);clear HC AG;gi_wp2
  refine ⟨trivial,?_⟩;gi_wp2
  refine ⟨trivial,WU l (H3.2 (HK.out.mono ?_))⟩;rintro _ _ ⟨rfl,rfl⟩;gi_wp2
  rw[e] at hI;exact ⟨Xd _ _,hI⟩
 case done=>
  rintro D W hD hI hK;have hlt1:=hfl.r0.2.2;clear hfl;rw[wX _ _ (js kept 96) (ox kept) (fun i hi=>by rw[js,bF hi,DU])] at hI;go_wp2;rename_i K hKr;obtain ⟨ld,hld⟩:∃ ld,cK a.data.toList b.data.toList (ox kept)=ld:=⟨_,rfl⟩;have hll:ld.length=768:=by rw[<- hld,ja]
  rw[hld] at hI;have gC:sO D w G (w.heap.size+1) f3 (.slice ka kl kc) a.data.toList ld W.drew:=sO.drew ⟨hI,hK⟩;refine zg _ (fun A=>A.eval (.tmp 5)=.pointer (some ⟨f3,0,none⟩)/\A.eval (.tmp 4)=.pointer (some ⟨w.heap.size+2,0,none⟩)/\39<A.tmps.size/\A.defers=[{ target:=.collected D,args:=#[] }]) ⟨rfl,rfl,by simp,rfl⟩ ?_;rintro A ⟨h9,h6,hsz',hdf⟩;have tm:A.tmps[5]?.getD undef=.pointer (some ⟨f3,0,none⟩):=by rw[<- Bb];exact h9
  have qt:31<A.tmps.size:=by omega
  have q32:32<A.tmps.size:=by omega
  have qo:33<A.tmps.size:=by omega
  have qs:34<A.tmps.size:=by omega
  have qj:35<A.tmps.size:=by omega
  have ql:36<A.tmps.size:=by omega
  have qw:37<A.tmps.size:=by omega
  have qm:38<A.tmps.size:=by omega
  have qu:39<A.tmps.size:=by omega
  clear hsz';have cQ:eo f3 0 (.pointer (some ⟨G,0,none⟩)) W.drew:=gC.fl.c3;refine Xe ?_;refine et (S:=eo f3 0 (.pointer (some ⟨G,0,none⟩))) (by kernel_rfl) ?_;refine bG (i:=0) (v:=.pointer (some ⟨G,0,none⟩)) rfl (by kernel_rfl) (by kernel_rfl) (by kernel_rfl) (fun _ _ _ h=>h) (Or.inl ⟨by rfl,fun w' hS'=>?_⟩) cQ ?_
  ·have hc:=hS'.1;simp only[ao,execOp,cC,cD,cB,cF,Nat.reduceEqDiff,cG,h9,h6,qt,q32,qo,qs,qj,ql,qw,qm,qu];go_simp
  simp only[ao];refine bG (i:=4) (v:=.pointer (some ⟨G,0,none⟩)) rfl (by kernel_rfl) (by kernel_rfl) (by kernel_rfl) (fun _ _ _ h=>h) (Or.inl ⟨by rfl,fun w' hS'=>?_⟩) cQ ?_
  ·have hc:=hS'.1;simp only[ao,execOp,cC,cD,cB,cF,Nat.reduceEqDiff,cG,h9,h6,qt,q32,qo,qs,qj,ql,qw,qm,qu];go_simp
  simp only[ao];refine bG (i:=1) (v:=.pointer (some ⟨G,0,none⟩)) rfl (by kernel_rfl) (by kernel_rfl) (by kernel_rfl) (fun _ _ _ h=>h) (Or.inl ⟨by rfl,fun w' hS'=>?_⟩) cQ ?_
  ·simp only[ao,execOp,cC,cD,cB,cF,Nat.reduceEqDiff,cG,h9,h6,qt,q32,qo,qs,qj,ql,qw,qm,qu];go_simp
  simp only[ao];refine bG (i:=5) (v:=.pointer (some ⟨G,0,none⟩)) rfl (by kernel_rfl) (by kernel_rfl) (by kernel_rfl) (fun _ _ _ h=>h) (Or.inl ⟨by rfl,fun w' hS'=>?_⟩) cQ ?_
  ·simp only[ao,execOp,cC,cD,cB,cF,Nat.reduceEqDiff,cG,h9,h6,qt,q32,qo,qs,qj,ql,qw,qm,qu];go_simp
  simp only[ao];refine bG (i:=2) (v:=.pointer (some ⟨G,768,none⟩)) rfl (by kernel_rfl) (by kernel_rfl) (by kernel_rfl) (fun _ _ _ h=>h) (Or.inl ⟨by rfl,fun w' hS'=>?_⟩) cQ ?_
  ·simp only[ao,execOp,cC,cD,cB,cF,Nat.reduceEqDiff,cG,h9,h6,qt,q32,qo,qs,qj,ql,qw,qm,qu];go_simp
  simp only[ao];refine bG (i:=6) (v:=.pointer (some ⟨G,768,none⟩)) rfl (by kernel_rfl) (by kernel_rfl) (by kernel_rfl) (fun _ _ _ h=>h) (Or.inl ⟨by rfl,fun w' hS'=>?_⟩) cQ ?_
  ·simp only[ao,execOp,cC,cD,cB,cF,Nat.reduceEqDiff,cG,h9,h6,qt,q32,qo,qs,qj,ql,qw,qm,qu];go_simp
  simp only[ao];refine ze (i:=3) (by kernel_rfl) rfl rfl (.tmp 33) _ rfl (.pointer (some ⟨G,768,none⟩)) (by simp only[cC,cD,cB,cF,Nat.reduceEqDiff,cG,h9,h6,qt,q32,qo,qs,qj,ql,qw,qm,qu]) (bh func132 (by kernel_rfl) rfl) ((QX gC hll).mono ?_);rintro e w4 ⟨rfl,h4⟩;refine ⟨_,rfl,h4.fl.c3,?_⟩;simp only[ao];refine ze (i:=7) (by kernel_rfl) rfl rfl (.tmp 37) _ rfl (.pointer (some ⟨G,768,none⟩)) (by simp only[cC,cD,cB,cF,Nat.reduceEqDiff,cG,h9,h6,qt,q32,qo,qs,qj,ql,qw,qm,qu]) (bh func132 (by kernel_rfl) rfl) ((QX h4 hll).mono ?_);rintro e w5 ⟨rfl,h5⟩;refine ⟨_,rfl,h5.fl.c3,?_⟩;simp only[ao];refine bG (i:=8) (v:=.agg #[.string ⟨ld.toArray⟩,.string ⟨ld.toArray⟩]) rfl (by kernel_rfl) (by kernel_rfl) (by kernel_rfl) (fun _ _ _ h=>h) (Or.inl ⟨by rfl,fun w' hS'=>?_⟩) h5.fl.c3 ?_
  ·simp only[ao,execOp,cC,cD,cB,cF,Nat.reduceEqDiff,cG,h9,h6,qt,q32,qo,qs,qj,ql,qw,qm,qu];go_simp
  simp only[ao];have hth:w5.there (w.heap.size+2) 0 2:=fun j hj=>by
   match j,hj with
   | 0,_=>exact ⟨by rw[h5.fl.r0.1];rfl,h5.fl.r0.2.1⟩
   | 1,_=>exact ⟨by rw[h5.fl.r1.1];rfl,h5.fl.r1.2.1⟩
  refine BH (i:=9) (by kernel_rfl) rfl rfl 25 (.tmp 4) (.tmp 39) rfl (w.heap.size+2) 0 [.string ⟨ld.toArray⟩,.string ⟨ld.toArray⟩] (by simp only[cC,cD,cB,cF,Nat.reduceEqDiff,cG,h9,h6,qt,q32,qo,qs,qj,ql,qw,qm,qu]) (by simp only[cC,cD,cB,cF,Nat.reduceEqDiff,cG,h9,h6,qt,q32,qo,qs,qj,ql,qw,qm,qu]) hth zu (by simp[Value.oneCell']) (h5.fl.c3.set (fun e=>hnf e.symm) _) (by kernel_rfl) ?_;refine Xf ?_;have hh:(w5.setCells (w.heap.size+2) 0 [.string ⟨ld.toArray⟩,.string ⟨ld.toArray⟩]).heap[D]? = some (.deferred (some [])):=(E3 _ (by omega) _ _ ()).trans h5.dk;have pd:=A7 w5 (w.heap.size+2) 0 [.string ⟨ld.toArray⟩,.string ⟨ld.toArray⟩] hth;have hbel:=qF (show w.heap.size<=w.heap.size+2 by omega) [.string ⟨ld.toArray⟩,.string ⟨ld.toArray⟩] 0 _ h5.fl.ah;obtain ⟨W6,rG⟩:∃ W6,w5.setCells (w.heap.size+2) 0 [.string ⟨ld.toArray⟩,.string ⟨ld.toArray⟩]=W6:=⟨_,rfl⟩;rw[rG] at hh pd hbel ⊢;refine hKr _ _ ?_;refine zg _ (fun A2=>A2.eval (.tmp 4)=.pointer (some ⟨w.heap.size+2,0,none⟩)/\A2.defers=[{ target:=.collected D,args:=#[] }]) ⟨by simp only[ao,zh,cC,cD,cB,cF,Nat.reduceEqDiff,cG,h9,h6,qt,q32,qo,qs,qj,ql,qw,qm,qu],by simp only[ao,zh,IS];exact hdf⟩ ?_;rintro A2 ⟨k6,CN⟩;have hr':(W6.putObj D (.deferred none)).rangeAt (w.heap.size+2) 0 [.string ⟨ld.toArray⟩,.string ⟨ld.toArray⟩]:=fun j v hj=>Ba (pd j v hj) (Xg _ D _) (fun r e=>by cases e;exact ⟨_,hh,rfl⟩);have hlv:=NB (P:=prog) _ _ _ 25 _ _ hr' underlying25 rfl zu;have hbb:=hbel.trans (belowK_b (w:=w) (aq _) W6 D _ (.deferred none) (by omega) hh rfl rfl);clear hKr h4 h5 hth pd hbel gC cQ;refine wp_ret ?_;refine IQ CN hh ⟨.agg #[.string ⟨ld.toArray⟩,.string ⟨ld.toArray⟩],?_,?_⟩
  ·rw[EK rfl];show ((asAddr (A2.eval (.tmp 4))).run prog _).andThen _=_
   rw[k6];simp only[asAddr,H4,H5];exact hlv
  exact ⟨by rw[<- hld];rfl,hbb⟩
 case stop=>
 rintro D c W hD h hK;exact h.elim
theorem ab9 (a b:ByteArray) (ka:Option Addr) (kc:Nat) (kept:List Int) (w:World) (ha:a.size<=281474976710656) (hb:b.size<=281474976710656) (hn:kept.length<=1048576) (hR:aI w ka kept):Calls prog 65 #[.agg #[.string a,.string b],.slice ka kept.length kc] w fun e w'=>e=.returned (.agg #[.string (vu a b kept),.string (vv a b kept)])/\Below w.heap.size w w':=by
 by_cases hok:cT a b=true
 ·have eM:vu a b kept=eT a b kept:=aF hok;have eD:vv a b kept=eT a b kept:=aF hok;rw[eM,eD];exact ab8 a b ka kc kept w (nW hok).1 (nW hok).2 hn hR
 have hok':cT a b=false:=by simpa using hok
 have eM:vu a b kept=a:=aG hok;have eD:vv a b kept=b:=aG hok;rw[eM,eD];have CX:a.size<=maxLen:=by unfold maxLen;omega
 have hmb:b.size<=maxLen:=by unfold maxLen;omega
 obtain ⟨kl,hkl⟩:∃ kl,kept.length=kl:=⟨_,rfl⟩;rw[hkl];obtain ⟨s1,s2,s3,s4⟩:=QY a b (.slice ka kl kc) w;have k0:=((bu [.string a,.string b] w 25).alloc (.cells #[.slice ka kl kc] 29)).alloc (.cells #[.string ⟨#[]⟩,.string ⟨#[]⟩] 25);have x0:=k0.c0;have x1:=k0.c1;have k1:=k0.alloc (.cells #[.string a,.string b] 25);have y0:=k1.c0;have y1:=k1.c1;have t2:=s2.alloc (.cells #[.string a,.string b] 25);have t3:=s3.alloc (.cells #[.string a,.string b] 25);have t4:=s4.alloc s4.size (.cells #[.string a,.string b] 25);clear eM eD hkl hR hok;go_enter func65,ntmps65;go_wp2_with (first
  | (go_at_call 35;refine (Ez _ _ _ CX hmb).mono ?_;rintro e w1 ⟨rfl,rfl⟩;rw[hok'])
  | (go_at_call 128;refine (ON _ _ _ ha hb).mono ?_;rintro e w2 ⟨rfl,b2⟩;have u2:=t2.below b2;have u3:=t3.below b2;have d2:=u2.1;have d3:=u3.1;have d4:=u2.2.1;have d5:=u3.2.1;have u4:=t4.trans (b2.mono t4.size)))
 have q:=qO (a:=a) (b:=b) (B:=w.heap.size+1+1) d2 d3;exact bL (v:=.agg #[.string a,.string b]) (by simp[results,results65,go_sem,q.1,q.2]) rfl ⟨rfl,(u4.setCell (p:=⟨w.heap.size+2,0,none⟩) (show w.heap.size<=w.heap.size+2 by omega) _).setCell (p:=⟨w.heap.size+2,1,none⟩) (show w.heap.size<=w.heap.size+2 by omega) _⟩
end
section
open Go.Sort
variable {α : Type}
def oy (x y:ByteArray):Bool:=Op.bytesLess x.toList y.toList
theorem Cj:∀ (x y:List UInt8),Op.bytesLess x y=decide (x<y)
 | [],[]=>by simp[Op.bytesLess]
 | _ :: _,[]=>by simp[Op.bytesLess]
 | [],_ :: _=>by simp[Op.bytesLess]
 | a :: x,b :: y=>by rw[Op.bytesLess,Cj x y];simp only[List.cons_lt_cons_iff];by_cases h1:a<b <;> by_cases h2:a=b <;> by_cases h3:x<y <;> simp[h1,h2,h3]
theorem QZ:∀ (x y:List UInt8),decide (Lib.compareBytes x y<0)=Op.bytesLess x y
 | [],[]=>by simp[Op.bytesLess,Lib.compareBytes]
 | _ :: _,[]=>by simp[Op.bytesLess,Lib.compareBytes]
 | [],_ :: _=>by simp[Op.bytesLess,Lib.compareBytes]
 | a :: x,b :: y=>by
  rw[Op.bytesLess,Lib.compareBytes,<- QZ x y];by_cases h1:a<b;·simp[h1]
  ·by_cases h2:b<a
   ·have h3:¬ a=b:=by rintro rfl;exact h1 h2
    simp[h1,h2,h3]
   have h3:a=b:=UInt8.le_antisymm (UInt8.not_lt.1 h2) (UInt8.not_lt.1 h1);subst h3;simp[h1]
theorem Q2 (key:α->ByteArray):SWO (fun x y=>oy (key x) (key y)) where
 irrefl x:=by have:=swo_ltStr.irrefl (key x).toList;unfold oy;rw[Cj];exact this
 trans x y z h1 h2:=by unfold oy at *;rw[Cj] at *;exact swo_ltStr.trans _ _ _ h1 h2
 ntrans x y z h1 h2:=by unfold oy at *;rw[Cj] at *;exact swo_ltStr.ntrans _ _ _ h1 h2
theorem aca {x y:ByteArray} (h1:oy x y=false) (h2:oy y x=false):x=y:=by unfold oy at *;rw[Cj] at *;simp only[qy] at *;have:=List.le_antisymm (List.not_lt.1 h2) (List.not_lt.1 h1);rw[pH,pH] at this;cases x;cases y;simp_all
def sP (p:α->α->Bool) (f:α) (l:List α):List α:=l.takeWhile (fun x=>p x f)++f :: l.dropWhile (fun x=>p x f)
def xy (p:α->α->Bool) (acc:List α):List α->List α
 | []=>acc
 | f :: r=>xy p (sP p f acc) r
def xz (p:α->α->Bool) (l:List α):Prop:=l.Pairwise fun a b=>p b a=false
theorem Q3 (p:α->α->Bool) (f:α) (l:List α):(sP p f l).Perm (f :: l):=by unfold sP;refine List.perm_middle.trans ?_;rw[Xi]
theorem Q4 {p:α->α->Bool} (hp:SWO p) (f:α):∀ {l:List α},xz p l->xz p (sP p f l)
 | [],_=>by simp[sP,xz]
 | a :: l,h=>by
  obtain ⟨h1,h2⟩:=uN.1 h;by_cases ha:p a f=true
  ·have e:sP p f (a :: l)=a :: sP p f l:=by simp[sP,ha]
   rw[e];refine uN.2 ⟨fun b hb=>?_,Q4 hp f h2⟩;rcases iY.1 ((Q3 p f l).mem_iff.1 hb) with rfl | hb
   ·by_cases hq:p b a=true
    ·have:=hp.trans _ _ _ ha hq;rw[hp.irrefl] at this;cases this
    simpa using hq
   exact h1 b hb
  ·have ha':p a f=false:=by simpa using ha
   have e:sP p f (a :: l)=f :: a :: l:=by simp[sP,ha']
   rw[e];refine uN.2 ⟨fun b hb=>?_,h⟩;rcases iY.1 hb with rfl | hb;·exact ha'
   exact hp.ntrans _ _ _ (h1 b hb) ha'
theorem Fy (p:α->α->Bool):∀ (l acc:List α),(xy p acc l).Perm (acc++l)
 | [],acc=>by simp[xy]
 | f :: r,acc=>by rw[xy];refine (Fy p r _).trans ?_;exact ((Q3 p f acc).append_right r).trans (List.perm_middle.symm)
theorem Q5 {p:α->α->Bool} (hp:SWO p):∀ (l:List α) {acc:List α},xz p acc->xz p (xy p acc l)
 | [],acc,h=>h
 | f :: r,acc,h=>Q5 hp r (Q4 hp f h)
theorem Q6 {p:α->α->Bool}:∀ {l m:List α},l.Perm m->xz p l->xz p m->(∀ a ∈ l,∀ b ∈ l,p a b=false->p b a=false->a=b)->l=m
 | [],m,h,_,_,_=>by rw[List.nil_perm.1 h]
 | a :: l,[],h,_,_,_=>by simp at h
 | a :: l,b :: m,h,h1,h2,hu=>by
  obtain ⟨a1,a2⟩:=uN.1 h1;obtain ⟨b1,b2⟩:=uN.1 h2;have e:a=b:=by
   rcases iY.1 (h.mem_iff.1 (D4 (a:=a) (l:=l))) with e | ha;·exact e
   rcases iY.1 (h.mem_iff.2 (D4 (a:=b) (l:=m))) with e | hb;·exact e.symm
   exact hu a D4 b (tB _ hb) (b1 a ha) (a1 b hb)
  subst e;rw[Q6 ((List.perm_cons a).1 h) a2 b2 (fun x hx y hy=>hu x (tB _ hx) y (tB _ hy))]
theorem acb {p:α->α->Bool} [Inhabited α] (hp:SWO p) {d d':Array α} (h1:PermIn 0 d.size d d') (h2:SortedIn p 0 d.size d') (hu:∀ a ∈ d.toList,∀ b ∈ d.toList,p a b=false->p b a=false->a=b):d'.toList=xy p [] d.toList:=by
 obtain ⟨hs,-,hperm⟩:=h1;have e1:d.extract 0 d.size=d:=by simp
 have e2:d'.extract 0 d.size=d':=by rw[<- hs];simp
 rw[e1,e2] at hperm;refine Q6 (hperm.trans ((Fy p d.toList []).trans (by simp)).symm) ?_ (Q5 hp _ List.Pairwise.nil) ?_
 ·refine sc.2 fun i j hi hj hij=>?_;have:=h2 i j (aS _) hij (by simp at hj;omega);simpa [getElem!_pos,hi,hj,show i<d'.size by simpa using hi,show j<d'.size by simpa using hj] using this
 intro a ha b hb;exact hu a (hperm.mem_iff.1 ha) b (hperm.mem_iff.1 hb)
end
theorem acd (n:Int) (hn:(Lit.int .i64 n).wf=true) (w:World) (htab:Lib.TabIs prog w "internal/strconv.uint64pow10" .u64 Lib.pow10Tab):Calls prog 107 #[.int .i64 n] w fun e w'=>e=.returned (.string ⟨(Lib.itoa n).toArray⟩)/\Below w.heap.size w w':=by
 have hb : -9223372036854775808<=n/\n<=9223372036854775807:=by simpa [Lit.wf,IntKind.min,IntKind.max,IntKind.signed,IntKind.bits] using hn
 go_enter func107,ntmps107;go_wp2_with (go_at_call 160;refine (Tryz.strconv_Itoa _ hb.1 hb.2 _ htab).mono ?_;rintro e w' ⟨rfl,k,os,rfl⟩);go_ret;exact ⟨rfl,abI k os⟩
end Go.Proofs.YtidmmopnkjbjoaaGreatDoor
namespace Go.Proofs
open Go.Shelf
def Tryz.sortFl_ren:Go.Shelf.Ren:=⟨fun | 6=>46 | 15=>104 | 14=>103 | 28=>154 | 29=>155 | 20=>146 | 21=>147 | 22=>148 | 23=>149 | 24=>150 | 25=>151 | 26=>152 | 27=>153 | 46=>196 | 47=>197 | 48=>198 | 49=>199 | 50=>200 | 57=>236 | n=>n,fun | 22=>71 | 24=>75 | 25=>77 | 3=>3 | 39=>142 | 0=>0 | 53=>95 | 55=>202 | 4=>4 | 46=>195 | 45=>194 | 50=>191 | 5=>5 | 9=>9 | 66=>237 | 70=>241 | 76=>269 | 77=>270 | n=>n,fun | n=>n⟩
theorem Tryz.sortFl:Go.Proofs.SlLaysF0.n6 Tryz.prog Tryz.sortFl_ren:={
 mixed:=by kernel_rfl
 f6:=⟨Tryz.f46.name,by decide,Tryz.func46.trans (congrArg some (by kernel_rfl))⟩
 f14:=⟨Tryz.f103.name,by decide,Tryz.func103.trans (congrArg some (by kernel_rfl))⟩
 f15:=Tryz.func104.trans (congrArg some (by kernel_rfl))
 f20:=⟨Tryz.f146.name,by decide,Tryz.func146.trans (congrArg some (by kernel_rfl))⟩
 f21:=⟨Tryz.f147.name,by decide,Tryz.func147.trans (congrArg some (by kernel_rfl))⟩
 f22:=⟨Tryz.f148.name,by decide,Tryz.func148.trans (congrArg some (by kernel_rfl))⟩
 f23:=⟨Tryz.f149.name,by decide,Tryz.func149.trans (congrArg some (by kernel_rfl))⟩
 f24:=⟨Tryz.f150.name,by decide,Tryz.func150.trans (congrArg some (by kernel_rfl))⟩
 f25:=⟨Tryz.f151.name,by decide,Tryz.func151.trans (congrArg some (by kernel_rfl))⟩
 f26:=⟨Tryz.f152.name,by decide,Tryz.func152.trans (congrArg some (by kernel_rfl))⟩
 f27:=⟨Tryz.f153.name,by decide,Tryz.func153.trans (congrArg some (by kernel_rfl))⟩
 f28:=Tryz.func154.trans (congrArg some (by kernel_rfl))
 f29:=Tryz.func155.trans (congrArg some (by kernel_rfl))
 f46:=⟨Tryz.f196.name,by decide,Tryz.func196.trans (congrArg some (by kernel_rfl))⟩
 f47:=Tryz.func197.trans (congrArg some (by kernel_rfl))
 f48:=Tryz.func198.trans (congrArg some (by kernel_rfl))
 f49:=⟨Tryz.f199.name,by decide,Tryz.func199.trans (congrArg some (by kernel_rfl))⟩
 f50:=⟨Tryz.f200.name,by decide,Tryz.func200.trans (congrArg some (by kernel_rfl))⟩
 f57:=⟨Tryz.f236.name,by decide,Tryz.func236.trans (congrArg some (by kernel_rfl))⟩
 t0:=Tryz.underlying0
 a0:=Tryz.isAgg0
 z0:=Tryz.sizeOf0
 v0:=Tryz.zeroValue0
 t3:=Tryz.underlying3
 a3:=Tryz.isAgg3
 z3:=Tryz.sizeOf3
 v3:=Tryz.zeroValue3
 t4:=Tryz.underlying4
 a4:=Tryz.isAgg4
 z4:=Tryz.sizeOf4
 v4:=Tryz.zeroValue4
 t5:=Tryz.underlying5
 a5:=Tryz.isAgg5
 z5:=Tryz.sizeOf5
 v5:=Tryz.zeroValue5
 t9:=Tryz.underlying9
 a9:=Tryz.isAgg9
 z9:=Tryz.sizeOf9
 v9:=Tryz.zeroValue9
 t22:=Tryz.underlying71
 a22:=Tryz.isAgg71
 z22:=Tryz.sizeOf71
 v22:=Tryz.zeroValue71
 t25:=Tryz.underlying77
 a25:=Tryz.isAgg77
 z25:=Tryz.sizeOf77
 v25:=Tryz.zeroValue77
 t39:=Tryz.underlying142
 a39:=Tryz.isAgg142
 z39:=Tryz.sizeOf142
 v39:=Tryz.zeroValue142
 t45:=Tryz.underlying194
 a45:=Tryz.isAgg194
 z45:=Tryz.sizeOf194
 v45:=Tryz.zeroValue194
 t46:=Tryz.underlying195
 a46:=Tryz.isAgg195
 z46:=Tryz.sizeOf195
 v46:=Tryz.zeroValue195
 t50:=Tryz.underlying191
 a50:=Tryz.isAgg191
 z50:=Tryz.sizeOf191
 v50:=Tryz.zeroValue191
 t53:=Tryz.underlying95
 a53:=Tryz.isAgg95
 z53:=Tryz.sizeOf95
 v53:=Tryz.zeroValue95
 t55:=Tryz.underlying202
 a55:=Tryz.isAgg202
 z55:=Tryz.sizeOf202
 v55:=Tryz.zeroValue202
 t66:=Tryz.underlying237
 a66:=Tryz.isAgg237
 z66:=Tryz.sizeOf237
 v66:=Tryz.zeroValue237
 t70:=Tryz.underlying241
 a70:=Tryz.isAgg241
 z70:=Tryz.sizeOf241
 v70:=Tryz.zeroValue241
 t76:=Tryz.underlying269
 a76:=Tryz.isAgg269
 z76:=Tryz.sizeOf269
 v76:=Tryz.zeroValue269
 t77:=Tryz.underlying270
 a77:=Tryz.isAgg270
 z77:=Tryz.sizeOf270
 v77:=Tryz.zeroValue270 }
end Go.Proofs
namespace Go.Proofs.YtidmmopnkjbjoaaGreatDoor
open ChangeShapes WideShapes ChangeAt RowKit
open Go.Proofs.Tryz
theorem ace (a b:ByteArray) (ka:Option Addr) (kc:Nat) (kept:List Int) (w:World) (ha:a.size<=281474976710656) (hb:b.size<=281474976710656) (hn:kept.length<=1048576) (hR:aI w ka kept):Calls prog 21 #[.agg #[.string a,.string b],.slice ka kept.length kc] w fun e w'=>e=.returned (.agg #[.string (vu a b kept),.string (vv a b kept)])/\Below w.heap.size w w':=by
 have hF:=zb a b w;by_cases hok:cT a b=true
 ·obtain ⟨yI,GR⟩:=nW hok;have eM:vu a b kept=eT a b kept:=aF hok;have eD:vv a b kept=eT a b kept:=aF hok;rw[eM,eD];have hlb:b.data.toList.length=768:=by rw[<- cV];exact GR
  have hd:tS a b=fg a b 96:=aF hok;have HG:Hid (∀ i,i<(fg a b 96).length->∃ q:Nat,q<96/\(fg a b 96).getD i 0=(q:Int)):=fun i hi=>abu hi;have HA:Hid (cK a.data.toList b.data.toList (jr (fg a b 96) kept (fg a b 96).length)=cK a.data.toList b.data.toList (ox kept)):=abv yI GR;have hzl:=QA a b 96;have sD:Hid (∀ W,Calls prog 69 #[.agg #[.string a,.string b]] W fun e w'=>∃ p c,e=.returned (.slice p (fg a b 96).length c)/\aQ W.heap.size w' p (fg a b 96)/\Below W.heap.size W w'):=fun W=>(QB a b W ha hb).mono fun e w' ⟨p,c,he,ho,hc,hb⟩=>by rw[hd] at he ho;exact ⟨p,c,he,ho,hb⟩
  obtain ⟨Z,hZ⟩:∃ Z,fg a b 96=Z:=⟨_,rfl⟩;rw[hZ] at HG HA hzl sD;clear hZ hd;have HH:Hid (∀ (q:Int) W,Below w.heap.size w W->Calls prog 70 #[.slice ka kept.length kc,.int .i64 q] W fun e w'=>e=.returned (.bool (iC kept q))/\W=w'):=fun q W hW=>(abo ka kc kept q W hn (hR.below hW)).mono fun _ _ h=>⟨h.1,h.2.symm⟩;go_enter func21,ntmps21;go_wp2_with (go_at_call 69;refine (sD.out _).mono ?_;rintro e w1 ⟨p,c,rfl,o1,b1⟩;have h1:=hF.below b1);have o2:aQ (w.heap.size+2) w1 p Z:=by simpa using o1
  go_loopw [6] (fun t w'=>∃ k:Nat,k<=Z.length/\t=.int .i64 k/\gv w.heap.size w a ⟨(cK a.data.toList b.data.toList (jr Z kept k)).toArray⟩ w'/\aQ (w.heap.size+2) w' p Z) (fun t _=>Z.length-(intOf t).toNat);case atStart=>
   refine ⟨0,aS _,rfl,?_,o2⟩;rw[EE _ _ hlb (jr Z kept 0) (fun k _=>rfl),show (⟨b.data.toList.toArray⟩:ByteArray)=b from yL b]
   exact h1
  case round=>
  obtain ⟨k,hk,rfl,jx,ho⟩:=hrel;clear h1 o1 o2 b1 hF sD;have z0:=jx.c0;have z1:=jx.c1;by_cases hlt:k<Z.length
  ·obtain ⟨q,Wv,hq⟩:=HG.out k hlt;obtain ⟨g,off,hp,hgl,hc⟩:=ho.row.get hlt;have x1:=hc k hlt;rw[hq] at x1;have e1:(0:Int)<=(k:Int):=by omega
   have e2:(k:Int)<(Z.length:Int):=by omega
   have hbel:=jx.ah;have hbs:=I7 a.data.toList b.data.toList (jr Z kept k);clear hc HG HA;by_cases hh:iC kept (q:Int)=true
   ·have HM:Hid (bJ ⟨(cK a.data.toList b.data.toList (jr Z kept k)).toArray⟩ ((q:Int)*8) (aO a ((q:Int)*8) 8)=⟨(cK a.data.toList b.data.toList (jr Z kept (k+1))).toArray⟩):=Pc a b.data.toList (jr Z kept k) (jr Z kept (k+1)) q yI Wv (QD hlt hq) (abr hlt hq hh);have ya:=HH.out (q:Int);rw[hh] at ya;have HQ:Hid (∀ W,Below w.heap.size w W->Calls prog 70 #[.slice ka kept.length kc,.int .i64 (q:Int)] W fun e w'=>e=.returned (.bool true)/\W=w'):=ya;obtain ⟨bk,hbk⟩:∃ bk:ByteArray,(⟨(cK a.data.toList b.data.toList (jr Z kept k)).toArray⟩:ByteArray)=bk:=⟨_,rfl⟩;rw[hbk] at jx z1 HM hbs;clear hbk ya HH hq hh;subst hp;have gC:=jx.drew;have hod:=ho.drew;go_wp2_with (go_at_call 70;refine (HQ.out _ hbel).mono ?_;rintro e w2 ⟨rfl,rfl⟩);go_region_with (go_at_call 71;refine (Qg a bk q _ yI hbs Wv).mono ?_;rintro e w3 ⟨rfl,b3⟩;have h4:=gC.below b3;have o4:=hod.below b3;have v0:=h4.c0;have v1:=h4.c1;have v2:=h4.g0;have v3:=h4.g1)
    all_goals
     have h5:=I6 (h4.GA a) (bJ bk ((q:Int)*8) (aO a ((q:Int)*8) 8));have o5:=(o4.set (B:=w.heap.size) (by omega) 0 (.string a)).set (B:=w.heap.size) (by omega) 1 (.string (bJ bk ((q:Int)*8) (aO a ((q:Int)*8) 8)));go_wp2;go_roundw;case rel=>exact ⟨k+1,by omega,by go_num,by rw[<- HM.out];exact h5,o5⟩
     case measure=>simp[intOf];omega
   have hh':iC kept (q:Int)=false:=by simpa using hh
   have HM:Hid (cK a.data.toList b.data.toList (jr Z kept k)=cK a.data.toList b.data.toList (jr Z kept (k+1))):=wX _ _ _ _ (abt hlt hq hh');have ya:=HH.out (q:Int);rw[hh'] at ya;have HQ:Hid (∀ W,Below w.heap.size w W->Calls prog 70 #[.slice ka kept.length kc,.int .i64 (q:Int)] W fun e w'=>e=.returned (.bool false)/\W=w'):=ya;clear ya HH hq hh hh';subst hp;go_wp2_with (go_at_call 70;refine (HQ.out _ hbel).mono ?_;rintro e w2 ⟨rfl,rfl⟩);go_roundw;case rel=>exact ⟨k+1,by omega,by go_num,by rw[<- HM.out];exact jx,ho⟩
   case measure=>simp[intOf];omega
  obtain rfl:k=Z.length:=by omega
  rw[HA.out] at jx z1;have hbs:=I7 a.data.toList b.data.toList (ox kept);obtain ⟨bk,hbk⟩:∃ bk:ByteArray,(⟨(cK a.data.toList b.data.toList (ox kept)).toArray⟩:ByteArray)=bk:=⟨_,rfl⟩;rw[hbk] at jx z1 hbs;have HB:Hid (eT a b kept=bk):=hbk;have hok2:cT a bk=true:=za yI hbs;clear hbk HG HA HH hok eM eD;go_wp2_with (go_at_call 25;refine (uW _ _ ha (by omega) jx).mono ?_;rintro e w2 ⟨rfl,h2⟩;rw[hok2];have y0:=h2.c0;have y1:=h2.c1;have y2:=h2.g0;have y3:=h2.g1;have h3:=h2.GA bk;have u0:=h3.c0;have u1:=h3.c1;have d2:=h3.r0;have d3:=h3.r1;have d4:=h3.f0;have d5:=h3.f1);have q:=qO (a:=bk) (b:=bk) d2 d3;exact bL (v:=.agg #[.string bk,.string bk]) (by simp[results,results21,go_sem,q.1,q.2]) rfl ⟨by rw[HB.out],h3.done _ _⟩
 have hok':cT a b=false:=by simpa using hok
 have eM:vu a b kept=a:=aG hok;have eD:vv a b kept=b:=aG hok;rw[eM,eD];have hd:tS a b=[]:=aG hok;have sD:Hid (∀ W,Calls prog 69 #[.agg #[.string a,.string b]] W fun e w'=>∃ p c,e=.returned (.slice p 0 c)/\Below W.heap.size W w'):=fun W=>(QB a b W ha hb).mono fun e w' ⟨p,c,he,ho,hc,hb⟩=>by rw[hd] at he;exact ⟨p,c,he,hb⟩
 clear hd eM eD hok;go_enter func21,ntmps21;go_wp2_with (go_at_call 69;refine (sD.out _).mono ?_;rintro e w1 ⟨p,c,rfl,b1⟩;have h1:=hF.below b1);go_loopw [6] (fun t w'=>t=.int .i64 0/\w'=w1) (fun t _=>0);case atStart=>exact ⟨rfl,rfl⟩
 case round=>
 obtain ⟨rfl,rfl⟩:=hrel;have z0:=h1.c0;have z1:=h1.c1;clear hF sD;go_wp2_with (go_at_call 25;refine (uW _ _ ha hb h1).mono ?_;rintro e w2 ⟨rfl,h2⟩;rw[hok'];have y0:=h2.c0;have y1:=h2.c1;have d2:=h2.r0;have d3:=h2.r1;have d4:=h2.f0;have d5:=h2.f1);have q:=qO (a:=a) (b:=b) d2 d3;exact bL (v:=.agg #[.string a,.string b]) (by simp[results,results21,go_sem,q.1,q.2]) rfl ⟨rfl,h2.done _ _⟩
section
variable {w : World} {a : Option Addr} {len cap : Nat}
theorem acf (x:Int) (h0:0<=x) (h1:x<96):∀ v ∈ (#[Value.int .i64 0,Value.int .i64 1,Value.int .i64 2,Value.int .i64 3,Value.int .i64 4,Value.int .i64 5,Value.int .i64 6,Value.int .i64 7,Value.int .i64 20,Value.int .i64 95,Value.int .i64 96,Value.int .i64 (-1),Value.int .i64 x]:Array Value).toList,qT v:=by intro v hv;simp at hv;rcases hv with rfl | rfl | rfl | rfl | rfl | rfl | rfl | rfl | rfl | rfl | rfl | rfl | rfl <;> exact tQ (by omega) (by omega)
theorem acg {base n cp:Nat} {p:Option Addr} {W:World} {zs:List Int} {ops:Array Oper} {rest:List Oper} {o:Oper} {A:Act} {Q:Exit->Act->World->Prop} (hgd:o.guard=none) (sl x:Operand) (ho:o.op=.call { callee:=.builtin .append,args:=#[sl,x],argTypes:=#[29,29] }) (hbuf:bo base W p n cp zs) (z:Int) (hs:A.eval sl=.slice p n cp) (hx:A.eval x=.slice (some ⟨W.heap.size,0,none⟩) 1 1) (hlen:n+1<=1048576) (hb:base<=W.heap.size) (h:∀ g' cap' w',bo base w' (some ⟨g',0,none⟩) (n+1) cap' (zs ++ [z])->(W.alloc (.cells #[.int .i64 z] 3)).grownBy w' (Value.slice p n cp).ownBlock->wpList prog ops Q rest (A.put o.dst (.slice (some ⟨g',0,none⟩) (n+1) cap')) w'):wpList prog ops Q (o :: rest) A (W.alloc (.cells #[.int .i64 z] 3)):=by obtain ⟨i0,hi,hz0,hz1,hz2⟩:=iW tL;have hb2:=hbuf.alloc (.cells #[.int .i64 z] 3);refine rY _ hgd sl x 29 ho base 3 i0 (.int .i64 0) 1 8 underlying29 hi hz0 hz1 hz2 rfl (by omega) _ n _ hs hb2.2 ⟨W.heap.size,0,none⟩ 1 1 [.int .i64 z] hx rfl (rZ (pF W _)) (Et z) (by omega) (by unfold maxLen;omega) (by omega) (by simp;omega) _ rfl ?_;intro g' cap' w' ho' hg' _ _;refine h g' cap' w' ⟨by rw[hbuf.1];simp,?_⟩ hg';rw[<- Eu];exact ho'
theorem Jw {base n cp c:Nat} {p:Option Addr} {W V:World} {zs:List Int} (h:bo base W p n cp zs) (hg:W.grownBy V (some c)) (hc:c<base):bo base V p n cp zs:=by
 refine ⟨h.1,h.2.1,?_⟩;rcases h.2.2 with h0 | ⟨g,cc,cur,hv,hbase,UG,hrest⟩;·exact Or.inl h0
 refine Or.inr ⟨g,cc,cur,hv,hbase,?_,hrest⟩;rw[hg.block g (mY.1 UG).1 (fun e=>by have:=jT e;omega)];exact UG
theorem ach {w0:World} {c:Nat} (hcode:kD w0 a len) (h:cA w0 w c a len cap) (hlen:len<=1048576):Calls prog 15 #[.pointer (some ⟨c,0,none⟩)] w fun e w'=>∃ (p:Option Addr) (cp:Nat) (zs:List Int),zs.length<=5/\e=.returned (.slice p zs.length cp)/\aQ w.heap.size w' p zs/\zs.length<=cp/\cA w0 w' c a len cap/\w.grownBy w' (some c):=by
 have hcl:=h.cur.lt;have hn0:=h.new;have b0:=fq (base:=w.heap.size) w (aq _);have s0:=h.below (aB w (.cells #[] 3));have g0:w.grownBy (w.alloc (.cells #[] 3)) (some c):=zC (aB w _);go_enter func15,ntmps15;go_wp2_with (go_at_call 53;refine (sL hcode s0 hlen 5 (by omega) (by omega)).mono ?_;rintro e w1 ⟨⟨m,m0,m1,rfl⟩,s1,g1⟩;have b1:=Jw b0 g1 hcl;have g2:=pU g0 g1);go_loopw [3,5] (fun v i W=>∃ (k g cp:Nat) (zs:List Int),(k:Int)<=m/\zs.length=k/\i=.int .i64 k/\v=.slice (some ⟨g,0,none⟩) k cp/\bo w.heap.size W (some ⟨g,0,none⟩) k cp zs/\cA w0 W c a len cap/\w.grownBy W (some c)) (fun _ i _=>m.toNat-(intOf i).toNat);case atStart=>exact ⟨0,_,_,[],m0,rfl,rfl,rfl,b1,s1,g2⟩
 case round=>
 obtain ⟨k,g,cp,zs,hk,hz,rfl,rfl,hib,hst,hgr⟩:=hrel;clear b0 s0 g0 s1 g1 b1 g2;have hg:w.heap.size<=g:=tM hib g rfl;have hsz:=hgr.size;by_cases hlt:(k:Int)<m
 ·go_wp2_with (first
   | (go_at_call 53;refine (sL hcode hst hlen 96 (by omega) (by omega)).mono ?_;rintro e w3 ⟨⟨q,q0,q1,rfl⟩,s3,g3⟩;have i3:=(Jw hib g3 hcl).alloc (.cells #[.int .i64 0,.int .i64 1,.int .i64 2,.int .i64 3,.int .i64 4,.int .i64 5,.int .i64 6,.int .i64 7,.int .i64 20,.int .i64 95,.int .i64 96,.int .i64 (-1),.int .i64 q] 3);have uI:=om (pU hgr g3) (aB w3 (.cells #[.int .i64 0,.int .i64 1,.int .i64 2,.int .i64 3,.int .i64 4,.int .i64 5,.int .i64 6,.int .i64 7,.int .i64 20,.int .i64 95,.int .i64 96,.int .i64 (-1),.int .i64 q] 3)))
   | (go_at_call 58;refine (xn hcode s3 hlen (acf q q0 q1) (show 0<13 by decide) (show 13<=100 by decide)).mono ?_;rintro e w4 ⟨⟨z,wz,rfl⟩,s4,g4⟩;have i4:=Jw i3 g4 hcl;have C6:=pU uI g4)
   | (at_builtin;refine acg rfl (.tmp 14) (.tmp 20) rfl i4 z rfl rfl (by omega) C6.size ?_;intro g5 cap5 w5 i5 hg5))
  go_roundw;case rel=>exact ⟨k+1,g5,cap5,zs ++ [z],by omega,by simp[hz],by go_num,rfl,i5,(s4.below (aB _ _)).grown (g:=g) hg5 (by omega) (by omega),Jb (om C6 (aB _ _)) hg5 hg⟩
  case measure=>simp[intOf];omega
 go_wp2;go_ret;refine ⟨some ⟨g,0,none⟩,cp,zs,by omega,by rw[hz];rfl,hib.own,?_,hst,hgr⟩;have:=hib.fits;omega
end
def fw (al:List Int) (a:Int) (n:Nat):Nat->List Int
 | 0=>[]
 | k+1=>if (fw al a n k).length<n/\bN al (a+(k:Int))=false then fw al a n k ++ [a+(k:Int)] else fw al a n k
theorem Fz (al:List Int) (a:Int) (n:Nat):∀ k,(fw al a n k).length<=n/\(fw al a n k).length<=k
 | 0=>⟨aS _,aq _⟩
 | k+1=>by
  have:=Fz al a n k;rw[fw];split
  ·rename_i h;rw[bY,List.length_singleton];omega
  ·omega
theorem Q7 {al:List Int} {a:Int} {n k:Nat} (h:¬ (fw al a n k).length<n):∀ j,fw al a n (k+j)=fw al a n k
 | 0=>rfl
 | j+1=>by have ih:=Q7 h j;rw[<- mD,fw,ih,aG (fun x=>h x.1)]
theorem Jy {al:List Int} {a z:Int} {n:Nat}:∀ {k:Nat},z ∈ fw al a n k->a<=z/\z<a+(k:Int)/\bN al z=false
 | 0,h=>by simp[fw] at h
 | k+1,h=>by
  rw[fw] at h;split at h
  ·rename_i hc;rcases gP.1 h with h | h
   ·have:=Jy h;exact ⟨this.1,by omega,this.2.2⟩
   obtain rfl:=lW.1 h;exact ⟨by omega,by omega,hc.2⟩
  ·have:=Jy h;exact ⟨this.1,by omega,this.2.2⟩
theorem Q8 (a b:Int) (at_:Option Addr) (ct:Nat) (al:List Int) (n:Nat) (w:World) (ha:0<=a) (hab:a<=b+1) (hb:b<=100) (hn:n<=100) (h2:al.length<=281474976710656) (hT:aI w at_ al):Calls prog 115 #[.int .i64 a,.int .i64 b,.slice at_ al.length ct,.int .i64 (n:Int)] w fun e w'=>∃ a' c,e=.returned (.slice a' (fw al a n (b+1-a).toNat).length c)/\aQ w.heap.size w' a' (fw al a n (b+1-a).toNat)/\(fw al a n (b+1-a).toNat).length<=c/\Below w.heap.size w w':=by
 obtain ⟨m,hm⟩:∃ m:Nat,(b+1-a).toNat=m:=⟨_,rfl⟩;have rC:b=a+(m:Int)-1:=by omega
 have hm1:m<=101:=by omega
 rw[hm];clear hm;subst b;have n1:=aB w (.cells #[] 3);have B1:=fq (base:=w.heap.size) w (aq _);have HR:Hid (∀ W,Below w.heap.size w W->aI W at_ al):=fun W hW=>hT.below hW;clear hT;go_enter func115,ntmps115;go_wp2;go_loopw [9,10] (fun p i w'=>∃ (k:Nat) (a':Option Addr) (cap':Nat),k<=m/\i=.int .i64 (a+(k:Int))/\p=.slice a' (fw al a n k).length cap'/\bo w.heap.size w' a' (fw al a n k).length cap' (fw al a n k)/\Below w.heap.size w w') (fun _ i _=>(a+(m:Int)-intOf i).toNat);case atStart=>exact ⟨0,_,_,aS _,by simp,rfl,B1,n1⟩
 case round=>
 obtain ⟨k,a1,ij,hk,rfl,rfl,hbf,hbel⟩:=hrel;clear B1 n1;have hl:=Fz al a n k;by_cases hlt:k<m
 ·have e1:a+(k:Int)<=a+(m:Int)-1:=by omega
  by_cases hln:(fw al a n k).length<n
  ·have rT:=HR.out _ hbel;have hsu:fw al a n (k+1)=if bN al (a+(k:Int))=false then fw al a n k ++ [a+(k:Int)] else fw al a n k:=by
    rw[fw];by_cases hx:bN al (a+(k:Int))=false;·rw[aF ⟨hln,hx⟩,aF hx]
    rw[aG (fun h=>hx h.2),aG hx]
   have e2:((fw al a n k).length:Int)<(n:Int):=by omega
   obtain ⟨acc,ea⟩:∃ acc,fw al a n k=acc:=⟨_,rfl⟩;rw[ea] at hbf hsu hl e2 ⊢;obtain ⟨z,ez⟩:∃ z,a+(k:Int)=z:=⟨_,rfl⟩;have hz0:0<=z:=by omega
   have hz1:z<=202:=by omega
   have HZ:Hid (a+((k+1:Nat):Int)=z+1):=by show _=_;omega
   rw[ez] at hsu e1 ⊢;have hB:=hbel.size;clear hln;by_cases hb:bN al z=true
   ·have hc2:Hid (∀ W,aI W at_ al->Calls prog 70 #[.slice at_ al.length ct,.int .i64 z] W fun e w'=>e=.returned (.bool true)/\w'=W):=fun W hW=>by
     have:=qL at_ ct al z W h2 hW;rwa [hb] at this
    rw[hb,aG (by decide)] at hsu;have HS:Hid (fw al a n (k+1)=acc):=hsu;clear hb hsu ez ea;go_wp2_with (go_at_call 70;refine (hc2.out _ rT).mono ?_;rintro e w4 ⟨rfl,hw4⟩;subst w4);go_roundw;case rel=>exact ⟨k+1,a1,ij,by omega,by rw[HZ.out],by rw[HS.out],by rw[HS.out];exact hbf,hbel⟩
    case measure=>simp[intOf];omega
   have hb':bN al z=false:=by simpa using hb
   have hc2:Hid (∀ W,aI W at_ al->Calls prog 70 #[.slice at_ al.length ct,.int .i64 z] W fun e w'=>e=.returned (.bool false)/\w'=W):=fun W hW=>by have:=qL at_ ct al z W h2 hW;rwa [hb'] at this
   rw[hb',aF rfl] at hsu;have HS:Hid (fw al a n (k+1)=acc ++ [z]):=hsu;clear hb hb' hsu ez ea;go_wp2_with (first
    | (go_at_call 70;refine (hc2.out _ rT).mono ?_;rintro e w4 ⟨rfl,hw4⟩;subst w4)
    | (at_builtin;refine yY rfl (.tmp 28) (.tmp 30) rfl hbf z (by rfl) (by rfl) (by omega) hB ?_;intro g5 c5 w5 f5 l5))
   go_roundw;case rel=>exact ⟨k+1,some ⟨g5,0,none⟩,c5,by omega,by rw[HZ.out],by rw[HS.out];simp,by rw[HS.out,bY];exact f5,hbel.trans l5⟩
   case measure=>simp[intOf];omega
  have HE:Hid (fw al a n m=fw al a n k):=by have:=Q7 hln (m-k);rwa [show k+(m-k)=m by omega] at this
  have e2:¬ ((fw al a n k).length:Int)<(n:Int):=by omega
  obtain ⟨acc,ea⟩:∃ acc,fw al a n k=acc:=⟨_,rfl⟩;rw[ea] at hbf HE e2 ⊢;clear ea hln hl;go_wp2;go_ret;exact ⟨a1,ij,by rw[HE.out];rfl,by rw[HE.out];exact hbf.own,by rw[HE.out];exact hbf.fits,hbel⟩
 obtain rfl:k=m:=by omega
 have e1:¬ a+(k:Int)<=a+(k:Int)-1:=by omega
 clear hlt hl;go_wp2;go_ret;exact ⟨a1,ij,rfl,hbf.own,hbf.fits,hbel⟩
def jt (m:ByteArray):Nat->List Int
 | 0=>[]
 | k+1=>if dY m (k:Int)=true then jt m k ++ [(k:Int)] else jt m k
theorem Jz (m:ByteArray):∀ k,(jt m k).length<=k
 | 0=>aq _
 | k+1=>by
  have:=Jz m k;rw[jt];split
  ·rw[bY,List.length_singleton];omega
  ·omega
theorem aci (m:ByteArray) (w:World) (hms:m.size<=281474976710656):Calls prog 116 #[.string m] w fun e w'=>∃ a' c,e=.returned (.slice a' (jt m 8).length c)/\bo w.heap.size w' a' (jt m 8).length c (jt m 8)/\Below w.heap.size w w':=by
 have n1:=aB w (.cells #[] 3);have B1:=fq (base:=w.heap.size) w (aq _);go_enter func116,ntmps116;go_wp2;go_loopw [3,4] (fun p i w'=>∃ (k:Nat) (a':Option Addr) (cap':Nat),k<=8/\i=.int .i64 (k:Int)/\p=.slice a' (jt m k).length cap'/\bo w.heap.size w' a' (jt m k).length cap' (jt m k)/\Below w.heap.size w w') (fun _ i _=>8-(intOf i).toNat);case atStart=>exact ⟨0,_,_,aS _,rfl,rfl,B1,n1⟩
 case round=>
 obtain ⟨k,a1,ij,hk,rfl,rfl,hbf,hbel⟩:=hrel;clear B1 n1;have hl:=Jz m k;by_cases hlt:k<8
 ·have e1:(k:Int)<8:=by omega
  have e0:(0:Int)<=(k:Int):=by omega
  have HL:Hid (∀ W,Calls prog 81 #[.string m,.int .i64 (k:Int)] W fun e w'=>∃ a c,e=.returned (.tuple #[bO (mF m (k:Int)) (qH m (k:Int)) (jV m (k:Int)) a (mG m (k:Int)).length c,.string (qI m (k:Int)),.bool (dY m (k:Int))])/\aQ W.heap.size w' a (mG m (k:Int))/\(mG m (k:Int)).length<=c/\Below W.heap.size W w'):=fun W=>vw m (k:Int) W hms;have hB:=hbel.size;have HN:Hid (∀ (a3:Option Addr) (c3:Nat) (w3:World),Below wr.heap.size wr w3->bo w.heap.size (w3.alloc (.cells #[.int .i64 (mF m (k:Int)),.int .i64 (qH m (k:Int)),.int .i64 (jV m (k:Int)),.slice a3 (mG m (k:Int)).length c3] 117)) a1 (jt m k).length ij (jt m k)/\Below w.heap.size w (w3.alloc (.cells #[.int .i64 (mF m (k:Int)),.int .i64 (qH m (k:Int)),.int .i64 (jV m (k:Int)),.slice a3 (mG m (k:Int)).length c3] 117))):=fun a3 c3 w3 b3=>⟨(hbf.below b3).below (aB _ _),(hbel.trans (b3.mono hB)).trans ((aB _ _).mono (bt hB b3.size))⟩;cases hx:dY m (k:Int) with
  | true=>
   have HS:Hid (jt m (k+1)=jt m k ++ [(k:Int)]):=by show _=_;rw[jt,aF hx]
   rw[hx] at HL;obtain ⟨acc,ea⟩:∃ acc,jt m k=acc:=⟨_,rfl⟩;rw[ea] at HN HS hl ⊢;clear ea hbf hbel;go_wp2_with (first
    | (go_at_call 81;refine (HL.out _).mono ?_;rintro e w3 ⟨a3,c3,rfl,o3,q3,b3⟩;obtain ⟨f4,l4⟩:=HN.out a3 c3 w3 b3;have hB4:=l4.size)
    | (at_builtin;go_loud (refine yY rfl (.tmp 21) (.tmp 23) rfl f4 (k:Int) (by rfl) (by simp[Act.eval]) (by omega) hB4 ?_;intro g5 c5 w5 f5 l5)))
   go_roundw;case rel=>exact ⟨k+1,some ⟨g5,0,none⟩,c5,by omega,by go_num,by rw[HS.out];simp,by rw[HS.out,bY];exact f5,l4.trans l5⟩
   case measure=>simp[intOf];omega
  | false=>
   have HS:Hid (jt m (k+1)=jt m k):=by show _=_;rw[jt,aG (by rw[hx];decide)]
   rw[hx] at HL;obtain ⟨acc,ea⟩:∃ acc,jt m k=acc:=⟨_,rfl⟩;rw[ea] at HN HS hl ⊢;clear ea hbf hbel;go_wp2_with (go_at_call 81;refine (HL.out _).mono ?_;rintro e w3 ⟨a3,c3,rfl,o3,q3,b3⟩;obtain ⟨f4,l4⟩:=HN.out a3 c3 w3 b3;have hB4:=l4.size);go_roundw;case rel=>exact ⟨k+1,a1,ij,by omega,by go_num,by rw[HS.out],by rw[HS.out];exact f4,l4⟩
   case measure=>simp[intOf];omega
 obtain rfl:k=8:=by omega
 go_wp2;go_ret;exact ⟨a1,ij,rfl,hbf,hbel⟩
theorem acj (o:Int) (w:World):Calls prog 110 #[.int .i64 o] w fun e w'=>e=.returned (.string (sJ o))/\Below w.heap.size w w':=by
 have k0:fE w o (w.alloc (.cells #[.int .i64 2,.int .i64 o,.int .i64 0,.slice none 0 0] 117)):=⟨bu (eV 2 o 0 none 0 0) w 117,aB _ _⟩;by_cases hok:eH 2 o 0 []=true
 ·have HF:Hid (sJ o=B7 o):=aF hok;obtain ⟨z,hz⟩:∃ z,bB 768=z:=⟨_,rfl⟩;obtain ⟨g,hg⟩:∃ g,zy=g:=⟨_,rfl⟩;obtain ⟨p,hp⟩:∃ p,dO 2 o 0 []=p:=⟨_,rfl⟩;obtain ⟨r,hr⟩:∃ r,bA 0=r:=⟨_,rfl⟩;obtain ⟨m,hm⟩:∃ m,B7 o=m:=⟨_,rfl⟩;have z1:=Qm;have g1:=aaJ;have p1:=aaK o;have HG:Hid (bJ z 0 xj=g):=show bJ z 0 xj=g by rw[<- hg,<- hz,zy]
  have HM:Hid (bJ g r p=m):=show bJ g r p=m by rw[<- hg,<- hr,<- hp,<- hm,B7]
  have HK:Hid (∀ W,fE w o W->Calls prog 162 #[bO 2 o 0 none 0 0] W fun e w'=>e=.returned (.bool true)/\fE w o w'):=fun W h=>Qn hok h;have HP:Hid (∀ W,fE w o W->Calls prog 111 #[bO 2 o 0 none 0 0] W fun e w'=>e=.returned (.string p)/\fE w o w'):=fun W h=>aaL hp h;have HZ:Hid (∀ W,fE w o W->Calls prog 75 #[.int .i64 768] W fun e w'=>e=.returned (.string z)/\fE w o w'):=fun W h=>aaM hz h;have HR:Hid (∀ W,fE w o W->Calls prog 73 #[.int .i64 0] W fun e w'=>e=.returned (.int .i64 r)/\fE w o w'):=fun W h=>aaN hr h;rw[hz] at z1;rw[hg] at g1;rw[hp] at p1;rw[HF.out,hm];clear HF hz hg hp hr hm hok;go_enter func110,ntmps110;go_wp2_with (go_at_call 162;refine (HK.out _ k0).mono ?_;rintro e w1 ⟨rfl,k1⟩;have x0:=k1.iT.c0;have x1:=k1.iT.c1;have x2:=k1.iT.c2;have x3:=k1.iT.c3);have k2:=k1.drewN 1;have s2:=k2.four;clear k1 x0 x1 x2 x3 k0;go_region_held3 (fun W=>W.cell? ⟨w.heap.size,0,none⟩=some (.int .i64 2)/\W.cell? ⟨w.heap.size,1,none⟩=some (.int .i64 o)/\W.cell? ⟨w.heap.size,2,none⟩=some (.int .i64 0)/\W.cell? ⟨w.heap.size,3,none⟩=some (.slice none 0 0)) (assumption) ((first
   | (go_at_call 75;refine (HZ.out _ (by assumption)).mono ?_;rintro e w2 ⟨rfl,k2⟩;have s2:=k2.four)
   | (go_at_call 73;refine (HR.out _ (by assumption)).mono ?_;rintro e w2 ⟨rfl,k2⟩;have s2:=k2.four)
   | (go_at_call 111;refine (HP.out _ (by assumption)).mono ?_;rintro e w2 ⟨rfl,k2⟩;have s2:=k2.four)
   | (go_at_call 60;have hW2:=hW1;refine (aaP g1 p1 HM.out (by assumption)).mono ?_;rintro e w2 ⟨rfl,k2⟩;have s2:=k2.four)
   | (go_at_call 60;refine mC (aaO ?_ z1 HG.out (by assumption)) ?_;kernel_rfl;rintro e w2 ⟨rfl,k2⟩;have s2:=k2.four;have hW1:True:=trivial)))
  all_goals
   go_wp2;go_ret;exact ⟨rfl,k2.ah⟩
 have hok':eH 2 o 0 []=false:=by simpa using hok
 have HF:Hid (sJ o=⟨#[]⟩):=aG hok;have HK:Hid (∀ W,fE w o W->Calls prog 162 #[bO 2 o 0 none 0 0] W fun e w'=>e=.returned (.bool false)/\fE w o w'):=fun W h=>Qn hok' h;rw[HF.out];clear HF hok hok';go_enter func110,ntmps110;go_wp2_with (go_at_call 162;refine (HK.out _ k0).mono ?_;rintro e w1 ⟨rfl,k1⟩);go_ret;exact ⟨rfl,k1.ah⟩
theorem mj {W W':World} {b i:Nat} {v:Value} (hb:aj W W') (h:af W b i v) (hlt:b<W.heap.size):af W' b i v:=(hb.cell (p:=⟨b,i,none⟩) hlt).trans h
theorem JA (a1 a2:Option Addr) (c1 c2:Nat) (zs:List Int) (w:World) (hn:zs.length<=281474976710656) (h1:aI w a1 zs) (h2:aI w a2 zs):Calls prog 67 #[.slice a1 zs.length c1,.slice a2 zs.length c2] w fun e w'=>e=.returned (.bool true)/\∃ n,w'=w.drewN n:=by
 go_enter func67,ntmps67;go_wp2;go_loopw [5] (fun i w'=>∃ k n:Nat,k<=zs.length/\w'=w.drewN n/\i=ad k) (fun i _=>zs.length-(intOf i).toNat);case atStart=>exact ⟨0,0,aS _,rfl,rfl⟩
 case round=>
 obtain ⟨k,n,hk,rfl,rfl⟩:=hrel;by_cases hlt:k<zs.length
 ·have e1:(0:Int)<=(k:Int):=by omega
  have e2:(k:Int)<(zs.length:Int):=by omega
  obtain ⟨b1,U1,rfl,hb1,hc1⟩:=h1.get hlt;obtain ⟨b2,U6,rfl,hb2,hc2⟩:=h2.get hlt;have x1:=hc1 k hlt;have x2:=hc2 k hlt;obtain ⟨z,ez⟩:∃ z,zs.getD k 0=z:=⟨_,rfl⟩;rw[ez] at x1 x2;clear ez hc1 hc2 h1 h2;go_wp2;go_quiet (fail);go_wp2;go_roundw;case rel=>exact ⟨k+1,_,by omega,rfl,by go_num⟩
  case measure=>simp[intOf];omega
 clear h1 h2;go_wp2;go_ret;exact ⟨rfl,_,rfl⟩
theorem ack (d:ak) (s1 s2:aA) (w:World) (hp:d.pg.length<=281474976710656) (ho:d.po.length<=281474976710656) (hf:d.fr.length<=281474976710656) (h1:dq w d s1) (h2:dq w d s2):Calls prog 19 #[bH d s1,bH d s2] w (aT (.bool true) w):=by
 have b1:=lf d s1 w 49;have hB:=aB w (.cells (dZ d s1) 49);have hB2:=hB.alloc hB.size (.cells (dZ d s2) 49);have h1':=h1.below hB2;have h2':=h2.below hB2;obtain ⟨W,hW⟩:∃ W,(w.alloc (.cells (dZ d s1) 49)).alloc (.cells (dZ d s2) 49)=W:=⟨_,rfl⟩;have hr1:∀ m,aI (W.drewN m) s1.a1 d.pg:=fun m=>by rw[<- hW];exact h1'.r1.drewN m
 have hr2:∀ m,aI (W.drewN m) s2.a1 d.pg:=fun m=>by rw[<- hW];exact h2'.r1.drewN m
 have hr3:∀ m,aI (W.drewN m) s1.a2 d.po:=fun m=>by rw[<- hW];exact h1'.r2.drewN m
 have hr4:∀ m,aI (W.drewN m) s2.a2 d.po:=fun m=>by rw[<- hW];exact h2'.r2.drewN m
 have hr5:∀ m,aI (W.drewN m) s1.a3 d.fr:=fun m=>by rw[<- hW];exact h1'.r3.drewN m
 have Vv:∀ m,aI (W.drewN m) s2.a3 d.fr:=fun m=>by rw[<- hW];exact h2'.r3.drewN m
 rw[hW] at hB2;subst hW;go_enter func19,ntmps19;go_wp2_with (first
  | (go_at_call 67;have n2':=n2;refine (JA _ _ _ _ d.fr _ hf (by simpa only[tp] using hr5 (n1+n2)) (by simpa only[tp] using Vv (n1+n2))).mono ?_;rintro e w' ⟨rfl,n3,rfl⟩)
  | (go_at_call 67;have n1':=n1;refine (JA _ _ _ _ d.po _ ho (hr3 n1) (hr4 n1)).mono ?_;rintro e w' ⟨rfl,n2,rfl⟩)
  | (go_at_call 67;refine (JA _ _ _ _ d.pg _ hp (hr1 0) (hr2 0)).mono ?_;rintro e w' ⟨rfl,n1,rfl⟩))
 go_ret;exact ⟨rfl,cL hB2 _⟩
theorem acm (k:aL) (a1 a2:Option Addr) (c1 c2:Nat) (s1 s2:Nat->aA) (w:World) (hs:k.ds.length+ft k.ds k.ds.length<=1048576) (h1:aZ w a1 k.ds s1) (h2:aZ w a2 k.ds s2):Calls prog 7 #[aU k a1 c1,aU k a2 c2] w (aT (.bool true) w):=by
 have e0:BX w k a1 a2 c1 c2 ((w.alloc (.cells #[.string k.mem,.string k.ay,.slice a1 k.ds.length c1,ad k.ck] 28)).alloc (.cells #[.string k.mem,.string k.ay,.slice a2 k.ds.length c2,ad k.ck] 28)):=
  ⟨(bu (cU k a1 c1) w 28).alloc _,gH (cU k a2 c2) _ 28 (by simp),((aK _ _).alloc (aq _) _).alloc (by simp) _⟩
 have HL:Hid (∀ W,aj w W->aZ W a1 k.ds s1/\aZ W a2 k.ds s2):=fun W hb=>⟨h1.below hb,h2.below hb⟩;clear h1 h2;go_enter func7,ntmps7;go_wp2;go_loopw [5] (fun i W=>∃ j:Nat,j<=k.ds.length/\i=ad j/\BX w k a1 a2 c1 c2 W) (fun i _=>k.ds.length-(intOf i).toNat);case atStart=>exact ⟨0,aS _,rfl,e0⟩
 case round=>
 obtain ⟨j,hj,rfl,er⟩:=hrel;clear e0;have x2:=er.x.c2;by_cases hlt:j<k.ds.length
 ·obtain ⟨l1,l2⟩:=HL.out _ er.ah;have u1:=l1.sub j hlt;have u2:=l2.sub j hlt;obtain ⟨b1,o1,rfl,hb1,hc1⟩:=l1.row.get hlt;obtain ⟨b2,o2,rfl,hb2,hc2⟩:=l2.row.get hlt;obtain ⟨y0,y1,y2,y3,y4,y5,y6,y7⟩:=hc1 j hlt;obtain ⟨z0,z1,z2,z3,z4,z5,z6,z7⟩:=hc2 j hlt;obtain ⟨q1,q2,q3,-,-⟩:=EW (d:=au k.ds j) (by have:=Fe hlt;omega);obtain ⟨d,ed⟩:∃ d,au k.ds j=d:=⟨_,rfl⟩;obtain ⟨t1,es1⟩:∃ s,s1 j=s:=⟨_,rfl⟩;obtain ⟨t2,es2⟩:∃ s,s2 j=s:=⟨_,rfl⟩;rw[ed,es1] at u1;rw[ed,es2] at u2;rw[ed] at y0 y1 y2 y3 y4 y5 y6 y7 z0 z1 z2 z3 z4 z5 z6 z7 q1 q2 q3;rw[es1] at y4 y6 y7;rw[es2] at z4 z6 z7;have e1:(0:Int)<=(j:Int):=by omega
  have e2:(j:Int)<(k.ds.length:Int):=by omega
  have xd:=er.x.c2;have yd:=er.y.c2;have dr:aj wr wr.drew:=(aK _ _).drew;have HS:Hid (∀ W,aj wr W->af W w.heap.size 2 (.slice (some ⟨b1,o1,none⟩) k.ds.length c1)/\af W (w.heap.size+1) 2 (.slice (some ⟨b2,o2,none⟩) k.ds.length c2)/\af W b1 (o1+j*8) (ad d.ino)/\af W b1 (o1+j*8+1) (ad d.cl)/\af W b1 (o1+j*8+2) (ad d.un)/\af W b1 (o1+j*8+3) (.string d.rc)/\af W b1 (o1+j*8+4) (.slice t1.a1 d.pg.length t1.c1)/\af W b1 (o1+j*8+5) (.string d.aH)/\af W b1 (o1+j*8+6) (.slice t1.a2 d.po.length t1.c2)/\af W b1 (o1+j*8+7) (.slice t1.a3 d.fr.length t1.c3)/\af W b2 (o2+j*8) (ad d.ino)/\af W b2 (o2+j*8+1) (ad d.cl)/\af W b2 (o2+j*8+2) (ad d.un)/\af W b2 (o2+j*8+3) (.string d.rc)/\af W b2 (o2+j*8+4) (.slice t2.a1 d.pg.length t2.c1)/\af W b2 (o2+j*8+5) (.string d.aH)/\af W b2 (o2+j*8+6) (.slice t2.a2 d.po.length t2.c2)/\af W b2 (o2+j*8+7) (.slice t2.a3 d.fr.length t2.c3)):=fun W hb=>⟨(er.below hb).x.c2,(er.below hb).y.c2,mj hb y0 hb1,mj hb y1 hb1,mj hb y2 hb1,mj hb y3 hb1,mj hb y4 hb1,mj hb y5 hb1,mj hb y6 hb1,mj hb y7 hb1,mj hb z0 hb2,mj hb z1 hb2,mj hb z2 hb2,mj hb z3 hb2,mj hb z4 hb2,mj hb z5 hb2,mj hb z6 hb2,mj hb z7 hb2⟩;have HC:=ack d t1 t2 wr.drew (by omega) (by omega) (by omega) (u1.below dr) (u2.below dr);clear ed es1 es2 hc1 hc2 y0 y1 y2 y3 y4 y5 y6 y7 z0 z1 z2 z3 z4 z5 z6 z7 u1 u2 l1 l2 HL;have s0:=HS.out _ dr;go_wp2;refine et (S:=fun W=>af W w.heap.size 2 (.slice (some ⟨b1,o1,none⟩) k.ds.length c1)/\af W (w.heap.size+1) 2 (.slice (some ⟨b2,o2,none⟩) k.ds.length c2)/\af W b1 (o1+j*8) (ad d.ino)/\af W b1 (o1+j*8+1) (ad d.cl)/\af W b1 (o1+j*8+2) (ad d.un)/\af W b1 (o1+j*8+3) (.string d.rc)/\af W b1 (o1+j*8+4) (.slice t1.a1 d.pg.length t1.c1)/\af W b1 (o1+j*8+5) (.string d.aH)/\af W b1 (o1+j*8+6) (.slice t1.a2 d.po.length t1.c2)/\af W b1 (o1+j*8+7) (.slice t1.a3 d.fr.length t1.c3)/\af W b2 (o2+j*8) (ad d.ino)/\af W b2 (o2+j*8+1) (ad d.cl)/\af W b2 (o2+j*8+2) (ad d.un)/\af W b2 (o2+j*8+3) (.string d.rc)/\af W b2 (o2+j*8+4) (.slice t2.a1 d.pg.length t2.c1)/\af W b2 (o2+j*8+5) (.string d.aH)/\af W b2 (o2+j*8+6) (.slice t2.a2 d.po.length t2.c2)/\af W b2 (o2+j*8+7) (.slice t2.a3 d.fr.length t2.c3)) (by kernel_rfl) ?_;refine aC 0 (aD w.heap.size 2) s0 ?_
  refine aC 1 (.slice (some ⟨b1,o1,none⟩) k.ds.length c1) s0 ?_;refine aE 2 (ad j) s0 ?_;refine aC 3 (aD b1 (o1+j*8)) s0 ?_;refine aC 4 (bH d t1) s0 ?_;refine aC 5 (aD (w.heap.size+1) 2) s0 ?_;refine aC 6 (.slice (some ⟨b2,o2,none⟩) k.ds.length c2) s0 ?_;refine aE 7 (ad j) s0 ?_;refine aC 8 (aD b2 (o2+j*8)) s0 ?_;refine aC 9 (bH d t2) s0 ?_;refine jm (i:=10) (by kernel_rfl) rfl (by rfl) (.tmp 38) (.tmp 43) _ rfl (bH d t1) (bH d t2) (by rfl) (by rfl) (bh func19 (by kernel_rfl) rfl) (HC.mono ?_);rintro e w1 ⟨rfl,q⟩;have q1:aj wr w1:=dr.trans (q.mono dr.size);refine ⟨_,rfl,HS.out _ q1,?_⟩;simp only[ao,Act.put,Nat.reduceAdd];refine aE 11 (.bool false) (HS.out _ q1) ?_;refine dV (by kernel_rfl) ?_ _;have er1:=er.below q1;go_wp2;go_roundw;case rel=>exact ⟨j+1,by omega,by go_num,er1⟩
  case measure=>simp[intOf];omega
 obtain rfl:j=k.ds.length:=by omega
 have e9:decide ((k.ds.length:Int)<(k.ds.length:Int))=false:=by simp
 go_wp2;go_ret;exact ⟨rfl,er.ah⟩
theorem acn {w:World} {b o:Nat} {v:Value} (h:w.cell? ⟨b,o,none⟩=some v):b<w.heap.size:=by
 rcases DY b w.heap.size with hlt | hge;·exact hlt
 unfold World.cell? at h;rw[NC hge] at h;simp at h
theorem aco {H:Type} {enc:TypeId × Value->H} {w:World} {fuel:Nat} {v:Value} {x:DataW H × List MemPlace} (h:DataW.trod enc prog w 0 (fun _=>true) true fuel 22 [v]=some x):∃ (a:Option Addr) (len cap:Nat),v=.slice a len cap/\kD w a len:=by
 rcases open_ints underlying22 underlying5 (by kernel_rfl) h with ⟨hcs,_⟩ | ⟨a,len,cap,zs,hcs,_,hl,hm,hz,_,hcell,hwz⟩
 ·simp at hcs;exact ⟨none,0,0,hcs,fun k hk=>absurd hk (tF _)⟩
 simp at hcs hz;refine ⟨some a,len,cap,hcs,fun k hk=>?_⟩;obtain ⟨b,off,rfl,hc⟩:=ints_at hcell (by omega);have hck:=hc k (by omega);have hmem:zs.getD k 0 ∈ zs:=by rw[jR,gD (by omega:k<zs.length)];exact nQ _
 have hwf:=hwz _ hmem;have hb:0<=zs.getD k 0/\zs.getD k 0<=255:=by simpa [Lit.wf,IntKind.min,IntKind.max,IntKind.signed,IntKind.bits] using hwf
 exact ⟨b,off,zs.getD k 0,rfl,acn hck,hb.1,by omega,hck⟩
theorem acp (a:Option Addr) (len cap:Nat) (w:World) (hl:¬ 1048576<(len:Int)):Calls prog 4 #[.slice a len cap] w fun e w'=>e=.returned (.bool false)/\w'=w:=by
 have hl':decide (1048576<(len:Int))=false:=by simpa using hl
 go_enter func4,ntmps4;go_wp2;go_ret;exact ⟨rfl,rfl⟩
theorem acq (a:Option Addr) (len cap:Nat) (w:World) (hl:1048576<(len:Int)):Calls prog 4 #[.slice a len cap] w fun e w'=>e=.returned (.bool true)/\w'=w:=by go_enter func4,ntmps4;go_wp2;go_ret;exact ⟨rfl,rfl⟩
end Go.Proofs.YtidmmopnkjbjoaaGreatDoor
