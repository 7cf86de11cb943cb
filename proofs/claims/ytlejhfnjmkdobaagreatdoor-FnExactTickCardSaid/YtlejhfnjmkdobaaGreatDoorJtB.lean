/- Joined texts. -/
import Derived.Test.YtlejhfnjmkdobaaGreatDoorJtA
import Derived.Deep.AppendLies
set_option linter.unusedVariables false
set_option linter.unusedSimpArgs false
set_option maxRecDepth 10000
set_option maxHeartbeats 16000000
namespace Go.Proofs.YtlejhfnjmkdobaaGreatDoor
open Go.Proofs.Tryz
namespace E4
open ChangeShapes WideShapes ChangeAt RowKit
def ino (s:ByteArray):Int:=B1.byteAt s 0
def name (s:ByteArray):ByteArray:=B2.part s 2 (B1.byteAt s 1)
def isE (s:ByteArray):Bool:=decide (s.size=16) && ((E0.putE (ino s) (name s)).toList == s.toList)
def eIno (s:ByteArray):Int:=if isE s then ino s else 0
def eName (s:ByteArray):ByteArray:=if isE s then name s else ⟨#[]⟩
def getE (s:ByteArray):Value:=.tuple #[.agg #[.int .i64 (eIno s),.string (eName s)],.bool (isE s)]
theorem wf_of (n:Int) (h0 : -9223372036854775808<=n) (h1:n<=9223372036854775807):(Lit.int .i64 n).wf=true:=by
 simp[Lit.wf,IntKind.min,IntKind.max,IntKind.signed,IntKind.bits];omega
theorem byteAt_lt (s:ByteArray) (i:Int):0<=B1.byteAt s i/\B1.byteAt s i<256:=by
 unfold B1.byteAt
 split
 ·rename_i h
  have:=(s[i.toNat]'(by omega)).toNat_lt;omega
 ·omega
theorem getE_no {s:ByteArray} (h:isE s=false):getE s=.tuple #[.agg #[Iv 0,.string ⟨#[]⟩],.bool false]:=by simp[getE,eIno,eName,h]
theorem getE_yes {s:ByteArray} (h:isE s=true):getE s=.tuple #[.agg #[Iv (ino s),.string (name s)],.bool true]:=by simp[getE,eIno,eName,h]
structure Two (w:World) (B:Nat) (a:Int) (b:ByteArray) (W:World):Prop where
 n:K0.Blk w.heap.size [.int .i64 0,.string ⟨#[]⟩] W
 m:K0.Blk B [.int .i64 a,.string b] W
 ne:w.heap.size<B
 bel:Bq w W
theorem Two.below {w W W':World} {B:Nat} {a:Int} {b:ByteArray} (h:Two w B a b W) (hb:Bq W W'):Two w B a b W':=⟨h.n.below hb,h.m.below hb,h.ne,h.bel.trans (hb.mono (Nat.le_of_lt h.n.lt))⟩
theorem two_new (w w1:World) (a:Int) (b:ByteArray) (h:Bq (w.alloc (.cells #[Iv 0,.string ⟨#[]⟩] 133)) w1) :
  Two w w1.heap.size a b (w1.alloc (.cells #[Iv a,.string b] 133)):=by
 have hs:=h.size;simp at hs;exact ⟨((K0.blk_new [Iv 0,.string ⟨#[]⟩] w 133).below h).alloc _,K0.blk_new [Iv a,.string b] w1 133,by omega,(((Below.refl _ _).alloc (Nat.le_refl _) _).trans (h.mono (by simp))).alloc (by omega) _⟩
theorem two_first (w:World) (a:Int) (b:ByteArray):Two w (w.heap.size+1) a b ((w.alloc (.cells #[Iv 0,.string ⟨#[]⟩] 133)).alloc (.cells #[Iv a,.string b] 133)):=by
 have h:=two_new w _ a b (Below.refl _ _)
 simpa using h
theorem ret_val {v u:Value} (h:v=u):Ending.returned v=.returned u:=by rw[h]
theorem spec_GetEntry (s:ByteArray) (w:World) (hs:s.size<=281474976710656) :
  Calls prog 135 #[.string s] w (Rb (getE s) w):=by
 have hm:s.size<=maxLen:=by unfold maxLen;omega
 have k0:=byteAt_lt s 0;have k1:=byteAt_lt s 1
 have hn:(B2.part s 2 (B1.byteAt s 1)).size<=281474976710656:=by have:=B2.part_size s 2 (B1.byteAt s 1);omega
 have v2:(Lit.int .i64 2).wf=true:=by decide
 have v1:=wf_of (B1.byteAt s 1) (by omega) (by omega);have t1:=two_first w (B1.byteAt s 0) (B2.part s 2 (B1.byteAt s 1))
 by_cases h16:s.size=16
 ·have g16:((s.size:Int) != 16)=false:=by simp;omega
  by_cases hP:((E0.putE (B1.byteAt s 0) (B2.part s 2 (B1.byteAt s 1))).toList == s.toList)=true
  ·have HR:Hid (getE s=.tuple #[.agg #[Iv (B1.byteAt s 0),.string (B2.part s 2 (B1.byteAt s 1))],.bool true]):=getE_yes (by rw[isE,ino,name,hP,decide_eq_true h16];rfl)
   go_enter func135,ntmps135
   go_wp2_with (first
    | (go_at_call 131;refine (B1.spec_ByteAt _ _ _ hm).mono ?_;rintro e w' ⟨rfl,rfl⟩)
    | (go_at_call 58;refine (B2.spec_Part _ _ _ _ hm v2 v1).mono ?_;rintro e w' ⟨rfl,rfl⟩)
    | (go_at_call 168;refine (E2.spec_PutEntry _ _ _ hn).mono ?_;rintro e w2 ⟨rfl,b2⟩;have t2:=t1.below b2;have c0:=t2.n.c0;have c1:=t2.n.c1;have f0:=t2.n.f0;have f1:=t2.n.f1;have d0:=t2.m.c0;have d1:=t2.m.c1))
   have q:=t2.n.put2 (Iv (B1.byteAt s 0)) (.string (B2.part s 2 (B1.byteAt s 1)))
   exact bodyPost_ret (v:=.tuple #[.agg #[Iv (B1.byteAt s 0),.string (B2.part s 2 (B1.byteAt s 1))],.bool true]) (by simp[results,results135,go_sem,q.c0,q.c1]) rfl
    ⟨ret_val HR.out.symm,(t2.bel.setCell (p:=⟨w.heap.size,0,none⟩) (Nat.le_refl _) _).setCell (p:=⟨w.heap.size,1,none⟩) (Nat.le_refl _) _⟩
  ·have hP':((E0.putE (B1.byteAt s 0) (B2.part s 2 (B1.byteAt s 1))).toList == s.toList)=false:=by simpa using hP
   have HR:Hid (getE s=.tuple #[.agg #[Iv 0,.string ⟨#[]⟩],.bool false]):=getE_no (by rw[isE,ino,name,hP',Bool.and_false]);clear hP;go_enter func135,ntmps135
   go_wp2_with (first
    | (go_at_call 131;refine (B1.spec_ByteAt _ _ _ hm).mono ?_;rintro e w' ⟨rfl,rfl⟩)
    | (go_at_call 58;refine (B2.spec_Part _ _ _ _ hm v2 v1).mono ?_;rintro e w' ⟨rfl,rfl⟩)
    | (go_at_call 168;refine (E2.spec_PutEntry _ _ _ hn).mono ?_;rintro e w2 ⟨rfl,b2⟩;have t2:=t1.below b2;have c0:=t2.n.c0;have c1:=t2.n.c1;have f0:=t2.n.f0;have f1:=t2.n.f1;have d0:=t2.m.c0;have d1:=t2.m.c1))
   have q:=t2.n.put2 (Iv 0) (.string ⟨#[]⟩)
   exact bodyPost_ret (v:=.tuple #[.agg #[Iv 0,.string ⟨#[]⟩],.bool false]) (by simp[results,results135,go_sem,q.c0,q.c1]) rfl
    ⟨ret_val HR.out.symm,(t2.bel.setCell (p:=⟨w.heap.size,0,none⟩) (Nat.le_refl _) _).setCell (p:=⟨w.heap.size,1,none⟩) (Nat.le_refl _) _⟩
 ·have g16:((s.size:Int) != 16)=true:=by simp;omega
  have HR:Hid (getE s=.tuple #[.agg #[Iv 0,.string ⟨#[]⟩],.bool false]):=getE_no (by rw[isE,decide_eq_false h16,Bool.false_and]);have c0:=t1.n.c0;have c1:=t1.n.c1;have q:=t1.n.put2 (Iv 0) (.string ⟨#[]⟩);go_enter func135,ntmps135
  go_wp2_with (first
   | (go_at_call 131;refine (B1.spec_ByteAt _ _ _ hm).mono ?_;rintro e w' ⟨rfl,rfl⟩)
   | (go_at_call 58;refine (B2.spec_Part _ _ _ _ hm v2 v1).mono ?_;rintro e w' ⟨rfl,rfl⟩))
  refine bodyPost_ret (v:=.tuple #[.agg #[Iv 0,.string ⟨#[]⟩],.bool false]) (by simp[results,results135,go_sem,q.c0,q.c1]) rfl
   ⟨ret_val HR.out.symm,?_⟩
  go_grown
theorem impl_GetEntry (s:ByteArray) (w:World) (hs:s.size<=281474976710656) :
  Calls prog 219 #[.string s] w (Rb (getE s) w):=by
 have hm:s.size<=maxLen:=by unfold maxLen;omega
 have hn:(B2.part s 2 (B1.byteAt s 1)).size<=281474976710656:=by have:=B2.part_size s 2 (B1.byteAt s 1);omega
 by_cases h16:s.size=16
 ·have g16:((s.size:Int) != 16)=false:=by simp;omega
  by_cases hP:((E0.putE (B1.byteAt s 0) (B2.part s 2 (B1.byteAt s 1))).toList == s.toList)=true
  ·have HR:Hid (getE s=.tuple #[.agg #[Iv (B1.byteAt s 0),.string (B2.part s 2 (B1.byteAt s 1))],.bool true]):=getE_yes (by rw[isE,ino,name,hP,decide_eq_true h16];rfl)
   go_enter func219,ntmps219
   go_wp2_with (first
    | (go_at_call 186;refine (B1.impl_ByteAt _ _ _ hm).mono ?_;rintro e w' ⟨rfl,rfl⟩)
    | (go_at_call 124;refine (B2.impl_Part _ _ _ _ hs).mono ?_;rintro e w1 ⟨rfl,b1⟩;have t1:=two_new w w1 (B1.byteAt s 0) (B2.part s 2 (B1.byteAt s 1)) b1)
    | (go_at_call 227;refine (E2.impl_PutEntry _ _ _ hn).mono ?_;rintro e w2 ⟨rfl,b2⟩;have t2:=t1.below b2;have c0:=t2.n.c0;have c1:=t2.n.c1;have f0:=t2.n.f0;have f1:=t2.n.f1;have d0:=t2.m.c0;have d1:=t2.m.c1))
   have q:=t2.n.put2 (Iv (B1.byteAt s 0)) (.string (B2.part s 2 (B1.byteAt s 1)))
   exact bodyPost_ret (v:=.tuple #[.agg #[Iv (B1.byteAt s 0),.string (B2.part s 2 (B1.byteAt s 1))],.bool true]) (by simp[results,results219,go_sem,q.c0,q.c1]) rfl
    ⟨ret_val HR.out.symm,(t2.bel.setCell (p:=⟨w.heap.size,0,none⟩) (Nat.le_refl _) _).setCell (p:=⟨w.heap.size,1,none⟩) (Nat.le_refl _) _⟩
  ·have hP':((E0.putE (B1.byteAt s 0) (B2.part s 2 (B1.byteAt s 1))).toList == s.toList)=false:=by simpa using hP
   have HR:Hid (getE s=.tuple #[.agg #[Iv 0,.string ⟨#[]⟩],.bool false]):=getE_no (by rw[isE,ino,name,hP',Bool.and_false]);clear hP;go_enter func219,ntmps219
   go_wp2_with (first
    | (go_at_call 186;refine (B1.impl_ByteAt _ _ _ hm).mono ?_;rintro e w' ⟨rfl,rfl⟩)
    | (go_at_call 124;refine (B2.impl_Part _ _ _ _ hs).mono ?_;rintro e w1 ⟨rfl,b1⟩;have t1:=two_new w w1 (B1.byteAt s 0) (B2.part s 2 (B1.byteAt s 1)) b1)
    | (go_at_call 227;refine (E2.impl_PutEntry _ _ _ hn).mono ?_;rintro e w2 ⟨rfl,b2⟩;have t2:=t1.below b2;have c0:=t2.n.c0;have c1:=t2.n.c1;have f0:=t2.n.f0;have f1:=t2.n.f1;have d0:=t2.m.c0;have d1:=t2.m.c1))
   have q:=t2.n.put2 (Iv 0) (.string ⟨#[]⟩)
   exact bodyPost_ret (v:=.tuple #[.agg #[Iv 0,.string ⟨#[]⟩],.bool false]) (by simp[results,results219,go_sem,q.c0,q.c1]) rfl
    ⟨ret_val HR.out.symm,(t2.bel.setCell (p:=⟨w.heap.size,0,none⟩) (Nat.le_refl _) _).setCell (p:=⟨w.heap.size,1,none⟩) (Nat.le_refl _) _⟩
 ·have g16:((s.size:Int) != 16)=true:=by simp;omega
  have HR:Hid (getE s=.tuple #[.agg #[Iv 0,.string ⟨#[]⟩],.bool false]):=getE_no (by rw[isE,decide_eq_false h16,Bool.false_and]);go_enter func219,ntmps219;go_wp2
  refine bodyPost_ret (v:=.tuple #[.agg #[Iv 0,.string ⟨#[]⟩],.bool false]) (by simp[results,results219,go_sem]) rfl
   ⟨ret_val HR.out.symm,?_⟩
  go_grown
end E4
namespace P0
open Go.RowKit
def has (l:List Int) (x:Int):Bool:=l.contains x
def okAt (zs:List Int) (i:Nat):Bool:=B1.inB (zs.getD i 0) 5 23 && !(has (zs.take i) (zs.getD i 0))
def okUpto (zs:List Int) (k:Nat):Bool:=(List.range k).all (okAt zs)
def pagesOk (zs:List Int):Bool:=okUpto zs zs.length
theorem okUpto_succ (zs:List Int) (k:Nat):okUpto zs (k+1)=(okUpto zs k && okAt zs k):=by
 simp[okUpto,List.range_succ]
theorem okUpto_bad {zs:List Int} {k n:Nat} (hk:k<n) (h:okAt zs k=false):okUpto zs n=false:=by
 rw[okUpto,List.all_eq_false];exact ⟨k,List.mem_range.2 hk,by rw[h];decide⟩
theorem getD_get (zs:List Int) (k:Nat) (h:k<zs.length):zs.getD k 0=zs[k]:=by simp[List.getD,h]
theorem contains_succ (zs:List Int) (k:Nat) (x:Int) (h:k<zs.length):has (zs.take (k+1)) x=(has (zs.take k) x || x == zs.getD k 0):=by
 unfold has;rw[List.take_succ_eq_append_getElem h,List.contains_eq_any_beq,List.contains_eq_any_beq,List.any_append,getD_get _ _ h];simp
theorem contains_of {zs:List Int} {k n:Nat} (hk:k<n) (hn:n<=zs.length):has (zs.take n) (zs.getD k 0)=true:=by
 unfold has;rw[List.contains_iff_mem];rw[getD_get _ _ (by omega)];exact List.mem_iff_getElem.2 ⟨k,by simp;omega,by simp⟩
def need (s:Int):Int:=(s+31) / 32
def Row (W:World) (a:Option Addr) (zs:List Int):Prop:=zs=[]\/∃ b off,a=some ⟨b,off,none⟩/\b<W.heap.size/\∀ j,j<zs.length->W.cell? ⟨b,off+j,none⟩=some (.int .i64 (zs.getD j 0))
theorem Row.below {W W':World} {a:Option Addr} {zs:List Int} (h:Row W a zs) (hb:Bq W W'):Row W' a zs:=by
 rcases h with h | ⟨b,off,ha,hlt,hc⟩
 ·exact Or.inl h
 ·exact Or.inr ⟨b,off,ha,Nat.lt_of_lt_of_le hlt hb.size,fun j hj=>(hb.cell (p:=⟨b,off+j,none⟩) hlt).trans (hc j hj)⟩
theorem Row.alloc {W:World} {a:Option Addr} {zs:List Int} (h:Row W a zs) (o:Obj):Row (W.alloc o) a zs:=h.below ((Below.refl _ _).alloc (Nat.le_refl _) o)
theorem Row.drew {W:World} {a:Option Addr} {zs:List Int} (h:Row W a zs):Row W.drew a zs:=h
theorem Row.drewN {W:World} {a:Option Addr} {zs:List Int} (h:Row W a zs) (n:Nat):Row (W.drewN n) a zs:=h
theorem Row.get {W:World} {a:Option Addr} {zs:List Int} {k:Nat} (h:Row W a zs) (hk:k<zs.length):∃ b off,a=some ⟨b,off,none⟩/\b<W.heap.size/\∀ j,j<zs.length->Ce W b (off+j) (Iv (zs.getD j 0)):=by
 rcases h with h | h
 ·subst h
  simp at hk
 ·exact h
end P0
namespace P1
open ChangeShapes WideShapes ChangeAt RowKit
theorem ret_bool {a b:Bool} (h:a=b):Ending.returned (.bool a)=.returned (.bool b):=by rw[h]
theorem l02Has (b off n c:Nat) (zs:List Int) (x:Int) (w:World) (hz:n<=zs.length) (hbig:n<=281474976710656) (hc:∀ j,j<zs.length->Ce w b (off+j) (Iv (zs.getD j 0))) :
  Calls prog 64 #[.slice (some ⟨b,off,none⟩) n c,Iv x] w (Rw (.bool (P0.has (zs.take n) x)) w):=by
 go_enter func64,ntmps64;go_wp2
 go_loop [5] (fun i=>∃ k:Nat,k<=n/\P0.has (zs.take k) x=false/\i=Iv k) (fun i=>n-(intOf i).toNat)
 case atStart=>exact ⟨0,Nat.zero_le _,rfl,rfl⟩
 case round=>
  obtain ⟨k,hk,hno,rfl⟩:=hrel
  by_cases hlt:k<n
  ·have x1:=hc k (by omega)
   have hs:=P0.contains_succ zs k x (by omega)
   have hin:=fun h:x=zs.getD k 0=>h ▸ P0.contains_of (zs:=zs) hlt hz
   obtain ⟨z,ez⟩:∃ z,zs.getD k 0=z:=⟨_,rfl⟩;rw[ez] at x1 hs hin
   have e1:(0:Int)<=(k:Int):=by omega
   have e2:(k:Int)<(n:Int):=by omega
   by_cases h:z=x
   ·have h':(z == x)=true:=by simpa using h
    have HR:Hid (P0.has (zs.take n) x=true):=hin h.symm;clear h hs hin hno ez hc;go_wp2;go_ret;exact ⟨ret_bool HR.out.symm,rfl⟩
   ·have h':(z == x)=false:=by simpa using h
    have HN:Hid (P0.has (zs.take (k+1)) x=false):=by
     rw[hs,hno,show (x == z)=false by simpa using fun q:x=z=>h q.symm];rfl
    clear h hs hin hno ez hc;go_wp2
    go_round
    case rel=>exact ⟨k+1,by omega,HN.out,by go_num⟩
    case measure=>simp[intOf];omega
  ·obtain rfl:k=n:=by omega
   have HN:Hid (P0.has (zs.take k) x=false):=hno;clear hno hc;go_wp2;go_ret;exact ⟨ret_bool HN.out.symm,rfl⟩
theorem quiet_bool {P:Program} {f:FuncId} {args:Array Value} {w:World} {n:Nat} {a b:Bool} (h:Calls P f args (w.drewN n) fun e w'=>e=.returned (.bool a)/\w'=w.drewN n) (hab:a=b) :
  Calls P f args (w.drewN n) fun e w''=>e=.returned (.bool b)/\∃ m,w''=w.drewN m:=hab ▸ Calls.quiet_of_same h
theorem l03Pages (a:Option Addr) (c:Nat) (zs:List Int) (w:World) (hbig:zs.length<=281474976710656) (hcap:zs.length<=c) (hR:P0.Row w a zs) :
  Calls prog 59 #[.slice a zs.length c] w fun e w'=>e=.returned (.bool (P0.pagesOk zs))/\∃ n,w'=w.drewN n:=by
 go_enter func59,ntmps59;go_wp2
 go_loopw [3] (fun i w'=>∃ k n:Nat,k<=zs.length/\P0.okUpto zs k=true/\i=Iv k/\w'=w.drewN n) (fun i _=>zs.length-(intOf i).toNat)
 case atStart=>exact ⟨0,0,Nat.zero_le _,rfl,rfl,rfl⟩
 case round=>
  obtain ⟨k,n,hk,hok,rfl,hW⟩:=hrel
  have HW:Hid (∀ m,∃ m',wr.drewN m=w.drewN m'):=fun m=>⟨n+m,by rw[hW,World.drewN_drewN]⟩
  by_cases hlt:k<zs.length
  ·have hR':P0.Row wr a zs:=by rw[hW];exact hR.drewN n
   obtain ⟨b,off,rfl,hb,hc⟩:=hR'.get hlt
   have hH:Hid (∀ m x,Calls prog 64 #[.slice (some ⟨b,off,none⟩) k c,Iv x] (wr.drewN m) fun e w'=>e=.returned (.bool (P0.has (zs.take k) x))/\w'=wr.drewN m):=fun m x=>l02Has b off k c zs x _ (by omega) (by omega) hc
   have x1:=hc k hlt;have hs:=P0.okUpto_succ zs k;have hat:P0.okAt zs k=(B1.inB (zs.getD k 0) 5 23 && !(P0.has (zs.take k) (zs.getD k 0))):=rfl;obtain ⟨z,ez⟩:∃ z,zs.getD k 0=z:=⟨_,rfl⟩;rw[ez] at x1 hat
   have e1:(0:Int)<=(k:Int):=by omega
   have e2:(k:Int)<(zs.length:Int):=by omega
   have e3:(k:Int)<=(c:Int):=by omega
   by_cases h1:B1.inB z 5 23=true
   ·by_cases h2:P0.has (zs.take k) z=true
    ·have HR:Hid (P0.pagesOk zs=false):=P0.okUpto_bad hlt (by rw[hat,h1,h2];rfl)
     clear hs hat hok ez hc hR hR' hW;go_wp2
     go_quiet ((first | (go_at_call 32;exact quiet_bool (B1.l01In_any _ _ _ _) h1) | (go_at_call 64;exact quiet_bool (hH.out _ _) h2)))
     go_wp2;go_ret;exact ⟨ret_bool HR.out.symm,HW.out _⟩
    ·have h2':P0.has (zs.take k) z=false:=by simpa using h2
     have HO:Hid (P0.okUpto zs (k+1)=true):=by rw[hs,hok,hat,h1,h2'];rfl
     clear hs hat hok ez hc hR hR' hW h2;go_wp2
     go_quiet ((first | (go_at_call 32;exact quiet_bool (B1.l01In_any _ _ _ _) h1) | (go_at_call 64;exact quiet_bool (hH.out _ _) h2')))
     go_wp2;obtain ⟨m',hm'⟩:=HW.out nq
     go_roundw
     case rel=>exact ⟨k+1,m',by omega,HO.out,by go_num,hm'⟩
     case measure=>simp[intOf];omega
   ·have h1':B1.inB z 5 23=false:=by simpa using h1
    have HR:Hid (P0.pagesOk zs=false):=P0.okUpto_bad hlt (by rw[hat,h1'];rfl);clear hs hat hok ez hc hR hR' hW h1;go_wp2
    go_quiet ((go_at_call 32;exact quiet_bool (B1.l01In_any _ _ _ _) h1'))
    go_wp2;go_ret;exact ⟨ret_bool HR.out.symm,HW.out _⟩
  ·obtain rfl:k=zs.length:=by omega
   have HR:Hid (P0.pagesOk zs=true):=hok;have HW0:Hid (wr=w.drewN n):=hW;clear hok hR hW;go_wp2;go_ret;exact ⟨ret_bool HR.out.symm,n,HW0.out⟩
theorem impl_Contains (b off n c:Nat) (zs:List Int) (x:Int) (w:World) (hz:n<=zs.length) (hbig:n<=281474976710656) (hc:∀ j,j<zs.length->Ce w b (off+j) (Iv (zs.getD j 0))) :
  Calls prog 130 #[.slice (some ⟨b,off,none⟩) n c,Iv x] w (Rw (.bool (P0.has (zs.take n) x)) w):=
 Tryz.slices_Contains_int b off n c zs x w hz (by omega) hc
theorem pagesOk (a:Option Addr) (c:Nat) (zs:List Int) (w:World) (hbig:zs.length<=281474976710656) (hcap:zs.length<=c) (hR:P0.Row w a zs) :
  Calls prog 214 #[.slice a zs.length c] w (Rw (.bool (P0.pagesOk zs)) w):=by
 go_enter func214,ntmps214;go_wp2
 go_loop [7] (fun i=>∃ k:Nat,k<=zs.length/\P0.okUpto zs k=true/\i=Iv k) (fun i=>zs.length-(intOf i).toNat)
 case atStart=>exact ⟨0,Nat.zero_le _,rfl,rfl⟩
 case round=>
  obtain ⟨k,hk,hok,rfl⟩:=hrel
  by_cases hlt:k<zs.length
  ·obtain ⟨b,off,rfl,hb,hc⟩:=hR.get hlt
   have hH:Hid (∀ x,Calls prog 130 #[.slice (some ⟨b,off,none⟩) k c,Iv x] w (Rw (.bool (P0.has (zs.take k) x)) w)):=fun x=>impl_Contains b off k c zs x _ (by omega) (by omega) hc
   have x1:=hc k hlt;have hs:=P0.okUpto_succ zs k;have hat:P0.okAt zs k=(B1.inB (zs.getD k 0) 5 23 && !(P0.has (zs.take k) (zs.getD k 0))):=rfl;obtain ⟨z,ez⟩:∃ z,zs.getD k 0=z:=⟨_,rfl⟩;rw[ez] at x1 hat
   have e1:(0:Int)<=(k:Int):=by omega
   have e2:(k:Int)<(zs.length:Int):=by omega
   have e3:(k:Int)<=(c:Int):=by omega
   by_cases g1:z<5
   ·have HR:Hid (P0.pagesOk zs=false):=P0.okUpto_bad hlt (by rw[hat,show B1.inB z 5 23=false from decide_eq_false (by omega)];rfl)
    clear hs hat hok ez hc hR;go_wp2;go_ret;exact ⟨ret_bool HR.out.symm,rfl⟩
   ·by_cases g2:24<=z
    ·have HR:Hid (P0.pagesOk zs=false):=P0.okUpto_bad hlt (by rw[hat,show B1.inB z 5 23=false from decide_eq_false (by omega)];rfl)
     clear hs hat hok ez hc hR;go_wp2;go_ret;exact ⟨ret_bool HR.out.symm,rfl⟩
    ·have h1:B1.inB z 5 23=true:=decide_eq_true (by omega)
     by_cases h2:P0.has (zs.take k) z=true
     ·have HR:Hid (P0.pagesOk zs=false):=P0.okUpto_bad hlt (by rw[hat,h1,h2];rfl)
      clear hs hat hok ez hc hR
      go_wp2_with (go_at_call 130;refine (hH.out _).mono ?_;rintro e w' ⟨rfl,rfl⟩)
      go_ret;exact ⟨ret_bool HR.out.symm,rfl⟩
     ·have h2':P0.has (zs.take k) z=false:=by simpa using h2
      have HO:Hid (P0.okUpto zs (k+1)=true):=by rw[hs,hok,hat,h1,h2'];rfl
      clear hs hat hok ez hc hR h2
      go_wp2_with (go_at_call 130;refine (hH.out _).mono ?_;rintro e w' ⟨rfl,rfl⟩)
      go_round
      case rel=>exact ⟨k+1,by omega,HO.out,by go_num⟩
      case measure=>simp[intOf];omega
  ·obtain rfl:k=zs.length:=by omega
   have HR:Hid (P0.pagesOk zs=true):=hok;clear hok hR;go_wp2;go_ret;exact ⟨ret_bool HR.out.symm,rfl⟩
theorem l03Need (s:Int) (w:World) (h0:0<=s) (h1:s<=65535) :
  Calls prog 133 #[Iv s] w (Rw (Iv (P0.need s)) w):=by
 have e:P0.need s=(s+32-1) / 32:=by unfold P0.need;omega
 rw[e];go_enter func133,ntmps133;go_wp2;go_ret;exact ⟨rfl,rfl⟩
theorem pagesFor (s:Int) (w:World) (h0:0<=s) (h1:s<=65535) :
  Calls prog 188 #[Iv s] w (Rw (Iv (P0.need s)) w):=by
 have e:P0.need s=(s+32-1) / 32:=by unfold P0.need;omega
 rw[e];go_enter func188,ntmps188;go_wp2;go_ret;exact ⟨rfl,rfl⟩
end P1
namespace I0
open ChangeShapes WideShapes ChangeAt RowKit
open P1 (ret_bool quiet_bool)
def holds (o s:Int) (zs:List Int):Bool:=B1.inB o 0 9 && (B1.inB s 0 192 && (decide ((zs.length:Int)=P0.need s) && P0.pagesOk zs))
def free (o s:Int) (zs:List Int):Bool:=decide (o=0) && (decide (s=0) && decide (zs.length=0))
def ok (k o s:Int) (zs:List Int):Bool:=if k=0 then free o s zs else if k=1 then holds o s zs else if k=2 then holds o s zs && decide (s % 16=0) else false
abbrev val (k o s:Int) (a:Option Addr) (n c:Nat):Value:=.agg #[.int .i64 k,.int .i64 o,.int .i64 s,.slice a n c]
abbrev vals (k o s:Int) (a:Option Addr) (n c:Nat):List Value:=[.int .i64 k,.int .i64 o,.int .i64 s,.slice a n c]
theorem clientOk (o:Int) (w:World):Calls prog 217 #[Iv o] w (Rw (.bool (B1.inB o 0 8)) w):=by
 by_cases h1:0<=o
 ·by_cases h2:o<=8
  ·have HR:Hid (B1.inB o 0 8=true):=decide_eq_true (by omega)
   go_enter func217,ntmps217;go_wp2;go_ret;exact ⟨ret_bool HR.out.symm,rfl⟩
  ·have h2':decide (o<=8)=false:=by simpa using h2
   have HR:Hid (B1.inB o 0 8=false):=decide_eq_false (by omega);go_enter func217,ntmps217;go_wp2;go_ret;exact ⟨ret_bool HR.out.symm,rfl⟩
 ·have HR:Hid (B1.inB o 0 8=false):=decide_eq_false (by omega)
  have h1':decide (0<=o)=false:=by simpa using h1
  go_enter func217,ntmps217;go_wp2;go_ret;exact ⟨ret_bool HR.out.symm,rfl⟩
theorem ownerOk (o:Int) (w:World):Calls prog 264 #[Iv o] w (Rw (.bool (B1.inB o 0 9)) w):=by
 have HC:=clientOk o w
 cases hc:B1.inB o 0 8 with
 | true=>
  rw[hc] at HC;have HR:Hid (B1.inB o 0 9=true):=decide_eq_true (by have:=of_decide_eq_true hc;omega);go_enter func264,ntmps264
  go_wp2_with (go_at_call 217;refine HC.mono ?_;rintro e w1 ⟨rfl,rfl⟩)
  go_ret;exact ⟨ret_bool HR.out.symm,rfl⟩
 | false=>
  rw[hc] at HC;have hn:=of_decide_eq_false hc
  by_cases h3:o=9
  ·have HR:Hid (B1.inB o 0 9=true):=decide_eq_true (by omega)
   have h3':(o == 9)=true:=by simpa using h3
   clear h3 hn;go_enter func264,ntmps264
   go_wp2_with (go_at_call 217;refine HC.mono ?_;rintro e w1 ⟨rfl,rfl⟩)
   go_ret;exact ⟨ret_bool HR.out.symm,rfl⟩
  ·have HR:Hid (B1.inB o 0 9=false):=decide_eq_false (by omega)
   have h3':(o == 9)=false:=by simpa using h3
   clear h3 hn;go_enter func264,ntmps264
   go_wp2_with (go_at_call 217;refine HC.mono ?_;rintro e w1 ⟨rfl,rfl⟩)
   go_ret;exact ⟨ret_bool HR.out.symm,rfl⟩
theorem below_alloc_drew (w:World) (o:Obj) (n:Nat):Bq w ((w.alloc o).drewN n):=K0.below_drewN (K0.below_new w o) n
theorem holdsOk (k o s:Int) (a:Option Addr) (c:Nat) (zs:List Int) (w:World) (hbig:zs.length<=281474976710656) (hcap:zs.length<=c) (hR:P0.Row w a zs) :
  Calls prog 263 #[val k o s a zs.length c] w (Rb (.bool (holds o s zs)) w):=by
 have hB:=K0.below_new w (.cells (Iq k o s a zs.length c) 96);have hR':=hR.alloc (.cells (Iq k o s a zs.length c) 96)
 have hP:Hid (∀ m,Calls prog 214 #[.slice a zs.length c] ((w.alloc (.cells (Iq k o s a zs.length c) 96)).drewN m) fun e w'=>e=.returned (.bool (P0.pagesOk zs))/\w'=(w.alloc (.cells (Iq k o s a zs.length c) 96)).drewN m):=fun m=>P1.pagesOk a c zs _ hbig hcap hR'
 by_cases h1:s<0
 ·have HR:Hid (holds o s zs=false):=by rw[holds,show B1.inB s 0 192=false from decide_eq_false (by omega),Bool.false_and,Bool.and_false];rfl
  go_enter func263,ntmps263;go_wp2;go_ret;exact ⟨ret_bool HR.out.symm,hB⟩
 ·by_cases h2:192<s
  ·have HR:Hid (holds o s zs=false):=by rw[holds,show B1.inB s 0 192=false from decide_eq_false (by omega),Bool.false_and,Bool.and_false];rfl
   go_enter func263,ntmps263;go_wp2;go_ret;exact ⟨ret_bool HR.out.symm,hB⟩
  ·have HS:Hid (holds o s zs=(B1.inB o 0 9 && (decide ((zs.length:Int)=P0.need s) && P0.pagesOk zs))):=by rw[holds,show B1.inB s 0 192=true from decide_eq_true (by omega),Bool.true_and];rfl
   clear hB
   by_cases g1:B1.inB o 0 9=true
   ·by_cases g2:(zs.length:Int)=P0.need s
    ·have g2':((zs.length:Int) == P0.need s)=true:=by simpa using g2
     have HR:Hid (holds o s zs=P0.pagesOk zs):=by rw[HS.out,g1,decide_eq_true g2];rfl
     clear g2 hR hR';go_enter func263,ntmps263;go_wp2
     go_quiet ((first | (go_at_call 264;exact quiet_bool (ownerOk _ _) g1) | (go_at_call 188;exact Calls.quiet_of_same (P1.pagesFor _ _ (by omega) (by omega))) | (go_at_call 214;exact Calls.quiet_of_same (hP.out _))))
     go_wp2;go_ret;exact ⟨ret_bool HR.out.symm,below_alloc_drew _ _ _⟩
    ·have g2':((zs.length:Int) == P0.need s)=false:=by simpa using g2
     have HR:Hid (holds o s zs=false):=by rw[HS.out,decide_eq_false g2,Bool.false_and,Bool.and_false];rfl
     clear g2 hR hR';go_enter func263,ntmps263;go_wp2
     go_quiet ((first | (go_at_call 264;exact quiet_bool (ownerOk _ _) g1) | (go_at_call 188;exact Calls.quiet_of_same (P1.pagesFor _ _ (by omega) (by omega)))))
     go_wp2;go_ret;exact ⟨ret_bool HR.out.symm,below_alloc_drew _ _ _⟩
   ·have g1':B1.inB o 0 9=false:=by simpa using g1
    have HR:Hid (holds o s zs=false):=by rw[HS.out,g1',Bool.false_and];rfl
    clear hR hR';go_enter func263,ntmps263;go_wp2
    go_quiet ((go_at_call 264;exact quiet_bool (ownerOk _ _) g1'))
    go_wp2;go_ret;exact ⟨ret_bool HR.out.symm,below_alloc_drew _ _ _⟩
theorem freeSound (k o s:Int) (a:Option Addr) (c n:Nat) (zs:List Int) (w:World) (hn:n=zs.length) :
  Calls prog 261 #[val k o s a n c] w (Rb (.bool (free o s zs)) w):=by
 have hB:=K0.below_new w (.cells (Iq k o s a n c) 234)
 by_cases h1:o=0
 ·subst h1
  by_cases h2:s=0
  ·subst h2
   by_cases h3:n=0
   ·have HR:Hid (free 0 0 zs=true):=by rw[free,<- hn,h3];rfl
    subst h3;clear hn;go_enter func261,ntmps261;go_wp2;go_ret;exact ⟨ret_bool HR.out.symm,hB⟩
   ·have HR:Hid (free 0 0 zs=false):=by rw[free,<- hn,decide_eq_false h3];rfl
    have h3':((n:Int) == 0)=false:=by simp;omega
    clear hn;go_enter func261,ntmps261;go_wp2;go_ret;exact ⟨ret_bool HR.out.symm,hB⟩
  ·have HR:Hid (free 0 s zs=false):=by rw[free,decide_eq_false h2,Bool.false_and,Bool.and_false];rfl
   have h2':(s == 0)=false:=by simpa using h2
   clear hn;go_enter func261,ntmps261;go_wp2;go_ret;exact ⟨ret_bool HR.out.symm,hB⟩
 ·have HR:Hid (free o s zs=false):=by rw[free,decide_eq_false h1,Bool.false_and];rfl
  have h1':(o == 0)=false:=by simpa using h1
  clear hn;go_enter func261,ntmps261;go_wp2;go_ret;exact ⟨ret_bool HR.out.symm,hB⟩
theorem fileSound (k o s:Int) (a:Option Addr) (c:Nat) (zs:List Int) (w:World) (hbig:zs.length<=281474976710656) (hcap:zs.length<=c) (hR:P0.Row w a zs) :
  Calls prog 262 #[val k o s a zs.length c] w (Rb (.bool (holds o s zs)) w):=by
 have hB:=K0.below_new w (.cells (Iq k o s a zs.length c) 236);have hR':=hR.alloc (.cells (Iq k o s a zs.length c) 236);go_enter func262,ntmps262
 go_wp2_with (go_at_call 263;refine (holdsOk k o s a c zs _ hbig hcap hR').mono ?_;rintro e w' ⟨rfl,hb⟩)
 go_ret;exact ⟨rfl,hB.trans (hb.mono hB.size)⟩
theorem dirSound (k o s:Int) (a:Option Addr) (c:Nat) (zs:List Int) (w:World) (hbig:zs.length<=281474976710656) (hcap:zs.length<=c) (hR:P0.Row w a zs) :
  Calls prog 265 #[val k o s a zs.length c] w (Rb (.bool (holds o s zs && decide (s % 16=0))) w):=by
 have hB:=K0.below_new w (.cells (Iq k o s a zs.length c) 238);have hR':=hR.alloc (.cells (Iq k o s a zs.length c) 238);have hK:=K0.blk_new (vals k o s a zs.length c) w 238
 by_cases hh:holds o s zs=true
 ·have hs:=hh
  simp only[holds,Bool.and_eq_true] at hs;obtain ⟨hs1,hs2⟩:=B1.inB_true hs.2.1;clear hs
  by_cases h16:s % 16=0
  ·have h16':(s % 16 == 0)=true:=by simpa using h16
   have HR:Hid ((holds o s zs && decide (s % 16=0))=true):=by rw[hh,decide_eq_true h16];rfl
   clear h16;go_enter func265,ntmps265
   go_wp2_with (go_at_call 263;refine (holdsOk k o s a c zs _ hbig hcap hR').mono ?_;rintro e w' ⟨rfl,hb⟩;have hK':=hK.below hb;have c2:=hK'.c2)
   go_ret;exact ⟨ret_bool HR.out.symm,hB.trans (hb.mono hB.size)⟩
  ·have h16':(s % 16 == 0)=false:=by simpa using h16
   have HR:Hid ((holds o s zs && decide (s % 16=0))=false):=by rw[decide_eq_false h16,Bool.and_false];rfl
   clear h16;go_enter func265,ntmps265
   go_wp2_with (go_at_call 263;refine (holdsOk k o s a c zs _ hbig hcap hR').mono ?_;rintro e w' ⟨rfl,hb⟩;have hK':=hK.below hb;have c2:=hK'.c2)
   go_ret;exact ⟨ret_bool HR.out.symm,hB.trans (hb.mono hB.size)⟩
 ·have hh':holds o s zs=false:=by simpa using hh
  have HR:Hid ((holds o s zs && decide (s % 16=0))=false):=by rw[hh',Bool.false_and];rfl
  go_enter func265,ntmps265
  go_wp2_with (go_at_call 263;refine (holdsOk k o s a c zs _ hbig hcap hR').mono ?_;rintro e w' ⟨rfl,hb⟩)
  go_ret;exact ⟨ret_bool HR.out.symm,hB.trans (hb.mono hB.size)⟩
end I0
namespace R0
open Go
def pg (zs:List Int):ByteArray:=⟨(zs.map fun z=>UInt8.ofNat z.toNat).toArray⟩
theorem pg_size (zs:List Int):(pg zs).size=zs.length:=by simp[pg,ByteArray.size]
theorem pg_snoc (zs:List Int) (k:Nat) (h:k<zs.length):pg (zs.take k) ++ ⟨#[UInt8.ofNat (zs.getD k 0).toNat]⟩=pg (zs.take (k+1)):=by
 apply ByteArray.ext
 rw[ByteArray.data_append]
 apply Array.toList_inj.1
 simp only[pg,Array.toList_append,List.take_succ_eq_append_getElem h,List.map_append,List.map_cons,List.map_nil,P0.getD_get zs k h]
def two (k o:Int):ByteArray:=⟨#[UInt8.ofNat k.toNat,UInt8.ofNat o.toNat]⟩
theorem two_size (k o:Int):(two k o).size=2:=rfl
def head (k o s:Int) (zs:List Int):ByteArray:=two k o++B3.pair s++pg zs
def putI (k o s:Int) (zs:List Int):ByteArray:=if I0.ok k o s zs then head k o s zs++B4.nulls (12-zs.length) else ⟨#[]⟩
theorem pair_size (s:Int) (h0:0<=s) (h1:s<=65535):(B3.pair s).size=2:=by
 rw[B3.pair,show B1.inB s 0 65535=true from decide_eq_true ⟨h0,h1⟩]
 rfl
theorem ok_bounds {k o s:Int} {zs:List Int} (h:I0.ok k o s zs=true):(0<=k/\k<=2)/\(0<=o/\o<=9)/\(0<=s/\s<=192)/\zs.length<=6/\(zs.length:Int)=P0.need s/\P0.pagesOk zs=true:=by
 have hh:∀ {o s:Int} {zs:List Int},I0.holds o s zs=true->(0<=o/\o<=9)/\(0<=s/\s<=192)/\zs.length<=6/\(zs.length:Int)=P0.need s/\P0.pagesOk zs=true:=by
  intro o s zs h;simp only[I0.holds,Bool.and_eq_true,decide_eq_true_eq] at h;have h1:=B1.inB_true h.1;have h2:=B1.inB_true h.2.1;have h3:=h.2.2.1;refine ⟨h1,h2,?_,h3,h.2.2.2⟩;unfold P0.need at h3;omega
 unfold I0.ok at h
 split at h
 ·rename_i e
  simp only[I0.free,Bool.and_eq_true,decide_eq_true_eq] at h;have hz:zs=[]:=List.eq_nil_of_length_eq_zero h.2.2;refine ⟨by omega,by omega,by omega,by omega,?_,?_⟩
  ·rw[h.2.1,h.2.2];decide
  ·rw[hz];rfl
 ·split at h
  ·rename_i e
   exact ⟨by omega,hh h⟩
  ·split at h
   ·rename_i e
    simp only[Bool.and_eq_true] at h;exact ⟨by omega,hh h.1⟩
   ·cases h
theorem pages_bounds {zs:List Int} (h:P0.pagesOk zs=true) {k:Nat} (hk:k<zs.length):5<=zs.getD k 0/\zs.getD k 0<=23:=by
 have h1:P0.okAt zs k=true:=by
  cases hb:P0.okAt zs k with
  | true=>rfl
  | false=>rw[P0.pagesOk,P0.okUpto_bad hk hb] at h;cases h
 simp only[P0.okAt,Bool.and_eq_true] at h1;exact B1.inB_true h1.1
theorem head_size (k o s:Int) (zs:List Int) (h0:0<=s) (h1:s<=65535):(head k o s zs).size=4+zs.length:=by
 rw[head,ByteArray.size_append,ByteArray.size_append,two_size,pair_size s h0 h1,pg_size]
end R0
namespace B6
open ChangeShapes WideShapes ChangeAt RowKit
def pairAt (s:ByteArray) (i:Int):Int:=if h:0<=i/\i+1<s.size then (s[i.toNat]'(by omega)).toNat+256*(s[(i+1).toNat]'(by omega)).toNat else 0
theorem spec_PairAt (s:ByteArray) (i:Int) (w:World) (hs:s.size<=281474976710656) :
  Calls prog 132 #[.string s,Iv i] w fun e w'=>e=.returned (Iv (pairAt s i))/\∃ n,w'=w.drewN n:=by
 by_cases h1:i<0
 ·have e:pairAt s i=0:=by rw[pairAt,dif_neg (by omega)]
  rw[e];go_enter func132,ntmps132;go_wp2;go_ret;exact ⟨rfl,0,rfl⟩
 ·by_cases h2:(s.size:Int)-2<i
  ·have e:pairAt s i=0:=by rw[pairAt,dif_neg (by omega)]
   rw[e];go_enter func132,ntmps132;go_wp2;go_ret;exact ⟨rfl,0,rfl⟩
  ·have e:pairAt s i=(s[i.toNat]'(by omega)).toNat+256*(s[(i+1).toNat]'(by omega)).toNat:=by rw[pairAt,dif_pos (by omega)]
   rw[e]
   have h3:i<(s.size:Int):=by omega
   have h4:i+1<(s.size:Int):=by omega
   have h6:0<=i:=by omega
   have h7:0<=i+1:=by omega
   have b1:=(s[i.toNat]'(by omega)).toNat_lt;have b2:=(s[(i+1).toNat]'(by omega)).toNat_lt;go_enter func132,ntmps132;go_wp2
   go_quiet (fail)
   go_wp2;go_ret;exact ⟨rfl,_,rfl⟩
theorem impl_PairAt (s:ByteArray) (i:Int) (w:World) (hs:s.size<=281474976710656) :
  Calls prog 185 #[.string s,Iv i] w fun e w'=>e=.returned (Iv (pairAt s i))/\∃ n,w'=w.drewN n:=by
 have hs':s.size<=maxLen:=by unfold maxLen;omega
 by_cases h:B2.lies s.size i 2=true
 ·obtain ⟨h1,h2,h5⟩:=B2.lies_true h
  have e:pairAt s i=(s[i.toNat]'(by omega)).toNat+(s[(i+1).toNat]'(by omega)).toNat*256:=by rw[pairAt,dif_pos (by omega),Int.mul_comm]
  rw[e]
  have h3:i<(s.size:Int):=by omega
  have h4:i+1<(s.size:Int):=by omega
  have h6:0<=i:=by omega
  have h7:0<=i+1:=by omega
  have b1:=(s[i.toNat]'(by omega)).toNat_lt;have b2:=(s[(i+1).toNat]'(by omega)).toNat_lt;go_enter func185,ntmps185
  go_wp2_with (go_at_call 160;refine (B2.liesIn_any _ _ _ _ hs').mono ?_;rintro e w' ⟨rfl,rfl⟩)
  go_quiet (fail)
  go_wp2;go_ret;exact ⟨rfl,_,rfl⟩
 ·have h':B2.lies s.size i 2=false:=by simpa using h
  have e:pairAt s i=0:=by rw[pairAt,dif_neg (fun h9=>B2.lies_false h' (by omega))]
  rw[e];go_enter func185,ntmps185
  go_wp2_with (go_at_call 160;refine (B2.liesIn_any _ _ _ _ hs').mono ?_;rintro e w' ⟨rfl,rfl⟩)
  go_ret;exact ⟨rfl,0,rfl⟩
end B6
namespace L1
open ChangeShapes WideShapes ChangeAt RowKit
def recAt (i:Int):Int:=if B1.inB i 0 7 then 32+i*16 else -1
theorem spec_RecAt (i:Int) (w:World) :
  Calls prog 46 #[Iv i] w (Rw (Iv (recAt i)) w):=by
 by_cases h:B1.inB i 0 7=true
 ·have e:recAt i=32+i*16:=by rw[recAt,if_pos h]
  obtain ⟨h1,h2⟩:=B1.inB_true h;rw[e];go_enter func46,ntmps46
  go_wp2_with (go_at_call 32;refine (B1.l01In_any _ _ _ _).mono ?_;rintro e w' ⟨rfl,rfl⟩)
  go_ret;exact ⟨rfl,rfl⟩
 ·have h':B1.inB i 0 7=false:=by simpa using h
  have e:recAt i = -1:=by rw[recAt,if_neg h]
  rw[e];go_enter func46,ntmps46
  go_wp2_with (go_at_call 32;refine (B1.l01In_any _ _ _ _).mono ?_;rintro e w' ⟨rfl,rfl⟩)
  go_ret;exact ⟨rfl,rfl⟩
theorem impl_RecAt (i:Int) (w:World) :
  Calls prog 123 #[Iv i] w (Rw (Iv (recAt i)) w):=by
 by_cases h1:i<0
 ·have e:recAt i = -1:=by rw[recAt,show B1.inB i 0 7=false from decide_eq_false (by omega)];rfl
  rw[e];go_enter func123,ntmps123;go_wp2;go_ret;exact ⟨rfl,rfl⟩
 ·by_cases h2:8<=i
  ·have e:recAt i = -1:=by rw[recAt,show B1.inB i 0 7=false from decide_eq_false (by omega)];rfl
   rw[e];go_enter func123,ntmps123;go_wp2;go_ret;exact ⟨rfl,rfl⟩
  ·have e:recAt i=32+i*16:=by rw[recAt,show B1.inB i 0 7=true from decide_eq_true (by omega)];rfl
   rw[e];go_enter func123,ntmps123;go_wp2;go_ret;exact ⟨rfl,rfl⟩
end L1
namespace I1
open ChangeShapes WideShapes ChangeAt RowKit
open P1 (ret_bool quiet_bool)
open I0 (val vals)
def rec (k:Int) (v:Value):Value:=if k=0 then .iface 234 v else if k=1 then .iface 236 v else if k=2 then .iface 238 v else .nilIface
theorem recordOf0 (o s:Int) (a:Option Addr) (c:Nat) (zs:List Int) (w:World) (hbig:zs.length<=281474976710656) (hcap:zs.length<=c) (hR:P0.Row w a zs) :
  Calls prog 189 #[val 0 o s a zs.length c] w (Rb (.tuple #[.iface 234 (val 0 o s a zs.length c),.bool (I0.free o s zs)]) w):=by
 have hB:=K0.below_new w (.cells (Iq 0 o s a zs.length c) 96);have hR':=hR.alloc (.cells (Iq 0 o s a zs.length c) 96);go_enter func189,ntmps189
 go_wp2_with (go_at_call 261;refine (I0.freeSound 0 o s a c zs.length zs _ rfl).mono ?_;rintro e w' ⟨rfl,hb⟩)
 go_ret2
 exact ⟨rfl,hB.trans (hb.mono hB.size)⟩
theorem recordOf1 (o s:Int) (a:Option Addr) (c:Nat) (zs:List Int) (w:World) (hbig:zs.length<=281474976710656) (hcap:zs.length<=c) (hR:P0.Row w a zs) :
  Calls prog 189 #[val 1 o s a zs.length c] w (Rb (.tuple #[.iface 236 (val 1 o s a zs.length c),.bool (I0.holds o s zs)]) w):=by
 have hB:=K0.below_new w (.cells (Iq 1 o s a zs.length c) 96);have hR':=hR.alloc (.cells (Iq 1 o s a zs.length c) 96);go_enter func189,ntmps189
 go_wp2_with (go_at_call 262;refine (I0.fileSound 1 o s a c zs _ hbig hcap hR').mono ?_;rintro e w' ⟨rfl,hb⟩)
 go_ret2
 exact ⟨rfl,hB.trans (hb.mono hB.size)⟩
theorem recordOf2 (o s:Int) (a:Option Addr) (c:Nat) (zs:List Int) (w:World) (hbig:zs.length<=281474976710656) (hcap:zs.length<=c) (hR:P0.Row w a zs) :
  Calls prog 189 #[val 2 o s a zs.length c] w (Rb (.tuple #[.iface 238 (val 2 o s a zs.length c),.bool (I0.holds o s zs && decide (s % 16=0))]) w):=by
 have hB:=K0.below_new w (.cells (Iq 2 o s a zs.length c) 96);have hR':=hR.alloc (.cells (Iq 2 o s a zs.length c) 96);go_enter func189,ntmps189
 go_wp2_with (go_at_call 265;refine (I0.dirSound 2 o s a c zs _ hbig hcap hR').mono ?_;rintro e w' ⟨rfl,hb⟩)
 go_ret2
 exact ⟨rfl,hB.trans (hb.mono hB.size)⟩
theorem recordOfN (k o s:Int) (a:Option Addr) (c n:Nat) (w:World) (h0:k≠0) (h1:k≠1) (h2:k≠2) :
  Calls prog 189 #[val k o s a n c] w (Rb (.tuple #[.nilIface,.bool false]) w):=by
 have hB:=K0.below_new w (.cells (Iq k o s a n c) 96)
 have g0:(k == 0)=false:=by simpa using h0
 have g1:(k == 1)=false:=by simpa using h1
 have g2:(k == 2)=false:=by simpa using h2
 go_enter func189,ntmps189;go_wp2
 go_ret2
 exact ⟨rfl,hB⟩
theorem recordOf (k o s:Int) (a:Option Addr) (c:Nat) (zs:List Int) (w:World) (hbig:zs.length<=281474976710656) (hcap:zs.length<=c) (hR:P0.Row w a zs) :
  Calls prog 189 #[val k o s a zs.length c] w (Rb (.tuple #[rec k (val k o s a zs.length c),.bool (I0.ok k o s zs)]) w):=by
 by_cases h0:k=0
 ·subst h0
  exact recordOf0 o s a c zs w hbig hcap hR
 ·by_cases h1:k=1
  ·subst h1
   exact recordOf1 o s a c zs w hbig hcap hR
  ·by_cases h2:k=2
   ·subst h2
    exact recordOf2 o s a c zs w hbig hcap hR
   ·have e1:rec k (val k o s a zs.length c)=.nilIface:=by rw[rec,if_neg h0,if_neg h1,if_neg h2]
    have e2:I0.ok k o s zs=false:=by rw[I0.ok,if_neg h0,if_neg h1,if_neg h2]
    rw[e1,e2];exact recordOfN k o s a c zs.length w h0 h1 h2
theorem specFree (o s:Int) (a:Option Addr) (c n:Nat) (zs:List Int) (w:World) (hn:n=zs.length) :
  Calls prog 166 #[val 0 o s a n c] w (Rb (.bool (I0.free o s zs)) w):=by
 have hB:=K0.below_new w (.cells (Iq 0 o s a n c) 96)
 by_cases h1:o=0
 ·subst h1
  by_cases h2:s=0
  ·subst h2
   by_cases h3:n=0
   ·have HR:Hid (I0.free 0 0 zs=true):=by rw[I0.free,<- hn,h3];rfl
    subst h3;clear hn;go_enter func166,ntmps166;go_wp2;go_ret;exact ⟨ret_bool HR.out.symm,hB⟩
   ·have HR:Hid (I0.free 0 0 zs=false):=by rw[I0.free,<- hn,decide_eq_false h3];rfl
    have h3':((n:Int) == 0)=false:=by simp;omega
    clear hn;go_enter func166,ntmps166;go_wp2;go_ret;exact ⟨ret_bool HR.out.symm,hB⟩
  ·have HR:Hid (I0.free 0 s zs=false):=by rw[I0.free,decide_eq_false h2,Bool.false_and,Bool.and_false];rfl
   have h2':(s == 0)=false:=by simpa using h2
   clear hn;go_enter func166,ntmps166;go_wp2;go_ret;exact ⟨ret_bool HR.out.symm,hB⟩
 ·have HR:Hid (I0.free o s zs=false):=by rw[I0.free,decide_eq_false h1,Bool.false_and];rfl
  have h1':(o == 0)=false:=by simpa using h1
  clear hn;go_enter func166,ntmps166;go_wp2;go_ret;exact ⟨ret_bool HR.out.symm,hB⟩
theorem specHolds (k o s:Int) (a:Option Addr) (c:Nat) (zs:List Int) (w:World) (hbig:zs.length<=281474976710656) (hcap:zs.length<=c) (hR:P0.Row w a zs) (h0:k≠0) :
    Calls prog 166 #[val k o s a zs.length c] w (Rb (.bool (I0.ok k o s zs)) w):=by
  have hB:=K0.below_new w (.cells (Iq k o s a zs.length c) 96);have hR':=hR.alloc (.cells (Iq k o s a zs.length c) 96)
  have hP:Hid (∀ m,Calls prog 59 #[.slice a zs.length c] ((w.alloc (.cells (Iq k o s a zs.length c) 96)).drewN m) fun e w'=>e=.returned (.bool (P0.pagesOk zs))/\∃ n,w'=((w.alloc (.cells (Iq k o s a zs.length c) 96)).drewN m).drewN n):=fun m=>P1.l03Pages a c zs _ hbig hcap (hR'.drewN m)
  clear hR hR'
  have z0:(k == 0)=false:=by simpa using h0
  by_cases hS:B1.inB s 0 192=true
  · obtain ⟨hs1,hs2⟩:=B1.inB_true hS
    by_cases hd:k=2/\¬ s % 16=0
    · obtain ⟨rfl,h16⟩:=hd
      have h16':(s % 16 != 0)=true:=by simpa using h16
      have HR:Hid (I0.ok 2 o s zs=false):=by
        show (I0.holds o s zs && decide (s % 16=0))=false
        rw[decide_eq_false h16,Bool.and_false]
      clear h16;go_enter func166,ntmps166;go_wp2;go_ret;exact ⟨ret_bool HR.out.symm,hB⟩
    · have HK:Hid (B1.inB k 1 2=true->I0.ok k o s zs=I0.holds o s zs):=fun h=>by
        obtain ⟨k1,k2⟩:=B1.inB_true h
        by_cases e1:k=1
        · subst e1;rfl
        · have e2:k=2:=by omega
          have h16:s % 16=0:=Decidable.byContradiction fun h=>hd ⟨e2,h⟩
          subst e2
          show (I0.holds o s zs && decide (s % 16=0))=I0.holds o s zs
          rw[decide_eq_true h16,Bool.and_true]
      have HN:Hid (B1.inB k 1 2=false->I0.ok k o s zs=false):=fun h=>by
        have:=B1.inB_false h;rw[I0.ok,if_neg h0,if_neg (by omega),if_neg (by omega)]
      have hg:(k == 2)=false\/((k == 2)=true/\(s % 16 != 0)=false):=by
        by_cases e2:k=2
        · right
          refine ⟨by simpa using e2,?_⟩
          have h16:s % 16=0:=Decidable.byContradiction fun h=>hd ⟨e2,h⟩
          simpa using h16
        · left
          simpa using e2
      have HH:Hid (I0.holds o s zs=(B1.inB o 0 9 && (decide ((zs.length:Int)=P0.need s) && P0.pagesOk zs))):=by rw[I0.holds,hS,Bool.true_and];rfl
      clear hd h0
      by_cases g0:B1.inB k 1 2=true
      · by_cases g1:B1.inB o 0 9=true
        · by_cases g2:(zs.length:Int)=P0.need s
          · have g2':((zs.length:Int) == P0.need s)=true:=by simpa using g2
            have HR:Hid (I0.ok k o s zs=P0.pagesOk zs):=by rw[HK.out g0,HH.out,g1,decide_eq_true g2];rfl
            clear g2
            rcases hg with hg | ⟨hg,hg2⟩
            all_goals
              go_enter func166,ntmps166;go_wp2
              go_quiet ((first | (go_at_call 32;first | exact quiet_bool (B1.l01In_any _ _ _ _) g0 | exact quiet_bool (B1.l01In_any _ _ _ _) g1 | exact quiet_bool (B1.l01In_any _ _ _ _) hS) | (go_at_call 133;exact Calls.quiet_of_same (P1.l03Need _ _ (by omega) (by omega))) | (go_at_call 59;exact Calls.quiet_of (hP.out _))))
              go_wp2;go_ret;exact ⟨ret_bool HR.out.symm,I0.below_alloc_drew _ _ _⟩
          · have g2':((zs.length:Int) == P0.need s)=false:=by simpa using g2
            have HR:Hid (I0.ok k o s zs=false):=by rw[HK.out g0,HH.out,decide_eq_false g2,Bool.false_and,Bool.and_false];rfl
            clear g2
            rcases hg with hg | ⟨hg,hg2⟩
            all_goals
              go_enter func166,ntmps166;go_wp2
              go_quiet ((first | (go_at_call 32;first | exact quiet_bool (B1.l01In_any _ _ _ _) g0 | exact quiet_bool (B1.l01In_any _ _ _ _) g1 | exact quiet_bool (B1.l01In_any _ _ _ _) hS) | (go_at_call 133;exact Calls.quiet_of_same (P1.l03Need _ _ (by omega) (by omega)))))
              go_wp2;go_ret;exact ⟨ret_bool HR.out.symm,I0.below_alloc_drew _ _ _⟩
        · have g1':B1.inB o 0 9=false:=by simpa using g1
          have HR:Hid (I0.ok k o s zs=false):=by rw[HK.out g0,HH.out,g1',Bool.false_and];rfl
          rcases hg with hg | ⟨hg,hg2⟩
          all_goals
            go_enter func166,ntmps166;go_wp2
            go_quiet ((go_at_call 32;first | exact quiet_bool (B1.l01In_any _ _ _ _) g0 | exact quiet_bool (B1.l01In_any _ _ _ _) g1'))
            go_wp2;go_ret;exact ⟨ret_bool HR.out.symm,I0.below_alloc_drew _ _ _⟩
      · have g0':B1.inB k 1 2=false:=by simpa using g0
        have HR:Hid (I0.ok k o s zs=false):=HN.out g0'
        rcases hg with hg | ⟨hg,hg2⟩
        all_goals
          go_enter func166,ntmps166;go_wp2
          go_quiet ((go_at_call 32;exact quiet_bool (B1.l01In_any _ _ _ _) g0'))
          go_wp2;go_ret;exact ⟨ret_bool HR.out.symm,I0.below_alloc_drew _ _ _⟩
  · have hS':B1.inB s 0 192=false:=by simpa using hS
    have HR:Hid (I0.ok k o s zs=false):=by
      show I0.ok k o s zs=false
      have hf:I0.holds o s zs=false:=by rw[I0.holds,hS',Bool.false_and,Bool.and_false]
      rw[I0.ok,if_neg h0]
      split
      · exact hf
      · split
        · rw[hf];rfl
        · rfl
    clear hS
    have hg:(k == 2)=false\/(k == 2)=true:=by cases (k == 2) <;> simp
    by_cases g0:B1.inB k 1 2=true
    · by_cases g1:B1.inB o 0 9=true
      · rcases hg with hg | hg
        all_goals
          go_enter func166,ntmps166;go_wp2
          all_goals first
            | (go_ret
               exact ⟨ret_bool HR.out.symm,hB⟩)
            | (go_quiet ((go_at_call 32;first | exact quiet_bool (B1.l01In_any _ _ _ _) g0 | exact quiet_bool (B1.l01In_any _ _ _ _) g1 | exact quiet_bool (B1.l01In_any _ _ _ _) hS'))
               go_wp2;go_ret
               exact ⟨ret_bool HR.out.symm,I0.below_alloc_drew _ _ _⟩)
      · have g1':B1.inB o 0 9=false:=by simpa using g1
        rcases hg with hg | hg
        all_goals
          go_enter func166,ntmps166;go_wp2
          all_goals first
            | (go_ret
               exact ⟨ret_bool HR.out.symm,hB⟩)
            | (go_quiet ((go_at_call 32;first | exact quiet_bool (B1.l01In_any _ _ _ _) g0 | exact quiet_bool (B1.l01In_any _ _ _ _) g1'))
               go_wp2;go_ret
               exact ⟨ret_bool HR.out.symm,I0.below_alloc_drew _ _ _⟩)
    · have g0':B1.inB k 1 2=false:=by simpa using g0
      rcases hg with hg | hg
      all_goals
        go_enter func166,ntmps166;go_wp2
        all_goals first
          | (go_ret
             exact ⟨ret_bool HR.out.symm,hB⟩)
          | (go_quiet ((go_at_call 32;exact quiet_bool (B1.l01In_any _ _ _ _) g0'))
             go_wp2;go_ret
             exact ⟨ret_bool HR.out.symm,I0.below_alloc_drew _ _ _⟩)
theorem spec_InodeOk (k o s:Int) (a:Option Addr) (c:Nat) (zs:List Int) (w:World) (hbig:zs.length<=281474976710656) (hcap:zs.length<=c) (hR:P0.Row w a zs) :
  Calls prog 166 #[val k o s a zs.length c] w (Rb (.bool (I0.ok k o s zs)) w):=by
 by_cases h0:k=0
 ·subst h0
  exact specFree o s a c zs.length zs w rfl
 ·exact specHolds k o s a c zs w hbig hcap hR h0
end I1
namespace F0
open ChangeShapes WideShapes ChangeAt RowKit
def Buf (base:Nat) (w:World) (g n cap:Nat) (t:ByteArray):Prop:=n=t.size/\w.ownsRow base 5 1 (.slice (some ⟨g,0,none⟩) n cap) n (Lib.strCells t)
theorem info5:(prog.info? 5).map (fun i=>(i.zero,i.size,i.bytes))=some (some (.int .u8 0),1,1):=by kernel_rfl
variable {base g n cap : Nat} {w W : World} {t : ByteArray}
theorem owns_below {e:TypeId} {size:Nat} {v:Value} {xs:List Value} (h:w.ownsRow base e size v n xs) (hb:Bq w W):W.ownsRow base e size v n xs:=by
 refine ⟨h.1,?_⟩
 rcases h.2 with h0 | ⟨g,cap,cur,hv,hg,hc,r⟩
 ·exact Or.inl h0
 ·refine Or.inr ⟨g,cap,cur,hv,hg,?_,r⟩
  rw[hb.block g (Array.getElem?_eq_some_iff.1 hc).1];exact hc
theorem below_grown {B:Nat} {w W W':World} {row:Option Nat} (h:Below B w W) (hg:W.grownBy W' row) (hr:∀ g,row=some g->B<=g) (hB:B<=W.heap.size):Below B w W':=
 ⟨hg.os.trans h.os,hg.tape.trans h.tape,hg.output.trans h.output,Nat.le_trans h.size hg.size,fun k hk=>by
  rw[hg.block k (by omega) (fun e=>by have:=hr k e.symm;omega)]
  exact h.block k hk⟩
theorem Buf.below (h:Buf base w g n cap t) (hb:Bq w W):Buf base W g n cap t:=⟨h.1,owns_below h.2 hb⟩
theorem Buf.alloc (h:Buf base w g n cap t) (o:Obj):Buf base (w.alloc o) g n cap t:=h.below ((Below.refl _ _).alloc (Nat.le_refl _) o)
theorem Buf.drew (h:Buf base w g n cap t):Buf base w.drew g n cap t:=h
theorem Buf.drewN (h:Buf base w g n cap t) (m:Nat):Buf base (w.drewN m) g n cap t:=h
theorem Buf.lt (h:Buf base w g n cap t):base<=g/\g<w.heap.size:=h.2.lt g rfl
theorem Buf.holds (h:Buf base w g n cap t):B0.Holds w g 0 t.data.toList:=by
 intro j hj
 have hj':j<t.size:=by rw[Lib.size_eq];exact hj
 have:=h.2.cells (g:=g) rfl j (.int .u8 (t.data.toList[j].toNat:Int)) (by
  have hj2:j<t.data.size:=by simpa using hj
  simp[Lib.strCells]
  exact ⟨_,Array.getElem?_eq_getElem hj2,rfl⟩)
 rw[B0.add_off] at this;exact this
theorem Buf.conv (h:Buf base w g n cap t):(convert 126 9 (Sv g n cap)).run prog w=.ok (.string t) w:=by
 have:=B0.conv_back (P:=prog) w 126 9 5 g 0 cap t.data.toList underlying126 underlying5 underlying9 h.holds n (by rw[h.1,Lib.size_eq])
 rwa [Lib.mk_data] at this
theorem buf_two (w:World) (x y:Int) (hx:0<=x/\x<256) (hy:0<=y/\y<256) (hb:base<=w.heap.size) :
  Buf base (w.alloc (.cells #[.int .u8 x,.int .u8 y] 5)) w.heap.size 2 2 ⟨#[UInt8.ofNat x.toNat,UInt8.ofNat y.toNat]⟩:=by
 have e1:x.toNat<256:=by omega
 have e2:y.toNat<256:=by omega
 refine ⟨rfl,by simp[Lib.strCells],Or.inr ⟨w.heap.size,2,#[.int .u8 x,.int .u8 y],rfl,hb,heap_alloc_new w _,Nat.le_refl _,by unfold maxLen;omega,rfl,?_⟩⟩;simp[Lib.strCells,Nat.mod_eq_of_lt e1,Nat.mod_eq_of_lt e2];omega
theorem Buf.at (h:Buf base w g n cap t) {g':Nat} (e:g=g'):Buf base w g' n cap t:=e ▸ h
theorem buf_none (w:World) (C:Array Value) (cap:Nat) (hc:C.size=cap) (hm:cap<=maxLen) (hb:base<=w.heap.size):Buf base (w.alloc (.cells C 5)) w.heap.size 0 cap ⟨#[]⟩:=
 ⟨rfl,World.ownsRow_made w C cap hb hm (by omega)⟩
theorem cells_append (t s:ByteArray):Lib.strCells t++Lib.strCells s=Lib.strCells (t++s):=by simp[Lib.strCells,ByteArray.data_append]
theorem append_text {ops:Array Oper} {rest:List Oper} {o:Oper} {a:Act} {Q:Exit->Act->World->Prop} (hgd:o.guard=none) (sl x:Operand)
  (ho:o.op=.call { callee:=.builtin .append,args:=#[sl,x],argTypes:=#[126,9] })
  (hbuf:Buf base w g n cap t) (s:ByteArray) (hs:a.eval sl=Sv g n cap) (hx:a.eval x=.string s) (hlen:n+s.size<=140737488355328) (hb:base<=w.heap.size)
  (h:∀ g' cap' w',Buf base w' g' (n+s.size) cap' (t++s)->Below base w w'->wpList prog ops Q rest (a.put o.dst (Sv g' (n+s.size) cap')) w'):wpList prog ops Q (o :: rest) a w:=by
 obtain ⟨i0,hi,hz0,hz1,hz2⟩:=info_parts info5;refine Lib.wpList_append_own_string w hgd sl x 126 9 ho base 5 i0 underlying126 underlying9 hi hz0 hz1 hz2 _ n _ hs hbuf.2 s hx (by unfold maxLen;omega) hlen hb ?_;intro v' w' ho' hg' hnil
 rcases ho'.2 with ⟨h0,_⟩ | ⟨g',cap',cur,hv,r⟩
 ·exact absurd ((hnil.1 h0).1) (by simp)
 ·subst hv
  refine h g' cap' w' ⟨by rw[hbuf.1,ByteArray.size_append],?_⟩ ?_
  ·rw[<- cells_append]
   exact ho'
  ·exact below_grown (Below.refl _ _) hg' (fun k hk=>by
    have hk':g=k:=by simpa [Value.ownBlock] using hk
    exact hk' ▸ hbuf.lt.1) hb
theorem one_byte (c:Int):∀ u ∈ [Value.int .u8 c],u.oneCell'=true:=by
 intro u h;simp at h;subst h;rfl
theorem append_byte {ops:Array Oper} {rest:List Oper} {o:Oper} {a:Act} {Q:Exit->Act->World->Prop} (hgd:o.guard=none) (sl x:Operand)
  (ho:o.op=.call { callee:=.builtin .append,args:=#[sl,x],argTypes:=#[126,126] })
  (hbuf:Buf base w g n cap t) (c:Int) (hc:0<=c/\c<256) (hs:a.eval sl=Sv g n cap) (hx:a.eval x=Sv w.heap.size 1 1) (hlen:n+1<=140737488355328) (hb:base<=w.heap.size)
  (h:∀ g' cap' w',Buf base w' g' (n+1) cap' (t ++ ⟨#[UInt8.ofNat c.toNat]⟩)->Below base w w'->wpList prog ops Q rest (a.put o.dst (Sv g' (n+1) cap')) w'):wpList prog ops Q (o :: rest) a (w.alloc (.cells #[.int .u8 c] 5)):=by
 obtain ⟨i0,hi,hz0,hz1,hz2⟩:=info_parts info5;have hb2:=hbuf.alloc (.cells #[.int .u8 c] 5);refine wpList_append_lies _ hgd sl x 126 ho base 5 i0 (.int .u8 0) 1 1 underlying126 hi hz0 hz1 hz2 rfl (by omega) _ n _ hs hb2.2 ⟨w.heap.size,0,none⟩ 1 1 [.int .u8 c] hx rfl (World.news_of_block (heap_alloc_new w _)) (one_byte c) (by omega) (by unfold maxLen;omega) (by omega) (by simp;omega) _ rfl ?_;intro g' cap' w' ho' hg' _ _
 have e1:c.toNat<256:=by omega
 refine h g' cap' w' ⟨by rw[hbuf.1,ByteArray.size_append];rfl,?_⟩ ?_
 ·rw[<- cells_append]
  have e:Lib.strCells ⟨#[UInt8.ofNat c.toNat]⟩=[.int .u8 c]:=by
   simp[Lib.strCells,Nat.mod_eq_of_lt e1];omega
  rw[e];exact ho'
 ·exact below_grown ((Below.refl _ _).alloc hb _) hg' (fun k hk=>by
   have hk':g=k:=by simpa [Value.ownBlock] using hk
   exact hk' ▸ hbuf.lt.1) (by simp;omega)
end F0
namespace R1
open ChangeShapes WideShapes ChangeAt RowKit
open I0 (val vals)
theorem ret_str {a b:ByteArray} (h:a=b):Ending.returned (.string a)=.returned (.string b):=by rw[h]
def upto (k o s:Int) (zs:List Int) (j:Nat):ByteArray:=R0.two k o++B3.pair s++R0.pg (zs.take j)
theorem upto_zero (k o s:Int) (zs:List Int):upto k o s zs 0=R0.two k o++B3.pair s:=by
 apply ByteArray.ext
 simp[upto,R0.pg]
theorem upto_succ (k o s:Int) (zs:List Int) (j:Nat) (h:j<zs.length):upto k o s zs j ++ ⟨#[UInt8.ofNat (zs.getD j 0).toNat]⟩=upto k o s zs (j+1):=by
 rw[upto,upto,ByteArray.append_assoc,R0.pg_snoc zs j h]
theorem upto_all (k o s:Int) (zs:List Int):upto k o s zs zs.length=R0.head k o s zs:=by rw[upto,List.take_length,R0.head]
structure St (w:World) (W1:World) (g n cap:Nat) (t:ByteArray) (W:World):Prop where
 buf:F0.Buf W1.heap.size W g n cap t
 bel:Bq W1 W
variable {w W1 W W' : World} {g n cap : Nat} {t : ByteArray}
theorem St.below (h:St w W1 g n cap t W) (hb:Bq W W'):St w W1 g n cap t W':=⟨h.buf.below hb,h.bel.trans (hb.mono h.bel.size)⟩
theorem St.drew (h:St w W1 g n cap t W):St w W1 g n cap t W.drew:=⟨h.buf.drew,h.bel.drew⟩
theorem zeros_st (m:Int) (h:St w W1 g n cap t W) :
  Calls prog 125 #[Iv m] W fun e w'=>e=.returned (.string (B4.zeros m))/\St w W1 g n cap t w':=
 (B4.impl_Zeros m W).mono fun _ _ ⟨he,hb⟩=>⟨he,h.below hb⟩
theorem with_st (a:ByteArray) (k:Int) (u:ByteArray) (hs:a.size<=281474976710656) (ht:u.size<=281474976710656) (h:St w W1 g n cap t W) :
  Calls prog 122 #[.string a,Iv k,.string u] W fun e w'=>e=.returned (.string (B5.laid a k u))/\St w W1 g n cap t w':=
 (B5.impl_With a k u W hs ht).mono fun _ _ ⟨he,hb⟩=>⟨he,h.below hb⟩
theorem recordText (k o s:Int) (a:Option Addr) (c:Nat) (zs:List Int) (w:World) (hok:I0.ok k o s zs=true) (hR:P0.Row w a zs) :
  Calls prog 190 #[val k o s a zs.length c] w (Rb (.string (R0.putI k o s zs)) w):=by
 obtain ⟨hk,ho,hs,hl,-,hp⟩:=R0.ok_bounds hok;have hP2:=R0.pair_size s (by omega) (by omega);have hbox:=K0.blk_new (vals k o s a zs.length c) w 96;have hl0:=K0.below_new w (.cells (Iq k o s a zs.length c) 96);have hR1:=hR.below hl0;have hbuf0:=F0.buf_two (base:=(w.alloc (.cells (Iq k o s a zs.length c) 96)).heap.size) (w.alloc (.cells (Iq k o s a zs.length c) 96)) k o (by omega) (by omega) (Nat.le_refl _);have hbuf0:=hbuf0.at (g':=w.heap.size+1) (by simp);have hbl0:=K0.below_new (w.alloc (.cells (Iq k o s a zs.length c) 96)) (.cells #[.int .u8 k,.int .u8 o] 5);have hbox0:=hbox.below hbl0
 have HT:Hid (R0.putI k o s zs=B5.laid (B4.zeros 16) 0 (R0.head k o s zs)):=by
  have hz:=R0.head_size k o s zs (by omega) (by omega)
  rw[R0.putI,if_pos hok,B4.zeros,if_pos (by decide),show ((16:Int)).toNat=16 from rfl,E0.laid_front _ 16 (by omega),hz,show 16-(4+zs.length)=12-zs.length by omega]
  rfl
 have hz4:(R0.head k o s zs).size<=281474976710656:=by rw[R0.head_size k o s zs (by omega) (by omega)];omega
 have hz5:(B4.zeros 16).size<=281474976710656:=by decide
 clear hR hok;have hs0:0<=s:=hs.1;have hk0:0<=k:=hk.1;have hk1:k<=2:=hk.2;have ho0:0<=o:=ho.1;have ho1:o<=9:=ho.2;go_enter func190,ntmps190
 go_wp2_with (first
  | (go_at_call 215;refine (B3.impl_Pair _ _).mono ?_;rintro e w2 ⟨rfl,b2⟩;have hbuf2:=hbuf0.below b2;have bel2:=hbl0.trans (b2.mono hbl0.size);have hbox2:=hbox.below bel2;have c3:=hbox2.c3)
  | (at_builtin;refine F0.append_text rfl (.tmp 13) (.tmp 16) rfl hbuf2 (B3.pair s) (by rfl) (by rfl) (by omega) bel2.size ?_;intro g3 cap3 w3 hbuf3 bel3';have bel3:=bel2.trans bel3';have hbox3:=hbox.below bel3;have d3:=hbox3.c3))
 go_loopw [3,21] (fun r i w'=>∃ (j g cap:Nat),j<=zs.length/\i=Iv j/\r=Sv g (4+j) cap/\F0.Buf (w.alloc (.cells (Iq k o s a zs.length c) 96)).heap.size w' g (4+j) cap (upto k o s zs j)/\Bq (w.alloc (.cells (Iq k o s a zs.length c) 96)) w') (fun _ i _=>zs.length-(intOf i).toNat)
 case atStart=>
  rw[hP2] at hbuf3;exact ⟨0,g3,cap3,Nat.zero_le _,rfl,rfl,by rw[upto_zero];exact hbuf3,bel3⟩
 case round=>
  obtain ⟨j,g,cap,hj,rfl,rfl,hbuf,hbel⟩:=hrel;clear hbuf0 hbl0 hbox0 hbuf2 bel2 hbox2 c3 hbuf3 bel3 bel3' hbox3 d3 b2
  by_cases hlt:j<zs.length
  ·obtain ⟨b,off,rfl,hb,hc⟩:=(hR1.below hbel).get hlt
   have x1:=hc j hlt;have hz:=R0.pages_bounds hp hlt;have hu:=upto_succ k o s zs j hlt;obtain ⟨z,ez⟩:∃ z,zs.getD j 0=z:=⟨_,rfl⟩;rw[ez] at x1 hz hu
   have z0:0<=z:=by omega
   have z1:z<=23:=hz.2
   have e1:(0:Int)<=(j:Int):=by omega
   have e2:(j:Int)<(zs.length:Int):=by omega
   have HU:Hid (upto k o s zs j ++ ⟨#[UInt8.ofNat z.toNat]⟩=upto k o s zs (j+1)):=hu;clear hu ez hc hz
   go_wp2_with (at_builtin;refine F0.append_byte rfl (.tmp 25) (.tmp 28) rfl hbuf z (by omega) (by rfl) (by rfl) (by omega) hbel.size ?_;intro g1 cap1 w1 hbuf1 bel1)
   go_roundw
   case rel=>exact ⟨j+1,g1,cap1,by omega,by go_num,rfl,by rw[<- HU.out];exact hbuf1,hbel.trans bel1⟩
   case measure=>simp[intOf];omega
  ·obtain rfl:j=zs.length:=by omega
   rw[upto_all] at hbuf;have st:St w (w.alloc (.cells (Iq k o s a zs.length c) 96)) g (4+zs.length) cap (R0.head k o s zs) wr:=⟨hbuf,hbel⟩
   have hfin:Hid (∀ W,St w (w.alloc (.cells (Iq k o s a zs.length c) 96)) g (4+zs.length) cap (R0.head k o s zs) W->Bq w W):=fun W h=>hl0.trans (h.bel.mono hl0.size)
   clear hR1 hbuf hbel hbox hl0;go_wp2;have st1:=st.drew;have cv0:=st.buf.conv;have cv1:=st1.buf.conv
   go_region_with (first
    | (go_at_call 125;refine (zeros_st _ (by assumption)).mono ?_;rintro e w4 ⟨rfl,h4⟩;have cv4:=h4.buf.conv)
    | (go_at_call 122;refine (with_st _ _ _ hz5 hz4 (by assumption)).mono ?_;rintro e w5 ⟨rfl,h5⟩))
   all_goals
    go_wp2;go_ret;exact ⟨ret_str HT.out.symm,hfin.out _ h5⟩
end R1
end Go.Proofs.YtlejhfnjmkdobaaGreatDoor
