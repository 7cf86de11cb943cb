/- Joined texts. -/
import Derived.Test.YtlejhfnjmkdobaaGreatDoorJtA
set_option linter.unusedVariables false
set_option linter.unusedSimpArgs false
set_option maxRecDepth 10000
set_option maxHeartbeats 16000000
namespace Go.Proofs.YtlejhfnjmkdobaaGreatDoor
open ChangeShapes WideShapes ChangeAt RowKit
open Go.Proofs.Tryz
namespace D1
def sz (a b:ByteArray):Int:=if (a.size:Int)+b.size<=1048576 then 1048576-a.size-b.size else -1
theorem szDev (a b:ByteArray) (w:World) (ha:a.size<=maxLen) (hb:b.size<=maxLen) :
  Calls prog 14 #[.agg #[.string a,.string b],Iv 1048576] w (Rb (Iv (sz a b)) w):=by
 unfold maxLen at ha hb
 by_cases h1:(a.size:Int)<=1048576
 ·by_cases h2:(a.size:Int)+b.size<=1048576
  ·have e:sz a b=1048576-a.size-b.size:=by simp[sz,h2]
   rw[e];go_enter func14,ntmps14;go_wp2;go_ret;exact ⟨rfl,(Below.refl _ _).alloc (Nat.le_refl _) _⟩
  ·have e:sz a b = -1:=by simp[sz,h2]
   rw[e];go_enter func14,ntmps14;go_wp2;go_ret;exact ⟨rfl,(Below.refl _ _).alloc (Nat.le_refl _) _⟩
 ·have e:sz a b = -1:=by
   have:¬ ((a.size:Int)+b.size<=1048576):=by omega
   simp[sz,this]
  rw[e];go_enter func14,ntmps14;go_wp2;go_ret;exact ⟨rfl,(Below.refl _ _).alloc (Nat.le_refl _) _⟩
theorem toDev (a b:ByteArray) (w:World) :
  Calls prog 19 #[.agg #[.string a,.string b]] w (Rb (.agg #[.string a,.string b]) w):=by
 go_enter func19,ntmps19;go_wp2;exact bodyPost_ret (v:=.agg #[.string a,.string b]) (by simp[results,results19,go_sem]) rfl ⟨rfl,(((Below.refl _ _).alloc (Nat.le_refl _) _).alloc (by simp) _).alloc (by simp;omega) _⟩
theorem eqDev (a b:ByteArray) (w:World) :
  Calls prog 24 #[.agg #[.string a,.string b],.agg #[.string a,.string b]] w (Rb (.bool true) w):=by
 go_enter func24,ntmps24;go_wp2;go_ret;exact ⟨rfl,((Below.refl _ _).alloc (Nat.le_refl _) _).alloc (by simp) _⟩
def ok (a b:ByteArray):Bool:=decide (a.size=768) && decide (b.size=768)
theorem ok_true {a b:ByteArray} (h:ok a b=true):a.size=768/\b.size=768:=by simpa [ok] using h
theorem ok_mk {a b:ByteArray} (h1:a.size=768) (h2:b.size=768):ok a b=true:=by simp[ok,h1,h2]
theorem impl_DevOk (a b:ByteArray) (w:World) (ha:a.size<=maxLen) (hb:b.size<=maxLen) :
  Calls prog 99 #[.agg #[.string a,.string b]] w fun e w'=>e=.returned (.bool (ok a b))/\w'=w.alloc (.cells #[.string a,.string b] 28):=by
 unfold maxLen at ha hb
 by_cases h1:(a.size:Int)=768
 ·by_cases h2:(b.size:Int)=768
  ·have e:ok a b=true:=ok_mk (by omega) (by omega)
   rw[e];go_enter func99,ntmps99;go_wp2;go_ret;exact ⟨rfl,rfl⟩
  ·have e:ok a b=false:=by simp[ok];omega
   have h2':((b.size:Int) == 768)=false:=by simpa using h2
   rw[e];go_enter func99,ntmps99;go_wp2;go_ret;exact ⟨rfl,rfl⟩
 ·have e:ok a b=false:=by simp[ok];omega
  have h1':((a.size:Int) == 768)=false:=by simpa using h1
  rw[e];go_enter func99,ntmps99;go_wp2;go_ret;exact ⟨rfl,rfl⟩
theorem spec_DevOk (a b:ByteArray) (w:World) (ha:a.size<=maxLen) (hb:b.size<=maxLen) :
  Calls prog 31 #[.agg #[.string a,.string b]] w fun e w'=>e=.returned (.bool (ok a b))/\w'=w.alloc (.cells #[.string a,.string b] 28):=by
 unfold maxLen at ha hb
 by_cases h1:(a.size:Int)=768
 ·by_cases h2:(b.size:Int)=768
  ·have e:ok a b=true:=ok_mk (by omega) (by omega)
   rw[e];go_enter func31,ntmps31;go_wp2;go_ret;exact ⟨rfl,rfl⟩
  ·have e:ok a b=false:=by simp[ok];omega
   have h2':((b.size:Int) == 768)=false:=by simpa using h2
   rw[e];go_enter func31,ntmps31;go_wp2;go_ret;exact ⟨rfl,rfl⟩
 ·have e:ok a b=false:=by simp[ok];omega
  have h1':((a.size:Int) == 768)=false:=by simpa using h1
  rw[e];go_enter func31,ntmps31;go_wp2;go_ret;exact ⟨rfl,rfl⟩
end D1
namespace D2
structure Fr (B:Nat) (w:World) (a b:ByteArray) (W:World):Prop where
 c0:W.cell? ⟨B,0,none⟩=some (.string a)
 c1:W.cell? ⟨B,1,none⟩=some (.string b)
 r0:W.cell? ⟨B+1,0,none⟩=some (.string ⟨#[]⟩)
 r1:W.cell? ⟨B+1,1,none⟩=some (.string ⟨#[]⟩)
 f0:W.frozen? ⟨B+1,0,none⟩=false
 f1:W.frozen? ⟨B+1,1,none⟩=false
 g0:W.frozen? ⟨B,0,none⟩=false
 g1:W.frozen? ⟨B,1,none⟩=false
 lt:B+1<W.heap.size
 bel:Below B w W
theorem Fr.below {B:Nat} {w W W':World} {a b:ByteArray} (h:Fr B w a b W) (hb:Bq W W'):Fr B w a b W':=
  ⟨(hb.cell (p:=⟨B,0,none⟩) (by have:=h.lt;show B<_;omega)).trans h.c0,(hb.cell (p:=⟨B,1,none⟩) (by have:=h.lt;show B<_;omega)).trans h.c1,
   (hb.cell (p:=⟨B+1,0,none⟩) h.lt).trans h.r0,(hb.cell (p:=⟨B+1,1,none⟩) h.lt).trans h.r1,
   (hb.frozen (p:=⟨B+1,0,none⟩) h.lt).trans h.f0,(hb.frozen (p:=⟨B+1,1,none⟩) h.lt).trans h.f1,
   (hb.frozen (p:=⟨B,0,none⟩) (by have:=h.lt;show B<_;omega)).trans h.g0,(hb.frozen (p:=⟨B,1,none⟩) (by have:=h.lt;show B<_;omega)).trans h.g1,
   Nat.lt_of_lt_of_le h.lt hb.size,h.bel.trans (hb.mono (by have:=h.lt;omega))⟩
theorem Fr.drew {B:Nat} {w W:World} {a b:ByteArray} (h:Fr B w a b W):Fr B w a b W.drew:=⟨h.c0,h.c1,h.r0,h.r1,h.f0,h.f1,h.g0,h.g1,h.lt,h.bel.drew⟩
theorem fr_new (a b:ByteArray) (w:World):Fr w.heap.size w a b ((w.alloc (.cells #[.string a,.string b] 28)).alloc (.cells #[.string ⟨#[]⟩,.string ⟨#[]⟩] 28)):=by
 refine ⟨?_,?_,?_,?_,?_,?_,?_,?_,?_,?_⟩
 all_goals first | exact ((Below.refl _ _).alloc (Nat.le_refl _) _).alloc (by simp) _ | (simp[go_sem];done) | (simp;done) | (simp[go_sem];omega)
theorem ret2 {W:World} {B:Nat} {a b:ByteArray} {c d:Value} (h0:Ce W B 0 c) (h1:Ce W B 1 d) :
  ((W.setCell ⟨B,0,none⟩ (.string a)).setCell ⟨B,1,none⟩ (.string b)).cell? ⟨B,0,none⟩=some (.string a)/\((W.setCell ⟨B,0,none⟩ (.string a)).setCell ⟨B,1,none⟩ (.string b)).cell? ⟨B,1,none⟩=some (.string b):=by
 have e:(⟨B,1,none⟩:Addr) ≠ ⟨B,0,none⟩:=by simp
 refine ⟨?_,?_⟩
 ·rw[World.cell?_setCell_other _ _ _ _ e,World.cell?_setCell_same _ _ _ h0]
 ·rw[World.cell?_setCell_same _ _ _ ((World.cell?_setCell_other _ _ _ _ e.symm).trans h1)]
theorem clone_fr {B:Nat} {w W:World} {a b:ByteArray} (s:ByteArray) (hs:s.size<=281474976710656) (h:Fr B w a b W) :
  Calls prog 110 #[.string s] W fun e w'=>e=.returned (.string s)/\Fr B w a b w':=
 (B2.clone_any s W hs).mono fun _ _ ⟨he,hb⟩=>⟨he,h.below hb⟩
theorem devCopy (a b:ByteArray) (w:World) (ha:a.size<=281474976710656) (hb:b.size<=281474976710656) :
  Calls prog 83 #[.agg #[.string a,.string b]] w (Rb (.agg #[.string a,.string b]) w):=by
 have hF:=fr_new a b w;go_enter func83,ntmps83;go_wp2;obtain ⟨W,hW⟩:∃ W,(w.alloc (.cells #[.string a,.string b] 28)).alloc (.cells #[.string ⟨#[]⟩,.string ⟨#[]⟩] 28)=W:=⟨_,rfl⟩;rw[hW] at hF ⊢;have c0:=hF.c0;have c1:=hF.c1;have hFd:=hF.drew
 go_region_with (go_at_call 110;refine (clone_fr (B:=w.heap.size) (w:=w) (a:=a) (b:=b) _ (by omega) (by assumption)).mono ?_;rintro e w4 ⟨rfl,h4⟩;have d0:=h4.c0;have d1:=h4.c1;have d2:=h4.r0;have d3:=h4.r1;have d4:=h4.f0;have d5:=h4.f1)
 all_goals
  go_wp2;have q:=ret2 (a:=a) (b:=b) d2 d3
  exact bodyPost_ret (v:=.agg #[.string a,.string b]) (by simp[results,results83,go_sem,q.1,q.2]) rfl
   ⟨rfl,(h4.bel.setCell (p:=⟨w.heap.size+1,0,none⟩) (Nat.le_succ _) _).setCell (p:=⟨w.heap.size+1,1,none⟩) (Nat.le_succ _) _⟩
theorem impl_DevOk_fr {B:Nat} {w W:World} {a b:ByteArray} (s t:ByteArray) (hs:s.size<=281474976710656) (ht:t.size<=281474976710656) (h:Fr B w a b W) :
  Calls prog 99 #[.agg #[.string s,.string t]] W fun e w'=>e=.returned (.bool (D1.ok s t))/\Fr B w a b w':=
 (D1.impl_DevOk s t W (by unfold maxLen;omega) (by unfold maxLen;omega)).mono fun _ _ ⟨he,hb⟩=>⟨he,hb ▸ h.below ((Below.refl _ _).alloc (Nat.le_refl _) _)⟩
theorem spec_DevOk_fr {B:Nat} {w W:World} {a b:ByteArray} (s t:ByteArray) (hs:s.size<=281474976710656) (ht:t.size<=281474976710656) (h:Fr B w a b W) :
  Calls prog 31 #[.agg #[.string s,.string t]] W fun e w'=>e=.returned (.bool (D1.ok s t))/\Fr B w a b w':=
 (D1.spec_DevOk s t W (by unfold maxLen;omega) (by unfold maxLen;omega)).mono fun _ _ ⟨he,hb⟩=>⟨he,hb ▸ h.below ((Below.refl _ _).alloc (Nat.le_refl _) _)⟩
theorem devCopy_fr {B:Nat} {w W:World} {a b:ByteArray} (s t:ByteArray) (hs:s.size<=281474976710656) (ht:t.size<=281474976710656) (h:Fr B w a b W) :
  Calls prog 83 #[.agg #[.string s,.string t]] W fun e w'=>e=.returned (.agg #[.string s,.string t])/\Fr B w a b w':=
 (devCopy s t W hs ht).mono fun _ _ ⟨he,hb⟩=>⟨he,h.below hb⟩
theorem with_fr {B:Nat} {w W:World} {a b:ByteArray} (s:ByteArray) (i:Int) (t:ByteArray) (hs:s.size<=281474976710656) (ht:t.size<=281474976710656) (h:Fr B w a b W) :
  Calls prog 122 #[.string s,Iv i,.string t] W fun e w'=>e=.returned (.string (B5.laid s i t))/\Fr B w a b w':=
 (B5.impl_With s i t W hs ht).mono fun _ _ ⟨he,hb⟩=>⟨he,h.below hb⟩
theorem below_drewN {B:Nat} {a w:World} (h:Below B a w) (n:Nat):Below B a (w.drewN n):=⟨h.os,h.tape,h.output,h.size,h.block⟩
theorem spec_with_fr {B:Nat} {w W:World} {a b:ByteArray} (s:ByteArray) (i:Int) (t:ByteArray) (hs:s.size<=281474976710656) (ht:t.size<=281474976710656) (h:Fr B w a b W) :
  Calls prog 66 #[.string s,Iv i,.string t] W fun e w'=>e=.returned (.string (B5.laid s i t))/\Fr B w a b w':=
 (B5.spec_With s i t W hs ht).mono fun _ _ ⟨he,n,hb⟩=>⟨he,hb ▸ h.below (below_drewN (Below.refl _ _) n)⟩
theorem Fr.set0 {B:Nat} {w W:World} {a b:ByteArray} (h:Fr B w a b W) (x:ByteArray):Fr B w x b (W.setCell ⟨B,0,none⟩ (.string x)):=
  ⟨World.cell?_setCell_same _ _ _ h.c0,(World.cell?_setCell_other _ _ _ _ (by simp)).trans h.c1,(World.cell?_setCell_other _ _ _ _ (by simp)).trans h.r0,(World.cell?_setCell_other _ _ _ _ (by simp)).trans h.r1,
   by rw[World.frozen?_setCell];exact h.f0,by rw[World.frozen?_setCell];exact h.f1,by rw[World.frozen?_setCell];exact h.g0,by rw[World.frozen?_setCell];exact h.g1,
   by have:=h.lt;simpa [World.setCell] using this,h.bel.setCell (p:=⟨B,0,none⟩) (Nat.le_refl _) _⟩
theorem Fr.done {B:Nat} {w W:World} {a b:ByteArray} (h:Fr B w a b W) (x y:Value):Below B w ((W.setCell ⟨B+1,0,none⟩ x).setCell ⟨B+1,1,none⟩ y):=
 (h.bel.setCell (p:=⟨B+1,0,none⟩) (Nat.le_succ _) _).setCell (p:=⟨B+1,1,none⟩) (Nat.le_succ _) _
def stored (a b:ByteArray) (i:Int) (t:ByteArray):ByteArray:=if D1.ok a b then B5.laid a i t else a
theorem spec_Store (a b:ByteArray) (i:Int) (t:ByteArray) (w:World) (ha:a.size<=281474976710656) (hb:b.size<=281474976710656) (ht:t.size<=281474976710656) :
  Calls prog 76 #[.agg #[.string a,.string b],Iv i,.string t] w (Rb (.agg #[.string (stored a b i t),.string b]) w):=by
 have hF:=fr_new a b w
 by_cases h:D1.ok a b=true
 ·have e:stored a b i t=B5.laid a i t:=if_pos h
  rw[e];go_enter func76,ntmps76
  go_wp2_with (first
   | (go_at_call 31;refine (spec_DevOk_fr _ _ ha hb hF).mono ?_;rintro e w1 ⟨rfl,h1⟩;have c0:=h1.c0)
   | (go_at_call 66;refine (spec_with_fr _ _ _ ha ht h1).mono ?_;rintro e w2 ⟨rfl,h2⟩;have h3:=h2.set0 (B5.laid a i t);have z0:=h2.c0;have z1:=h2.g0;obtain ⟨d0,d1,d2,d3,d4,d5,d6,d7,d8,d9⟩:=id h3))
  have q:=ret2 (a:=B5.laid a i t) (b:=b) d2 d3;exact bodyPost_ret (v:=.agg #[.string (B5.laid a i t),.string b]) (by simp[results,results76,go_sem,q.1,q.2]) rfl ⟨rfl,h3.done _ _⟩
 ·have h':D1.ok a b=false:=by simpa using h
  have e:stored a b i t=a:=if_neg h;rw[e];go_enter func76,ntmps76
  go_wp2_with (go_at_call 31;refine (spec_DevOk_fr _ _ ha hb hF).mono ?_;rintro e w1 ⟨rfl,h1⟩;obtain ⟨d0,d1,d2,d3,d4,d5,d6,d7,d8,d9⟩:=id h1)
  have q:=ret2 (a:=a) (b:=b) d2 d3;exact bodyPost_ret (v:=.agg #[.string a,.string b]) (by simp[results,results76,go_sem,q.1,q.2]) rfl ⟨rfl,h1.done _ _⟩
theorem impl_Store (a b:ByteArray) (i:Int) (t:ByteArray) (w:World) (ha:a.size<=281474976710656) (hb:b.size<=281474976710656) (ht:t.size<=281474976710656) :
  Calls prog 164 #[.agg #[.string a,.string b],Iv i,.string t] w (Rb (.agg #[.string (stored a b i t),.string b]) w):=by
 have hF:=fr_new a b w
 by_cases h:D1.ok a b=true
 ·have e:stored a b i t=B5.laid a i t:=if_pos h
  rw[e];go_enter func164,ntmps164
  go_wp2_with (go_at_call 99;refine (impl_DevOk_fr _ _ ha hb hF).mono ?_;rintro e w1 ⟨rfl,h1⟩;have c0:=h1.c0;have c1:=h1.c1)
  have h1d:=h1.drew
  go_region_with (first
   | (go_at_call 110;refine (clone_fr (B:=w.heap.size) (w:=w) (a:=a) (b:=b) _ hb (by assumption)).mono ?_;rintro e w4 ⟨rfl,h4⟩;have d0:=h4.c0;have d1:=h4.c1;have d2:=h4.r0;have d3:=h4.r1;have d4:=h4.f0;have d5:=h4.f1)
   | (go_at_call 122;refine (with_fr (B:=w.heap.size) (w:=w) (a:=a) (b:=b) _ _ _ ha ht (by assumption)).mono ?_;rintro e w4 ⟨rfl,h4⟩;have d0:=h4.c0;have d1:=h4.c1;have d2:=h4.r0;have d3:=h4.r1;have d4:=h4.f0;have d5:=h4.f1))
  all_goals
   go_wp2;have q:=ret2 (a:=B5.laid a i t) (b:=b) d2 d3;exact bodyPost_ret (v:=.agg #[.string (B5.laid a i t),.string b]) (by simp[results,results164,go_sem,q.1,q.2]) rfl ⟨rfl,h4.done _ _⟩
 ·have h':D1.ok a b=false:=by simpa using h
  have e:stored a b i t=a:=if_neg h;rw[e];go_enter func164,ntmps164
  go_wp2_with (first
   | (go_at_call 99;refine (impl_DevOk_fr _ _ ha hb hF).mono ?_;rintro e w1 ⟨rfl,h1⟩;have c0:=h1.c0;have c1:=h1.c1)
   | (go_at_call 83;refine (devCopy_fr _ _ ha hb h1).mono ?_;rintro e w2 ⟨rfl,h2⟩;obtain ⟨d0,d1,d2,d3,d4,d5,d6,d7,d8,d9⟩:=id h2))
  have q:=ret2 (a:=a) (b:=b) d2 d3;exact bodyPost_ret (v:=.agg #[.string a,.string b]) (by simp[results,results164,go_sem,q.1,q.2]) rfl ⟨rfl,h2.done _ _⟩
end D2
end Go.Proofs.YtlejhfnjmkdobaaGreatDoor
