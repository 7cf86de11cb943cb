/- Joined texts. -/
import Derived.Test.YtgpfmgaidbjcpaaGreatDoorJhB
set_option linter.unusedVariables false
set_option linter.unusedSimpArgs false
set_option maxRecDepth 10000
set_option maxHeartbeats 16000000
namespace Go.Proofs.YtgpfmgaidbjcpaaGreatDoor
open ChangeShapes WideShapes ChangeAt RowKit
open Go.Proofs.Tryz
def dY (a b:ByteArray):Bool:=decide (a.size=768) && decide (b.size=768)
theorem BP {a b:ByteArray} (h:dY a b=true):a.size=768/\b.size=768:=by simpa [dY] using h
theorem Ju {a b:ByteArray} (h1:a.size=768) (h2:b.size=768):dY a b=true:=by simp[dY,h1,h2]
theorem P9 (a b:ByteArray) (w:World) (ha:a.size<=maxLen) (hb:b.size<=maxLen):Calls prog 47 #[.agg #[.string a,.string b]] w fun e w'=>e=.returned (.bool (dY a b))/\w'=w.alloc (.cells #[.string a,.string b] 25):=by
 unfold maxLen at ha hb;by_cases h1:(a.size:Int)=768
 ·by_cases h2:(b.size:Int)=768
  ·have e:dY a b=true:=Ju (by omega) (by omega);rw[e];go_enter func47,ntmps47;go_wp2;go_ret;exact ⟨rfl,rfl⟩
  have e:dY a b=false:=by simp[dY];omega
  have h2':((b.size:Int) == 768)=false:=by simpa using h2
  rw[e];go_enter func47,ntmps47;go_wp2;go_ret;exact ⟨rfl,rfl⟩
 have e:dY a b=false:=by simp[dY];omega
 have h1':((a.size:Int) == 768)=false:=by simpa using h1
 rw[e];go_enter func47,ntmps47;go_wp2;go_ret;exact ⟨rfl,rfl⟩
theorem Qa (a b:ByteArray) (w:World) (ha:a.size<=maxLen) (hb:b.size<=maxLen):Calls prog 122 #[.agg #[.string a,.string b]] w fun e w'=>e=.returned (.bool (dY a b))/\w'=w.alloc (.cells #[.string a,.string b] 25):=by
 unfold maxLen at ha hb;by_cases h1:(a.size:Int)=768
 ·by_cases h2:(b.size:Int)=768
  ·have e:dY a b=true:=Ju (by omega) (by omega);rw[e];go_enter func122,ntmps122;go_wp2;go_ret;exact ⟨rfl,rfl⟩
  have e:dY a b=false:=by simp[dY];omega
  have h2':((b.size:Int) == 768)=false:=by simpa using h2
  rw[e];go_enter func122,ntmps122;go_wp2;go_ret;exact ⟨rfl,rfl⟩
 have e:dY a b=false:=by simp[dY];omega
 have h1':((a.size:Int) == 768)=false:=by simpa using h1
 rw[e];go_enter func122,ntmps122;go_wp2;go_ret;exact ⟨rfl,rfl⟩
structure fR (B:Nat) (w:World) (a b:ByteArray) (W:World):Prop where
 c0:W.cell? ⟨B,0,none⟩=some (.string a)
 c1:W.cell? ⟨B,1,none⟩=some (.string b)
 r0:W.cell? ⟨B+1,0,none⟩=some (.string ⟨#[]⟩)
 r1:W.cell? ⟨B+1,1,none⟩=some (.string ⟨#[]⟩)
 f0:W.frozen? ⟨B+1,0,none⟩=false
 f1:W.frozen? ⟨B+1,1,none⟩=false
 g0:W.frozen? ⟨B,0,none⟩=false
 g1:W.frozen? ⟨B,1,none⟩=false
 lt:B+1<W.heap.size
 au:Below B w W
theorem fR.below {B:Nat} {w W W':World} {a b:ByteArray} (h:fR B w a b W) (hb:ah W W'):fR B w a b W':=
  ⟨(hb.cell (p:=⟨B,0,none⟩) (by have:=h.lt;show B<_;omega)).trans h.c0,(hb.cell (p:=⟨B,1,none⟩) (by have:=h.lt;show B<_;omega)).trans h.c1,
   (hb.cell (p:=⟨B+1,0,none⟩) h.lt).trans h.r0,(hb.cell (p:=⟨B+1,1,none⟩) h.lt).trans h.r1,
   (hb.frozen (p:=⟨B+1,0,none⟩) h.lt).trans h.f0,(hb.frozen (p:=⟨B+1,1,none⟩) h.lt).trans h.f1,
   (hb.frozen (p:=⟨B,0,none⟩) (by have:=h.lt;show B<_;omega)).trans h.g0,(hb.frozen (p:=⟨B,1,none⟩) (by have:=h.lt;show B<_;omega)).trans h.g1,
   cv h.lt hb.size,h.au.trans (hb.mono (by have:=h.lt;omega))⟩
theorem fR.drew {B:Nat} {w W:World} {a b:ByteArray} (h:fR B w a b W):fR B w a b W.drew:=⟨h.c0,h.c1,h.r0,h.r1,h.f0,h.f1,h.g0,h.g1,h.lt,h.au.drew⟩
theorem xi (a b:ByteArray) (w:World):fR w.heap.size w a b ((w.alloc (.cells #[.string a,.string b] 25)).alloc (.cells #[.string ⟨#[]⟩,.string ⟨#[]⟩] 25)):=by refine ⟨?_,?_,?_,?_,?_,?_,?_,?_,?_,?_⟩;all_goals first | exact ((aQ _ _).alloc (av _) _).alloc (by simp) _ | (simp[go_sem];done) | (simp;done) | (simp[go_sem];omega)
theorem oJ {W:World} {B:Nat} {a b:ByteArray} {c d:Value} (h0:ad W B 0 c) (h1:ad W B 1 d):((W.setCell ⟨B,0,none⟩ (.string a)).setCell ⟨B,1,none⟩ (.string b)).cell? ⟨B,0,none⟩=some (.string a)/\((W.setCell ⟨B,0,none⟩ (.string a)).setCell ⟨B,1,none⟩ (.string b)).cell? ⟨B,1,none⟩=some (.string b):=by
 have e:(⟨B,1,none⟩:Addr) ≠ ⟨B,0,none⟩:=by simp
 refine ⟨?_,?_⟩;·rw[gH _ _ _ _ e,ov _ _ _ h0]
 rw[ov _ _ _ ((gH _ _ _ _ e.symm).trans h1)]
theorem Qb {B:Nat} {w W:World} {a b:ByteArray} (s:ByteArray) (hs:s.size<=281474976710656) (h:fR B w a b W):Calls prog 21 #[.string s] W fun e w'=>e=.returned (.string s)/\fR B w a b w':=(ze s W hs).mono fun _ _ ⟨he,hb⟩=>⟨he,h.below hb⟩
theorem Qc (a b:ByteArray) (w:World) (ha:a.size<=281474976710656) (hb:b.size<=281474976710656):Calls prog 45 #[.agg #[.string a,.string b]] w (aV (.agg #[.string a,.string b]) w):=by
 have hF:=xi a b w;go_enter func45,ntmps45;go_wp2;obtain ⟨W,hW⟩:∃ W,(w.alloc (.cells #[.string a,.string b] 25)).alloc (.cells #[.string ⟨#[]⟩,.string ⟨#[]⟩] 25)=W:=⟨_,rfl⟩;rw[hW] at hF ⊢;have c0:=hF.c0;have c1:=hF.c1;have jA:=hF.drew;go_region_with (go_at_call 21;refine (Qb (B:=w.heap.size) (w:=w) (a:=a) (b:=b) _ (by omega) (by assumption)).mono ?_;rintro e w4 ⟨rfl,h4⟩;have d0:=h4.c0;have d1:=h4.c1;have d2:=h4.r0;have d3:=h4.r1;have d4:=h4.f0;have d5:=h4.f1)
 all_goals
  go_wp2;have q:=oJ (a:=a) (b:=b) d2 d3;exact bF (v:=.agg #[.string a,.string b]) (by simp[results,results45,go_sem,q.1,q.2]) rfl
   ⟨rfl,(h4.au.setCell (p:=⟨w.heap.size+1,0,none⟩) (bS _) _).setCell (p:=⟨w.heap.size+1,1,none⟩) (bS _) _⟩
def BQ (s:ByteArray):Value:=if s.size=768 then .tuple #[.agg #[.string s,.string s],.bool true] else .tuple #[.agg #[.string ⟨#[]⟩,.string ⟨#[]⟩],.bool false]
theorem abr (s:ByteArray) (w:World) (hs:s.size<=281474976710656):Calls prog 74 #[.string s] w (aV (BQ s) w):=by
 by_cases h:s.size=768
 ·have e:BQ s=.tuple #[.agg #[.string s,.string s],.bool true]:=aN h;have h':(s.size:Int)=768:=by omega
  rw[e];go_enter func74,ntmps74;go_wp2;exact bF (v:=.tuple #[.agg #[.string s,.string s],.bool true]) (by simp[results,results74,go_sem]) rfl ⟨rfl,(aQ _ _).alloc (av _) _⟩
 have e:BQ s=.tuple #[.agg #[.string ⟨#[]⟩,.string ⟨#[]⟩],.bool false]:=aM h;have h':((s.size:Int) != 768)=true:=by simp;omega
 rw[e];go_enter func74,ntmps74;go_wp2;exact bF (v:=.tuple #[.agg #[.string ⟨#[]⟩,.string ⟨#[]⟩],.bool false]) (by simp[results,results74,go_sem]) rfl ⟨rfl,(aQ _ _).alloc (av _) _⟩
theorem zI {B:Nat} {w W:World} {a b:ByteArray} (s t:ByteArray) (hs:s.size<=281474976710656) (ht:t.size<=281474976710656) (h:fR B w a b W):Calls prog 47 #[.agg #[.string s,.string t]] W fun e w'=>e=.returned (.bool (dY s t))/\fR B w a b w':=(P9 s t W (by unfold maxLen;omega) (by unfold maxLen;omega)).mono fun _ _ ⟨he,hb⟩=>⟨he,hb ▸ h.below ((aQ _ _).alloc (av _) _)⟩
theorem zJ {B:Nat} {w W:World} {a b:ByteArray} (s t:ByteArray) (hs:s.size<=281474976710656) (ht:t.size<=281474976710656) (h:fR B w a b W):Calls prog 122 #[.agg #[.string s,.string t]] W fun e w'=>e=.returned (.bool (dY s t))/\fR B w a b w':=(Qa s t W (by unfold maxLen;omega) (by unfold maxLen;omega)).mono fun _ _ ⟨he,hb⟩=>⟨he,hb ▸ h.below ((aQ _ _).alloc (av _) _)⟩
theorem E9 {B:Nat} {w W:World} {a b:ByteArray} (s t:ByteArray) (hs:s.size<=281474976710656) (ht:t.size<=281474976710656) (h:fR B w a b W):Calls prog 45 #[.agg #[.string s,.string t]] W fun e w'=>e=.returned (.agg #[.string s,.string t])/\fR B w a b w':=(Qc s t W hs ht).mono fun _ _ ⟨he,hb⟩=>⟨he,h.below hb⟩
theorem abt {B:Nat} {w W:World} {a b:ByteArray} (s:ByteArray) (i:Int) (t:ByteArray) (hs:s.size<=281474976710656) (ht:t.size<=281474976710656) (h:fR B w a b W):Calls prog 41 #[.string s,aa i,.string t] W fun e w'=>e=.returned (.string (bs s i t))/\fR B w a b w':=(uY s i t W hs ht).mono fun _ _ ⟨he,hb⟩=>⟨he,h.below hb⟩
theorem abu {B:Nat} {a w:World} (h:Below B a w) (n:Nat):Below B a (w.drewN n):=⟨h.os,h.tape,h.output,h.size,h.block⟩
theorem Qd {B:Nat} {w W:World} {a b:ByteArray} (s:ByteArray) (i:Int) (t:ByteArray) (hs:s.size<=281474976710656) (ht:t.size<=281474976710656) (h:fR B w a b W):Calls prog 70 #[.string s,aa i,.string t] W fun e w'=>e=.returned (.string (bs s i t))/\fR B w a b w':=(Ea s i t W hs ht).mono fun _ _ ⟨he,n,hb⟩=>⟨he,hb ▸ h.below (abu (aQ _ _) n)⟩
theorem fR.Yy {B:Nat} {w W:World} {a b:ByteArray} (h:fR B w a b W) (x:ByteArray):fR B w x b (W.setCell ⟨B,0,none⟩ (.string x)):=
  ⟨ov _ _ _ h.c0,(gH _ _ _ _ (by simp)).trans h.c1,(gH _ _ _ _ (by simp)).trans h.r0,(gH _ _ _ _ (by simp)).trans h.r1,
   by rw[iu];exact h.f0,by rw[iu];exact h.f1,by rw[iu];exact h.g0,by rw[iu];exact h.g1,
   by have:=h.lt;simpa [World.setCell] using this,h.au.setCell (p:=⟨B,0,none⟩) (av _) _⟩
theorem fR.done {B:Nat} {w W:World} {a b:ByteArray} (h:fR B w a b W) (x y:Value):Below B w ((W.setCell ⟨B+1,0,none⟩ x).setCell ⟨B+1,1,none⟩ y):=(h.au.setCell (p:=⟨B+1,0,none⟩) (bS _) _).setCell (p:=⟨B+1,1,none⟩) (bS _) _
def dV (a b:ByteArray) (i:Int) (t:ByteArray):ByteArray:=if dY a b then bs a i t else a
theorem abv (a b:ByteArray) (i:Int) (t:ByteArray) (w:World) (ha:a.size<=281474976710656) (hb:b.size<=281474976710656) (ht:t.size<=281474976710656):Calls prog 132 #[.agg #[.string a,.string b],aa i,.string t] w (aV (.agg #[.string (dV a b i t),.string b]) w):=by
 have hF:=xi a b w;by_cases h:dY a b=true
 ·have e:dV a b i t=bs a i t:=aN h;rw[e];go_enter func132,ntmps132;go_wp2_with (first
   | (go_at_call 122;refine (zJ _ _ ha hb hF).mono ?_;rintro e w1 ⟨rfl,h1⟩;have c0:=h1.c0)
   | (go_at_call 70;refine (Qd _ _ _ ha ht h1).mono ?_;rintro e w2 ⟨rfl,h2⟩;have h3:=h2.Yy (bs a i t);have z0:=h2.c0;have z1:=h2.g0;obtain ⟨d0,d1,d2,d3,d4,d5,d6,d7,d8,d9⟩:=id h3))
  have q:=oJ (a:=bs a i t) (b:=b) d2 d3;exact bF (v:=.agg #[.string (bs a i t),.string b]) (by simp[results,results132,go_sem,q.1,q.2]) rfl ⟨rfl,h3.done _ _⟩
 have h':dY a b=false:=by simpa using h
 have e:dV a b i t=a:=aM h;rw[e];go_enter func132,ntmps132;go_wp2_with (go_at_call 122;refine (zJ _ _ ha hb hF).mono ?_;rintro e w1 ⟨rfl,h1⟩;obtain ⟨d0,d1,d2,d3,d4,d5,d6,d7,d8,d9⟩:=id h1);have q:=oJ (a:=a) (b:=b) d2 d3;exact bF (v:=.agg #[.string a,.string b]) (by simp[results,results132,go_sem,q.1,q.2]) rfl ⟨rfl,h1.done _ _⟩
theorem Qe (a b:ByteArray) (i:Int) (t:ByteArray) (w:World) (ha:a.size<=281474976710656) (hb:b.size<=281474976710656) (ht:t.size<=281474976710656):Calls prog 153 #[.agg #[.string a,.string b],aa i,.string t] w (aV (.agg #[.string (dV a b i t),.string b]) w):=by
 have hF:=xi a b w;by_cases h:dY a b=true
 ·have e:dV a b i t=bs a i t:=aN h;rw[e];go_enter func153,ntmps153;go_wp2_with (go_at_call 47;refine (zI _ _ ha hb hF).mono ?_;rintro e w1 ⟨rfl,h1⟩;have c0:=h1.c0;have c1:=h1.c1);have h1d:=h1.drew;go_region_with (first
   | (go_at_call 21;refine (Qb (B:=w.heap.size) (w:=w) (a:=a) (b:=b) _ hb (by assumption)).mono ?_;rintro e w4 ⟨rfl,h4⟩;have d0:=h4.c0;have d1:=h4.c1;have d2:=h4.r0;have d3:=h4.r1;have d4:=h4.f0;have d5:=h4.f1)
   | (go_at_call 41;refine (abt (B:=w.heap.size) (w:=w) (a:=a) (b:=b) _ _ _ ha ht (by assumption)).mono ?_;rintro e w4 ⟨rfl,h4⟩;have d0:=h4.c0;have d1:=h4.c1;have d2:=h4.r0;have d3:=h4.r1;have d4:=h4.f0;have d5:=h4.f1))
  all_goals
   go_wp2;have q:=oJ (a:=bs a i t) (b:=b) d2 d3;exact bF (v:=.agg #[.string (bs a i t),.string b]) (by simp[results,results153,go_sem,q.1,q.2]) rfl ⟨rfl,h4.done _ _⟩
 have h':dY a b=false:=by simpa using h
 have e:dV a b i t=a:=aM h;rw[e];go_enter func153,ntmps153;go_wp2_with (first
  | (go_at_call 47;refine (zI _ _ ha hb hF).mono ?_;rintro e w1 ⟨rfl,h1⟩;have c0:=h1.c0;have c1:=h1.c1)
  | (go_at_call 45;refine (E9 _ _ ha hb h1).mono ?_;rintro e w2 ⟨rfl,h2⟩;obtain ⟨d0,d1,d2,d3,d4,d5,d6,d7,d8,d9⟩:=id h2))
 have q:=oJ (a:=a) (b:=b) d2 d3;exact bF (v:=.agg #[.string a,.string b]) (by simp[results,results153,go_sem,q.1,q.2]) rfl ⟨rfl,h2.done _ _⟩
end Go.Proofs.YtgpfmgaidbjcpaaGreatDoor
