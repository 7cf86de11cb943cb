/- Joined texts. -/
import Derived.Test.YtidmmopnkjbjoaaGreatDoorJpB
set_option linter.unusedVariables false
set_option linter.unusedSimpArgs false
set_option maxRecDepth 10000
set_option maxHeartbeats 16000000
namespace Go.Proofs.YtidmmopnkjbjoaaGreatDoor
open ChangeShapes WideShapes ChangeAt RowKit
open Go.Proofs.Tryz
def cT (a b:ByteArray):Bool:=decide (a.size=768) && decide (b.size=768)
theorem nW {a b:ByteArray} (h:cT a b=true):a.size=768/\b.size=768:=by simpa [cT] using h
theorem za {a b:ByteArray} (h1:a.size=768) (h2:b.size=768):cT a b=true:=by simp[cT,h1,h2]
theorem Ez (a b:ByteArray) (w:World) (ha:a.size<=maxLen) (hb:b.size<=maxLen):Calls prog 35 #[.agg #[.string a,.string b]] w fun e w'=>e=.returned (.bool (cT a b))/\w'=w.alloc (.cells #[.string a,.string b] 25):=by
 unfold maxLen at ha hb;by_cases h1:(a.size:Int)=768
 ·by_cases h2:(b.size:Int)=768
  ·have e:cT a b=true:=za (by omega) (by omega);rw[e];go_enter func35,ntmps35;go_wp2;go_ret;exact ⟨rfl,rfl⟩
  have e:cT a b=false:=by simp[cT];omega
  have h2':((b.size:Int) == 768)=false:=by simpa using h2
  rw[e];go_enter func35,ntmps35;go_wp2;go_ret;exact ⟨rfl,rfl⟩
 have e:cT a b=false:=by simp[cT];omega
 have h1':((a.size:Int) == 768)=false:=by simpa using h1
 rw[e];go_enter func35,ntmps35;go_wp2;go_ret;exact ⟨rfl,rfl⟩
theorem IF (a b:ByteArray) (w:World) (ha:a.size<=maxLen) (hb:b.size<=maxLen):Calls prog 25 #[.agg #[.string a,.string b]] w fun e w'=>e=.returned (.bool (cT a b))/\w'=w.alloc (.cells #[.string a,.string b] 25):=by
 unfold maxLen at ha hb;by_cases h1:(a.size:Int)=768
 ·by_cases h2:(b.size:Int)=768
  ·have e:cT a b=true:=za (by omega) (by omega);rw[e];go_enter func25,ntmps25;go_wp2;go_ret;exact ⟨rfl,rfl⟩
  have e:cT a b=false:=by simp[cT];omega
  have h2':((b.size:Int) == 768)=false:=by simpa using h2
  rw[e];go_enter func25,ntmps25;go_wp2;go_ret;exact ⟨rfl,rfl⟩
 have e:cT a b=false:=by simp[cT];omega
 have h1':((a.size:Int) == 768)=false:=by simpa using h1
 rw[e];go_enter func25,ntmps25;go_wp2;go_ret;exact ⟨rfl,rfl⟩
structure gv (B:Nat) (w:World) (a b:ByteArray) (W:World):Prop where
 c0:W.cell? ⟨B,0,none⟩=some (.string a)
 c1:W.cell? ⟨B,1,none⟩=some (.string b)
 r0:W.cell? ⟨B+1,0,none⟩=some (.string ⟨#[]⟩)
 r1:W.cell? ⟨B+1,1,none⟩=some (.string ⟨#[]⟩)
 f0:W.frozen? ⟨B+1,0,none⟩=false
 f1:W.frozen? ⟨B+1,1,none⟩=false
 g0:W.frozen? ⟨B,0,none⟩=false
 g1:W.frozen? ⟨B,1,none⟩=false
 lt:B+1<W.heap.size
 ah:Below B w W
theorem gv.below {B:Nat} {w W W':World} {a b:ByteArray} (h:gv B w a b W) (hb:aj W W'):gv B w a b W':=
  ⟨(hb.cell (p:=⟨B,0,none⟩) (by have:=h.lt;show B<_;omega)).trans h.c0,(hb.cell (p:=⟨B,1,none⟩) (by have:=h.lt;show B<_;omega)).trans h.c1,
   (hb.cell (p:=⟨B+1,0,none⟩) h.lt).trans h.r0,(hb.cell (p:=⟨B+1,1,none⟩) h.lt).trans h.r1,
   (hb.frozen (p:=⟨B+1,0,none⟩) h.lt).trans h.f0,(hb.frozen (p:=⟨B+1,1,none⟩) h.lt).trans h.f1,
   (hb.frozen (p:=⟨B,0,none⟩) (by have:=h.lt;show B<_;omega)).trans h.g0,(hb.frozen (p:=⟨B,1,none⟩) (by have:=h.lt;show B<_;omega)).trans h.g1,
   cS h.lt hb.size,h.ah.trans (hb.mono (by have:=h.lt;omega))⟩
theorem gv.drew {B:Nat} {w W:World} {a b:ByteArray} (h:gv B w a b W):gv B w a b W.drew:=⟨h.c0,h.c1,h.r0,h.r1,h.f0,h.f1,h.g0,h.g1,h.lt,h.ah.drew⟩
theorem zb (a b:ByteArray) (w:World):gv w.heap.size w a b ((w.alloc (.cells #[.string a,.string b] 25)).alloc (.cells #[.string ⟨#[]⟩,.string ⟨#[]⟩] 25)):=by refine ⟨?_,?_,?_,?_,?_,?_,?_,?_,?_,?_⟩;all_goals first | exact ((aK _ _).alloc (aq _) _).alloc (by simp) _ | (simp[go_sem];done) | (simp;done) | (simp[go_sem];omega)
theorem qO {W:World} {B:Nat} {a b:ByteArray} {c d:Value} (h0:af W B 0 c) (h1:af W B 1 d):((W.setCell ⟨B,0,none⟩ (.string a)).setCell ⟨B,1,none⟩ (.string b)).cell? ⟨B,0,none⟩=some (.string a)/\((W.setCell ⟨B,0,none⟩ (.string a)).setCell ⟨B,1,none⟩ (.string b)).cell? ⟨B,1,none⟩=some (.string b):=by
 have e:(⟨B,1,none⟩:Addr) ≠ ⟨B,0,none⟩:=by simp
 refine ⟨?_,?_⟩;·rw[fJ _ _ _ _ e,rW _ _ _ h0]
 rw[rW _ _ _ ((fJ _ _ _ _ e.symm).trans h1)]
theorem YN {B:Nat} {w W:World} {a b:ByteArray} (s:ByteArray) (hs:s.size<=281474976710656) (h:gv B w a b W):Calls prog 50 #[.string s] W fun e w'=>e=.returned (.string s)/\gv B w a b w':=(yS s W hs).mono fun _ _ ⟨he,hb⟩=>⟨he,h.below hb⟩
theorem ON (a b:ByteArray) (w:World) (ha:a.size<=281474976710656) (hb:b.size<=281474976710656):Calls prog 128 #[.agg #[.string a,.string b]] w (aT (.agg #[.string a,.string b]) w):=by
 have hF:=zb a b w;go_enter func128,ntmps128;go_wp2;obtain ⟨W,hW⟩:∃ W,(w.alloc (.cells #[.string a,.string b] 25)).alloc (.cells #[.string ⟨#[]⟩,.string ⟨#[]⟩] 25)=W:=⟨_,rfl⟩;rw[hW] at hF ⊢;have c0:=hF.c0;have c1:=hF.c1;have gC:=hF.drew;go_region_with (go_at_call 50;refine (YN (B:=w.heap.size) (w:=w) (a:=a) (b:=b) _ (by omega) (by assumption)).mono ?_;rintro e w4 ⟨rfl,h4⟩;have d0:=h4.c0;have d1:=h4.c1;have d2:=h4.r0;have d3:=h4.r1;have d4:=h4.f0;have d5:=h4.f1)
 all_goals
  go_wp2;have q:=qO (a:=a) (b:=b) d2 d3;exact bL (v:=.agg #[.string a,.string b]) (by simp[results,results128,go_sem,q.1,q.2]) rfl
   ⟨rfl,(h4.ah.setCell (p:=⟨w.heap.size+1,0,none⟩) (bP _) _).setCell (p:=⟨w.heap.size+1,1,none⟩) (bP _) _⟩
def BB (s:ByteArray):Value:=if s.size=768 then .tuple #[.agg #[.string s,.string s],.bool true] else .tuple #[.agg #[.string ⟨#[]⟩,.string ⟨#[]⟩],.bool false]
theorem YO (s:ByteArray) (w:World) (hs:s.size<=281474976710656):Calls prog 113 #[.string s] w (aT (BB s) w):=by
 by_cases h:s.size=768
 ·have e:BB s=.tuple #[.agg #[.string s,.string s],.bool true]:=aF h;have h':(s.size:Int)=768:=by omega
  rw[e];go_enter func113,ntmps113;go_wp2;exact bL (v:=.tuple #[.agg #[.string s,.string s],.bool true]) (by simp[results,results113,go_sem]) rfl ⟨rfl,(aK _ _).alloc (aq _) _⟩
 have e:BB s=.tuple #[.agg #[.string ⟨#[]⟩,.string ⟨#[]⟩],.bool false]:=aG h;have h':((s.size:Int) != 768)=true:=by simp;omega
 rw[e];go_enter func113,ntmps113;go_wp2;exact bL (v:=.tuple #[.agg #[.string ⟨#[]⟩,.string ⟨#[]⟩],.bool false]) (by simp[results,results113,go_sem]) rfl ⟨rfl,(aK _ _).alloc (aq _) _⟩
theorem YP {B:Nat} {w W:World} {a b:ByteArray} (s t:ByteArray) (hs:s.size<=281474976710656) (ht:t.size<=281474976710656) (h:gv B w a b W):Calls prog 35 #[.agg #[.string s,.string t]] W fun e w'=>e=.returned (.bool (cT s t))/\gv B w a b w':=(Ez s t W (by unfold maxLen;omega) (by unfold maxLen;omega)).mono fun _ _ ⟨he,hb⟩=>⟨he,hb ▸ h.below ((aK _ _).alloc (aq _) _)⟩
theorem uW {B:Nat} {w W:World} {a b:ByteArray} (s t:ByteArray) (hs:s.size<=281474976710656) (ht:t.size<=281474976710656) (h:gv B w a b W):Calls prog 25 #[.agg #[.string s,.string t]] W fun e w'=>e=.returned (.bool (cT s t))/\gv B w a b w':=(IF s t W (by unfold maxLen;omega) (by unfold maxLen;omega)).mono fun _ _ ⟨he,hb⟩=>⟨he,hb ▸ h.below ((aK _ _).alloc (aq _) _)⟩
theorem YQ {B:Nat} {a w:World} (h:Below B a w) (n:Nat):Below B a (w.drewN n):=⟨h.os,h.tape,h.output,h.size,h.block⟩
theorem OO {B:Nat} {w W:World} {a b:ByteArray} (s:ByteArray) (i:Int) (t:ByteArray) (hs:s.size<=281474976710656) (ht:t.size<=281474976710656) (h:gv B w a b W):Calls prog 60 #[.string s,ad i,.string t] W fun e w'=>e=.returned (.string (bJ s i t))/\gv B w a b w':=(sk s i t W hs ht).mono fun _ _ ⟨he,n,hb⟩=>⟨he,hb ▸ h.below (YQ (aK _ _) n)⟩
theorem gv.GA {B:Nat} {w W:World} {a b:ByteArray} (h:gv B w a b W) (x:ByteArray):gv B w x b (W.setCell ⟨B,0,none⟩ (.string x)):=
  ⟨rW _ _ _ h.c0,(fJ _ _ _ _ (by simp)).trans h.c1,(fJ _ _ _ _ (by simp)).trans h.r0,(fJ _ _ _ _ (by simp)).trans h.r1,
   by rw[iI];exact h.f0,by rw[iI];exact h.f1,by rw[iI];exact h.g0,by rw[iI];exact h.g1,
   by have:=h.lt;simpa [World.setCell] using this,h.ah.setCell (p:=⟨B,0,none⟩) (aq _) _⟩
theorem gv.done {B:Nat} {w W:World} {a b:ByteArray} (h:gv B w a b W) (x y:Value):Below B w ((W.setCell ⟨B+1,0,none⟩ x).setCell ⟨B+1,1,none⟩ y):=(h.ah.setCell (p:=⟨B+1,0,none⟩) (bP _) _).setCell (p:=⟨B+1,1,none⟩) (bP _) _
def nX (a b:ByteArray) (i:Int) (t:ByteArray):ByteArray:=if cT a b then bJ a i t else a
theorem OP (a b:ByteArray) (i:Int) (t:ByteArray) (w:World) (ha:a.size<=281474976710656) (hb:b.size<=281474976710656) (ht:t.size<=281474976710656):Calls prog 165 #[.agg #[.string a,.string b],ad i,.string t] w (aT (.agg #[.string (nX a b i t),.string b]) w):=by
 have hF:=zb a b w;by_cases h:cT a b=true
 ·have e:nX a b i t=bJ a i t:=aF h;rw[e];go_enter func165,ntmps165;go_wp2_with (first
   | (go_at_call 25;refine (uW _ _ ha hb hF).mono ?_;rintro e w1 ⟨rfl,h1⟩;have c0:=h1.c0)
   | (go_at_call 60;refine (OO _ _ _ ha ht h1).mono ?_;rintro e w2 ⟨rfl,h2⟩;have h3:=h2.GA (bJ a i t);have z0:=h2.c0;have z1:=h2.g0;obtain ⟨d0,d1,d2,d3,d4,d5,d6,d7,d8,d9⟩:=id h3))
  have q:=qO (a:=bJ a i t) (b:=b) d2 d3;exact bL (v:=.agg #[.string (bJ a i t),.string b]) (by simp[results,results165,go_sem,q.1,q.2]) rfl ⟨rfl,h3.done _ _⟩
 have h':cT a b=false:=by simpa using h
 have e:nX a b i t=a:=aG h;rw[e];go_enter func165,ntmps165;go_wp2_with (go_at_call 25;refine (uW _ _ ha hb hF).mono ?_;rintro e w1 ⟨rfl,h1⟩;obtain ⟨d0,d1,d2,d3,d4,d5,d6,d7,d8,d9⟩:=id h1);have q:=qO (a:=a) (b:=b) d2 d3;exact bL (v:=.agg #[.string a,.string b]) (by simp[results,results165,go_sem,q.1,q.2]) rfl ⟨rfl,h1.done _ _⟩
end Go.Proofs.YtidmmopnkjbjoaaGreatDoor
