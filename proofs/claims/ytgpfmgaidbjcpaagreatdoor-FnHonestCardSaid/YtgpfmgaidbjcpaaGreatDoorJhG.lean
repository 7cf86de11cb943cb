/- Joined texts. -/
import Derived.Test.YtgpfmgaidbjcpaaGreatDoorJhF
set_option linter.unusedVariables false
set_option linter.unusedSimpArgs false
set_option maxRecDepth 10000
set_option maxHeartbeats 16000000
namespace Go.Proofs.YtgpfmgaidbjcpaaGreatDoor
open ChangeShapes WideShapes ChangeAt RowKit
open Go.Proofs.Tryz
theorem aa9 (i:Int):(Lit.int .i64 (aZ i)).wf=true:=by
 refine IF _ ?_ ?_;all_goals
  unfold aZ;split
  ·rename_i h;have:=pN h;omega
  ·omega
theorem ES (mem:ByteArray) (i:Int) (w:World) (hs:mem.size<=281474976710656):Calls prog 83 #[.string mem,aa i] w (el (.string (aj mem i)) w):=by
 have hm:mem.size<=maxLen:=by unfold maxLen;omega
 have e:aj mem i=aX mem (aZ i) 16:=rfl;rw[e];go_enter func83,ntmps83;go_wp2_with (first
  | (go_at_call 71;refine (Et _ _).mono ?_;rintro e w' ⟨rfl,rfl⟩)
  | (go_at_call 12;refine (pM _ _ _ _ hm (aa9 i) (by decide)).mono ?_;rintro e w' ⟨rfl,rfl⟩))
 go_ret;exact ⟨rfl,rfl⟩
theorem PW (mem:ByteArray) (z:Int) (w:World) (hs:mem.size<=281474976710656) (h0:5<=z) (h1:z<=23):Calls prog 84 #[.string mem,aa z] w (el (.string (aX mem (z*32) 32)) w):=by
 have hm:mem.size<=maxLen:=by unfold maxLen;omega
 have hw:=IF (z*32) (by omega) (by omega);go_enter func84,ntmps84;go_wp2_with (go_at_call 12;refine (pM _ _ _ _ hm hw (by decide)).mono ?_;rintro e w' ⟨rfl,rfl⟩);go_ret;exact ⟨rfl,rfl⟩
theorem aba:∃ C:Array Value,C.size=192/\∀ W:World,(Instr.makeSlice 22 (aa 0) (aa 192)).run prog W=.ok (aH W.heap.size 0 192) (W.alloc (.cells C 5)):=by
 obtain ⟨i0,hi,hz0,hz1,hz2⟩:=iv Ew;refine ⟨madeCells (Value.int .u8 0).cells (192*i0.size),?_,fun W=>?_⟩
 ·have:(madeCells (Value.int .u8 0).cells (192*i0.size)).toList.length=192:=by
   rw[show (Value.int .u8 0).cells=#[Value.int .u8 0] from rfl,YO,hz1]
   simp
  simpa using this
 exact run_make (P:=prog) W 22 5 i0 (.int .u8 0) underlying22 hi hz0 .i64 .i64 0 192 (by omega) (by omega) (by rw[hz2];omega) (by omega)
theorem Jl (mem:ByteArray) (a:Option Addr) (c:Nat) (zs:List Int) (w:World) (hm:mem.size=768) (hp:eE zs=true) (hl:zs.length<=6) (rG:aK w a zs):Calls prog 38 #[.string mem,.slice a zs.length c] w (aV (.string (di mem zs zs.length)) w):=by
 obtain ⟨C,hC,hmk⟩:=aba;have oW:=O8 (base:=w.heap.size) w C 192 hC (by unfold maxLen;omega) (av _);have vT:=aA w (.cells C 5);have hms:mem.size<=281474976710656:=by omega
 go_enter func38,ntmps38;go_wp2;go_loopw [5,11] (fun r i w'=>∃ (j g cap:Nat),j<=zs.length/\i=aa j/\r=aH g (32*j) cap/\fB w.heap.size w' g (32*j) cap (di mem zs j)/\ah w w') (fun _ i _=>zs.length-(intOf i).toNat);case atStart=>exact ⟨0,w.heap.size,192,bh _,rfl,rfl,oW,vT⟩
 case round=>
 obtain ⟨j,g,cap,hj,rfl,rfl,hbuf,hbel⟩:=hrel;clear oW vT hmk;by_cases hlt:j<zs.length
 ·obtain ⟨b,off,rfl,hb,hc⟩:=(rG.below hbel).get hlt;have x1:=hc j hlt;have hz:=By hp hlt;have hu:di mem zs (j+1)=di mem zs j++aX mem (zs.getD j 0*32) 32:=rfl;obtain ⟨z,ez⟩:∃ z,zs.getD j 0=z:=⟨_,rfl⟩;rw[ez] at x1 hz hu;have hps:=EB hm hz.1 hz.2;have z0:0<=z:=by omega
  have z1:z<=23:=hz.2;have e1:(0:Int)<=(j:Int):=by omega
  have e2:(j:Int)<(zs.length:Int):=by omega
  have HU:Hid (di mem zs (j+1)=di mem zs j++aX mem (z*32) 32):=hu;clear hu ez hc hz;go_wp2_with (first
   | (go_at_call 16;refine (lM _ _ _ _ hms).mono ?_;rintro e w2 ⟨rfl,b2⟩;have uv:=hbuf.below b2;have me:=hbel.trans (b2.mono hbel.size))
   | (at_builtin;refine IQ rfl (.tmp 15) (.tmp 19) rfl uv (aX mem (z*32) 32) (by rfl) (by rfl) (by omega) me.size ?_;intro g1 dO w3 uD pf))
  go_roundw;case rel=>
   rw[hps] at uD;exact ⟨j+1,g1,dO,by omega,by go_num,rfl,by rw[HU.out];exact uD,me.trans pf⟩
  case measure=>simp[intOf];omega
 obtain rfl:j=zs.length:=by omega
 have hcv:=hbuf.conv;clear hbuf rG;go_wp2;go_ret;exact ⟨rfl,hbel⟩
theorem abb (u:ByteArray) (n:Int) (h0:0<=n) (h1:n<=(u.size:Int)):aX u 0 n=u.extract 0 n.toNat:=by
 rw[aX,aN];·simp
 unfold dq;simp;omega
theorem BL (mem:ByteArray) (k o s:Int) (a:Option Addr) (c:Nat) (zs:List Int) (w:World) (hm:mem.size=768) (hp:eE zs=true) (hl:zs.length<=6) (hs0:0<=s) (hs1:s<=32*(zs.length:Int)) (hR:aK w a zs):Calls prog 20 #[.string mem,aO k o s a zs.length c] w (aV (.string ((di mem zs zs.length).extract 0 s.toNat)) w):=by
 have mP:=aY (fO k o s a zs.length c) w 35;have hl0:=aA w (.cells (bj k o s a zs.length c) 35);have HT:Hid (∀ W,ah w W->_):=fun W hb=>Jl mem a c zs W hm hp hl (hR.below hb);have hsz:=BE hm hp zs.length (av _);rw[<- abb _ _ hs0 (by omega)];obtain ⟨u,hu⟩:∃ u,di mem zs zs.length=u:=⟨_,rfl⟩;rw[hu] at HT hsz ⊢;have qv:u.size<=281474976710656:=by omega
 have s1:(w.alloc (.cells (bj k o s a zs.length c) 35)).drew.cell? ⟨w.heap.size,2,none⟩=some (aa s)/\(w.alloc (.cells (bj k o s a zs.length c) 35)).drew.cell? ⟨w.heap.size,3,none⟩=some (.slice a zs.length c):=⟨mP.drew.c2,mP.drew.c3⟩;clear hR hu hsz;go_enter func20,ntmps20;go_wp2;go_region_held3 (fun W=>ad W w.heap.size 2 (aa s)/\ad W w.heap.size 3 (.slice a zs.length c)) (assumption) ((first
  | (go_at_call 38;refine (HT.out _ hl0.drew).mono ?_;rintro e w2 ⟨rfl,b2⟩;have hb2:=mP.drew.below b2;have l2:=hl0.drew.trans (b2.mono hl0.drew.size);have s2:ad w2 w.heap.size 2 (aa s)/\ad w2 w.heap.size 3 (.slice a zs.length c):=⟨hb2.c2,hb2.c3⟩)
  | (go_at_call 16;refine (lM _ _ _ _ qv).mono ?_;rintro e w3 ⟨rfl,b3⟩;have hb3:=hb2.below b3;have l3:=l2.trans (b3.mono l2.size);have s3:ad w3 w.heap.size 2 (aa s)/\ad w3 w.heap.size 3 (.slice a zs.length c):=⟨hb3.c2,hb3.c3⟩)))
 all_goals
  go_wp2;go_ret;exact ⟨rfl,l3⟩
theorem Jm (a1 a2:Option Addr) (c1 c2:Nat) (zs al:List Int) (w:World) (h1:zs.length<=281474976710656) (h2:al.length<=281474976710656) (R1:aK w a1 zs) (R2:aK w a2 al):Calls prog 274 #[.slice a1 zs.length c1,.slice a2 al.length c2] w (el (.bool (oD zs al)) w):=by
 have hH:Hid (∀ x,_):=fun x=>pR a2 c2 al x w h2 R2;clear R2;go_enter func274,ntmps274;go_wp2;go_loop [9] (fun i=>∃ k:Nat,k<=zs.length/\bX (ED zs al) k=true/\i=aa k) (fun i=>zs.length-(intOf i).toNat)
 case atStart=>exact ⟨0,bh _,rfl,rfl⟩
 case round=>
 obtain ⟨k,hk,hok,rfl⟩:=hrel;by_cases hlt:k<zs.length
 ·obtain ⟨b,off,hab,_,hc⟩:=R1.get hlt;have x1:=hc k hlt;have hat:ED zs al k=bC al (zs.getD k 0):=rfl;obtain ⟨z,ez⟩:∃ z,zs.getD k 0=z:=⟨_,rfl⟩;rw[ez] at x1 hat;rw[hab];have e1:(0:Int)<=(k:Int):=by omega
  have e2:(k:Int)<(zs.length:Int):=by omega
  cases h:bC al z with
  | true=>
   have HO:Hid (bX (ED zs al) (k+1)=true):=qQ hok (by rw[hat,h]);clear hat hok ez hc;go_wp2_with (go_at_call 141;refine (hH.out _).mono ?_;rintro e w' ⟨rfl,rfl⟩);go_round;case rel=>exact ⟨k+1,by omega,HO.out,by go_num⟩
   case measure=>simp[intOf];omega
  | false=>
   have HR:Hid (oD zs al=false):=qP hlt (by rw[hat,h]);clear hat hok ez hc;go_wp2_with (go_at_call 141;refine (hH.out _).mono ?_;rintro e w' ⟨rfl,rfl⟩);go_ret;exact ⟨cr HR.out.symm,rfl⟩
 obtain rfl:k=zs.length:=by omega
 have HR:Hid (oD zs al=true):=hok;clear hok R1;go_wp2;go_ret;exact ⟨cr HR.out.symm,rfl⟩
def dt (es:List aB):List Int:=es.map (·.1)
theorem xe (es:List aB):(dt es).length=es.length:=by simp[dt]
theorem Jn (es:List aB) (k:Nat) (h:k<es.length):(dt es).getD k 0=(bl es k).1:=by rw[fq _ _ (by rw[xe];exact h),mQ _ _ h];simp[dt]
def BM (es:List aB) (x:Int) (i:Nat):Bool:=!decide ((bl es i).1=x)
theorem abc {es:List aB} {x:Int} (h:bX (BM es x) es.length=true):bC (dt es) x=false:=by refine zw.2 fun hm=>?_;obtain ⟨i,hi,e⟩:=zv hm;rw[xe] at hi;have:=kH.1 h i hi;rw[Jn _ _ hi] at e;simp only[BM,oy,wI] at this;exact this e
theorem abd {es:List aB} {x:Int} {k:Nat} (hk:k<es.length) (h:(bl es k).1=x):bC (dt es) x=true:=by refine Jd.2 ?_;rw[<- h,<- Jn es k hk];exact qS (by rw[xe];exact hk)
theorem ET (a:Option Addr) (c:Nat) (es:List aB) (x:Int) (w:World) (hn:es.length<=281474976710656) (hR:cW w a es):Calls prog 225 #[.slice a es.length c,aa x] w (aV (.bool (bC (dt es) x)) w):=by
 go_enter func225,ntmps225;go_wp2;go_loopw [9] (fun i w'=>∃ k:Nat,k<=es.length/\bX (BM es x) k=true/\i=aa k/\ah w w') (fun i _=>es.length-(intOf i).toNat);case atStart=>exact ⟨0,bh _,rfl,rfl,aQ _ _⟩
 case round=>
 obtain ⟨k,hk,hok,rfl,hbel⟩:=hrel;by_cases hlt:k<es.length
 ·obtain ⟨b,off,hab,_,hc⟩:=(hR.below hbel).get hlt;have x1:=(hc k hlt).1;have x2:=(hc k hlt).2;have hat:BM es x k=!decide ((bl es k).1=x):=rfl;have ml:=fun h=>abd (es:=es) (x:=x) hlt h;obtain ⟨z,ez⟩:∃ z,bl es k=z:=⟨_,rfl⟩;rw[ez] at x1 x2 hat ml;obtain ⟨u,v⟩:=z;simp only at x1 x2 hat ml;rw[hab];have e1:(0:Int)<=(k:Int):=by omega
  have e2:(k:Int)<(es.length:Int):=by omega
  by_cases h:u=x
  ·have h':(u == x)=true:=by simpa using h
   have HR:Hid (bC (dt es) x=true):=ml h;clear hat hok ez hc hR h ml;go_wp2;go_ret;exact ⟨cr HR.out.symm,hbel.alloc hbel.size _⟩
  have h':(u == x)=false:=by simpa using h
  have HO:Hid (bX (BM es x) (k+1)=true):=qQ hok (by rw[hat,bA h];rfl);clear hat hok ez hc hR h ml;go_wp2;go_roundw;case rel=>exact ⟨k+1,by omega,HO.out,by go_num,hbel.alloc hbel.size _⟩
  case measure=>simp[intOf];omega
 obtain rfl:k=es.length:=by omega
 have HR:Hid (bC (dt es) x=false):=abc hok;clear hok hR;go_wp2;go_ret;exact ⟨cr HR.out.symm,hbel⟩
theorem abe (k o t:Int) (a:Option Addr) (n c:Nat) (ae:Option Addr) (ce:Nat) (es:List aB) (x:Int) (w:World) (hn:es.length<=281474976710656) (hR:cW w ae es):Calls prog 277 #[iX k o t a n c ae es.length ce,aa x] w (aV (.bool (bC (dt es) x)) w):=by have hB:=aA w (.cells #[aa k,aa o,aa t,.slice a n c,.slice ae es.length ce] 125);have hR':=hR.below hB;go_enter func277,ntmps277;go_wp2_with (go_at_call 225;refine (ET _ _ es _ _ hn hR').mono ?_;rintro e w1 ⟨rfl,b1⟩);go_ret;exact ⟨rfl,hB.trans (b1.mono hB.size)⟩
theorem Jo (k o t:Int) (a:Option Addr) (n c:Nat) (ae:Option Addr) (ne ce:Nat) (k2 o2 t2:Int) (a2:Option Addr) (n2 c2:Nat) (w:World):Calls prog 273 #[iX k o t a n c ae ne ce,aO k2 o2 t2 a2 n2 c2] w (aV (.bool (decide (k2=k) && decide (o2=o))) w):=by
 have hB:=aA w (.cells #[aa k,aa o,aa t,.slice a n c,.slice ae ne ce] 125);have hB2:=hB.alloc hB.size (.cells (bj k2 o2 t2 a2 n2 c2) 35);by_cases h1:k2=k
 ·have h1':(k2 == k)=true:=by simpa using h1
  have HR:Hid ((o2 == o)=(decide (k2=k) && decide (o2=o))):=by
   show _=_
   rw[bK h1,fJ];by_cases h2:o2=o;·simp[h2]
   rw[bA h2];simpa using h2
  clear h1;go_enter func273,ntmps273;go_wp2;go_ret;exact ⟨cr HR.out,hB2⟩
 have h1':(k2 == k)=false:=by simpa using h1
 have HR:Hid (false=(decide (k2=k) && decide (o2=o))):=by
  show _=_
  rw[bA h1];rfl
 clear h1;go_enter func273,ntmps273;go_wp2;go_ret;exact ⟨cr HR.out,hB2⟩
theorem PX (a:Option Addr) (c:Nat) (zs:List Int) (w:World) (hn:zs.length<=1000) (hR:aK w a zs):Calls prog 93 #[.slice a zs.length c] w fun e w'=>∃ a' c',e=.returned (.slice a' zs.length c')/\bH w.heap.size w' a' zs.length c' zs/\ah w w':=by
 have qn:∀ (w:World) (a:Option Addr) (n c n' c':Nat),(binOp .eql 29 (.slice a n c) (.slice none n' c')).run prog w=.ok (.bool a.isNone) w:=fun w a n c n' c'=>YW w _ _ a n c n' c' underlying29;cases a with
 | none=>
  have h0:zs=[]:=by
   rcases hR with h | ⟨b,off,h,_⟩;·exact h
   cases h
  subst h0;go_enter func93,ntmps93;go_wp2;go_ret;exact ⟨none,0,rfl,Bz _,aQ _ _⟩
 | some p=>
  have b0:=lP w (av _);have l0:=aA w (.cells #[] 3);have r0:=hR.below l0;clear hR;go_enter func93,ntmps93;go_wp2_with (at_builtin;refine tQ rfl (.tmp 5) (.tmp 6) rfl b0 _ _ zs (by rfl) (by rfl) r0 (by omega) l0.size ?_;intro a1 c1 w1 b1 l1);go_ret;exact ⟨a1,c1,by simp,by simpa using b1,l0.trans l1⟩
section
variable {w W W' : World} {B : Nat} {a : Option Addr}
theorem gB {x0 x1 x2 x3 x4 x5:Value} (h:az B [x0,x1,x2,x3,x4,x5] W):ad W B 0 x0/\ad W B 1 x1/\ad W B 2 x2/\ad W B 3 x3/\ad W B 4 x4/\ad W B 5 x5:=⟨h.cell 0 (by simp),h.cell 1 (by simp),h.cell 2 (by simp),h.cell 3 (by simp),h.cell 4 (by simp),h.cell 5 (by simp)⟩
theorem zB {x0 x1 x2 x3 x4 x5:Value} (h:az B [x0,x1,x2,x3,x4,x5] W):W.frozen? ⟨B,0,none⟩=false/\W.frozen? ⟨B,1,none⟩=false/\W.frozen? ⟨B,2,none⟩=false/\W.frozen? ⟨B,3,none⟩=false/\W.frozen? ⟨B,4,none⟩=false/\W.frozen? ⟨B,5,none⟩=false:=⟨h.free 0 (by simp),h.free 1 (by simp),h.free 2 (by simp),h.free 3 (by simp),h.free 4 (by simp),h.free 5 (by simp)⟩
abbrev EU (W:World) (B:Nat) (y0 y1 y2 y3 y4 y5:Value):World:=((((((W.setCell ⟨B,0,none⟩ y0).setCell ⟨B,1,none⟩ y1).setCell ⟨B,2,none⟩ y2).setCell ⟨B,3,none⟩ y3).setCell ⟨B,4,none⟩ y4).setCell ⟨B,5,none⟩ y5)
theorem zC {x0 x1 x2 x3 x4 x5:Value} (h:az B [x0,x1,x2,x3,x4,x5] W) (y0 y1 y2 y3 y4 y5:Value):az B [y0,y1,y2,y3,y4,y5] (EU W B y0 y1 y2 y3 y4 y5):=((((((h.set 0 y0).set 1 y1).set 2 y2).set 3 y3).set 4 y4).set 5 y5)
theorem zD {b:Nat} (h:Below b w W) (hb:b<=B) (y0 y1 y2 y3 y4 y5:Value):Below b w (EU W B y0 y1 y2 y3 y4 y5):=((((((h.setCell (p:=⟨B,0,none⟩) hb y0).setCell (p:=⟨B,1,none⟩) hb y1).setCell (p:=⟨B,2,none⟩) hb y2).setCell (p:=⟨B,3,none⟩) hb y3).setCell (p:=⟨B,4,none⟩) hb y4).setCell (p:=⟨B,5,none⟩) hb y5)
theorem EV {base:Nat} {zs:List Int} (h:aR base W a zs) (hB:B<base) (y0 y1 y2 y3 y4 y5:Value):aR base (EU W B y0 y1 y2 y3 y4 y5) a zs:=((((((h.set hB 0 y0).set hB 1 y1).set hB 2 y2).set hB 3 y3).set hB 4 y4).set hB 5 y5)
theorem PY {base:Nat} {es:List aB} (h:cU base W a es) (hB:B<base) (y0 y1 y2 y3 y4 y5:Value):cU base (EU W B y0 y1 y2 y3 y4 y5) a es:=(gA (gA (gA (gA (gA (gA h hB 0 y0) hB 1 y1) hB 2 y2) hB 3 y3) hB 4 y4) hB 5 y5)
abbrev iY (k o t:Int) (a:Option Addr) (n c:Nat) (x:ByteArray) (ae:Option Addr) (ne ce:Nat):Value:=.agg #[.int .i64 k,.int .i64 o,.int .i64 t,.slice a n c,.string x,.slice ae ne ce]
abbrev pS (k o t:Int) (a:Option Addr) (n c:Nat) (x:ByteArray) (ae:Option Addr) (ne ce:Nat):List Value:=[.int .i64 k,.int .i64 o,.int .i64 t,.slice a n c,.string x,.slice ae ne ce]
def jH (mem:ByteArray) (i:Int):ByteArray:=(di mem (aD (aj mem i)) (aD (aj mem i)).length).extract 0 (bU (aj mem i)).toNat
def dD (mem:ByteArray) (i:Int):Bool:=bM (aj mem i) && (!decide (bg (aj mem i)=2) || dh (jH mem i))
def cP (mem:ByteArray) (i:Int):List aB:=if bg (aj mem i)=2 then dy (jH mem i) else []
def zE (mem:ByteArray) (i:Int) (w:World) (e:Ending) (w':World):Prop:=
 ∃ (k o t:Int) (a:Option Addr) (n c:Nat) (x:ByteArray) (ae:Option Addr) (ne ce:Nat),e=.returned (.tuple #[iY k o t a n c x ae ne ce,.bool (dD mem i)])/\ah w w'/\
  (dD mem i=true->k=bg (aj mem i)/\o=bI (aj mem i)/\n=(aD (aj mem i)).length/\n<=c/\aR w.heap.size w' a (aD (aj mem i))/\ne=(cP mem i).length/\ne<=ce/\cU w.heap.size w' ae (cP mem i))
theorem abf {mem:ByteArray} {i:Int} {w w':World} {k o t:Int} {a:Option Addr} {n c:Nat} {x:ByteArray} {ae:Option Addr} {ne ce:Nat} (h:dD mem i=false) (hb:ah w w'):zE mem i w (.returned (.tuple #[iY k o t a n c x ae ne ce,.bool false])) w':=⟨k,o,t,a,n,c,x,ae,ne,ce,by rw[h],hb,fun h'=>by rw[h] at h';cases h'⟩
theorem abg {mem:ByteArray} {i:Int} {w w':World} {t:Int} {a:Option Addr} {c:Nat} {x:ByteArray} {ae:Option Addr} {ce:Nat} (h:dD mem i=true) (hb:ah w w') (hc:(aD (aj mem i)).length<=c) (ho:aR w.heap.size w' a (aD (aj mem i))) (hce:(cP mem i).length<=ce) (hoe:cU w.heap.size w' ae (cP mem i)):zE mem i w (.returned (.tuple #[iY (bg (aj mem i)) (bI (aj mem i)) t a (aD (aj mem i)).length c x ae (cP mem i).length ce,.bool true])) w':=⟨_,_,t,a,_,c,x,ae,_,ce,by rw[h],hb,fun _=>⟨rfl,rfl,rfl,hc,ho,rfl,hce,hoe⟩⟩
structure EW (w:World) (k o t:Int) (a:Option Addr) (n c B:Nat) (W:World):Prop where
 res:az w.heap.size (pS 0 0 0 none 0 0 ⟨#[]⟩ none 0 0) W
 nb:az B (fO k o t a n c) W
 au:ah w W
theorem EW.below {k o t:Int} {n c:Nat} (h:EW w k o t a n c B W) (hb:ah W W'):EW w k o t a n c B W':=⟨h.res.below hb,h.nb.below hb,h.au.trans (hb.mono h.au.size)⟩
abbrev abh (w:World):World:=w.alloc (.cells #[.int .i64 0,.int .i64 0,.int .i64 0,.slice none 0 0,.string ⟨#[]⟩,.slice none 0 0] 170)
theorem zF {k o t:Int} {n c:Nat} (hb:ah (abh w) W):EW w k o t a n c W.heap.size (W.alloc (.cells (bj k o t a n c) 35)):=⟨((aY (pS 0 0 0 none 0 0 ⟨#[]⟩ none 0 0) w 170).below hb).alloc _,aY (fO k o t a n c) W 35,((aA w _).trans (hb.mono (aA w _).size)).alloc (br (aA w _).size hb.size) _⟩
theorem Jp (mem:ByteArray) (i:Int):(bM (aj mem i)=false/\dD mem i=false)\/(bM (aj mem i)=true/\(bg (aj mem i) != 2)=true/\dD mem i=true/\cP mem i=[])\/(bM (aj mem i)=true/\(bg (aj mem i) != 2)=false/\dD mem i=dh (jH mem i)/\cP mem i=dy (jH mem i)):=by
 unfold dD cP;cases hI:bM (aj mem i) with
 | false=>exact Or.inl ⟨rfl,dC _⟩
 | true=>
  right;by_cases h2:bg (aj mem i)=2
  ·right;exact ⟨rfl,by simpa using h2,by rw[bK h2,fJ,tG,DT],by rw[aN h2]⟩
  ·left;exact ⟨rfl,by simpa using h2,by rw[bA h2,Oc,Bool.true_or,fJ],by rw[aM h2]⟩
theorem Jq (mem:ByteArray) (i:Int) (hm:mem.size=768):(jH mem i).size<=281474976710656:=by
 unfold jH;rw[pH];cases hI:bM (aj mem i) with
 | true=>
  have hg:=pQ hI;rw[BE hm hg.2.2.2.1 _ (av _)];have:=hg.2.1;omega
 | false=>
  rw[(zn hI).2.2.2];have:(di mem [] ([]:List Int).length).size=0:=rfl;omega
theorem EX (mem:ByteArray) (i:Int) (w:World) (hm:mem.size=768):Calls prog 137 #[.string mem,aa i] w (zE mem i w):=by
 have hms:mem.size<=281474976710656:=by omega
 have hrs:=vg mem i hms;have hpt:Hid (∀ W,Calls prog 16 #[.string mem,aa (aZ i),aa 16] W (aV (.string (aj mem i)) W)):=fun W=>lM _ _ _ _ hms;have hG:Hid (∀ W,Calls prog 184 #[.string (aj mem i)] W (gR (aj mem i) W)):=fun W=>BC _ W hrs;have hA:Hid (∀ W e w',gR (aj mem i) W e w'->∃ a c,e=.returned (.tuple #[aO (bg (aj mem i)) (bI (aj mem i)) (bU (aj mem i)) a (aD (aj mem i)).length c,.bool (bM (aj mem i))])/\aR W.heap.size w' a (aD (aj mem i))/\(aD (aj mem i)).length<=c/\ah W w'):=fun W e w' h=>h;have nj:=fun h=>pQ (s:=aj mem i) h;have HN:Hid (∀ k o t a n c x ae ne ce w',dD mem i=false->ah w w'->zE mem i w (.returned (.tuple #[iY k o t a n c x ae ne ce,.bool false])) w'):=fun k o t a n c x ae ne ce w' h hb=>abf h hb;have HY:Hid (∀ t a c x ae ce w',dD mem i=true->ah w w'->(aD (aj mem i)).length<=c->aR w.heap.size w' a (aD (aj mem i))->(cP mem i).length<=ce->cU w.heap.size w' ae (cP mem i)->zE mem i w (.returned (.tuple #[iY (bg (aj mem i)) (bI (aj mem i)) t a (aD (aj mem i)).length c x ae (cP mem i).length ce,.bool true])) w'):=fun t a c x ae ce w' h hb hc ho hce hoe=>abg h hb hc ho hce hoe;have hcase:=Jp mem i;have hdat:jH mem i=(di mem (aD (aj mem i)) (aD (aj mem i)).length).extract 0 (bU (aj mem i)).toNat:=rfl;obtain ⟨R,hR⟩:∃ R,zE mem i w=R:=⟨_,rfl⟩;rw[hR] at HN HY ⊢;obtain ⟨Q,hQ⟩:∃ Q,aj mem i=Q:=⟨_,rfl⟩;rw[hQ] at hpt hG hA nj HY hcase hdat;obtain ⟨D,hD⟩:∃ D,jH mem i=D:=⟨_,rfl⟩;rw[hD] at hcase hdat;obtain ⟨K,hK⟩:∃ K,bg Q=K:=⟨_,rfl⟩;obtain ⟨O,hO⟩:∃ O,bI Q=O:=⟨_,rfl⟩;obtain ⟨S,hS⟩:∃ S,bU Q=S:=⟨_,rfl⟩;obtain ⟨Z,hZ⟩:∃ Z,aD Q=Z:=⟨_,rfl⟩;rw[hK] at hcase;rw[hK,hO,hZ] at HY;rw[hK,hO,hS,hZ] at hA;rw[hS,hZ] at hdat;rw[hK,hS,hZ] at nj;have hgd:Hid (∀ W,Calls prog 27 #[.string D] W (nN D W)):=fun W=>EK _ _ (by rw[<- hD];exact Jq mem i hm);have HD:Hid (∀ W e w',nN D W e w'->∃ a c,e=.returned (.tuple #[.slice a (dy D).length c,.bool (dh D)])/\cU W.heap.size w' a (dy D)/\(dy D).length<=c/\ah W w'):=fun W e w' h=>h;clear hR hQ hK hO hS hZ hrs hD
 rcases hcase with ⟨gI,hp⟩ | ⟨gI,g2,hp,hE⟩ | ⟨gI,g2,hp,hE⟩
 ·rw[gI] at hA;clear gI nj hgd;go_enter func137,ntmps137;go_wp2_with (first
   | (go_at_call 17;refine (gP _ _).mono ?_;rintro e wq ⟨rfl,rfl⟩)
   | (go_at_call 16;refine (hpt.out _).mono ?_;rintro e w1 ⟨rfl,b1⟩)
   | (go_at_call 184;refine (hG.out _).mono ?_;intro e w2 hans;obtain ⟨a,c,rfl,ho,hc,b2⟩:=hA.out _ _ _ hans;clear hans;have p2:=zF (k:=K) (o:=O) (t:=S) (a:=a) (n:=Z.length) (c:=c) (b1.trans (b2.mono b1.size));have y0:=p2.nb.c0;have y1:=p2.nb.c1;have y2:=p2.nb.c2;have y3:=p2.nb.c3;obtain ⟨i0,i1,i2,i3,i4,i5⟩:=gB p2.res;obtain ⟨j0,j1,j2,j3,j4,j5⟩:=zB p2.res))
  have q:=zC p2.res (aa 0) (aa 0) (aa 0) (.slice none 0 0) (.string ⟨#[]⟩) (.slice none 0 0);obtain ⟨u0,u1,u2,u3,u4,u5⟩:=gB q;exact bF (v:=.tuple #[iY 0 0 0 none 0 0 ⟨#[]⟩ none 0 0,.bool false]) (by simp[results,results137,go_sem,u0,u1,u2,u3,u4,u5]) rfl (HN.out _ _ _ _ _ _ _ _ _ _ _ hp (zD p2.au (av _) (aa 0) (aa 0) (aa 0) (.slice none 0 0) (.string ⟨#[]⟩) (.slice none 0 0)))
 ·obtain ⟨⟨s0,s1⟩,zl,s2,hpk,-⟩:=nj gI;rw[gI] at hA;rw[hE] at HY;clear gI nj hgd hE;have hds:Hid (∀ W c a,aK W a Z->Calls prog 20 #[.string mem,aO K O S a Z.length c] W (aV (.string D) W)):=fun W c a h=>by rw[hdat];exact BL mem K O S a c Z W hm hpk zl s0 s2 h
  clear hdat;go_enter func137,ntmps137;go_wp2_with (first
   | (go_at_call 17;refine (gP _ _).mono ?_;rintro e wq ⟨rfl,rfl⟩)
   | (go_at_call 16;refine (hpt.out _).mono ?_;rintro e w1 ⟨rfl,b1⟩)
   | (go_at_call 184;refine (hG.out _).mono ?_;intro e w2 hans;obtain ⟨a,c,rfl,ho,hc,b2⟩:=hA.out _ _ _ hans;clear hans;have p2:=zF (k:=K) (o:=O) (t:=S) (a:=a) (n:=Z.length) (c:=c) (b1.trans (b2.mono b1.size));have y0:=p2.nb.c0;have y1:=p2.nb.c1;have y2:=p2.nb.c2;have y3:=p2.nb.c3;have r2:=ho.row.alloc (.cells (bj K O S a Z.length c) 35)))
  have bd:ah (w2.alloc (.cells (bj K O S a Z.length c) 35)) (w2.alloc (.cells (bj K O S a Z.length c) 35)).drew:=(aQ _ _).drew;have p3:=p2.below bd;have r3:=r2.below bd;have o3:=(ho.alloc (.cells (bj K O S a Z.length c) 35)).below bd;have hbz:=b1.size;clear bd;go_region_with ((go_at_call 20;refine (hds.out _ _ _ r3).mono ?_;rintro e w4 ⟨rfl,b4⟩;have p4:=p3.below b4;have o4:=o3.below b4;have z0:=p4.nb.c0;have z1:=p4.nb.c1;have z2:=p4.nb.c2;have z3:=p4.nb.c3;obtain ⟨i0,i1,i2,i3,i4,i5⟩:=gB p4.res;obtain ⟨j0,j1,j2,j3,j4,j5⟩:=zB p4.res))
  all_goals
   have q:=zC p4.res (aa K) (aa O) (aa S) (.slice a Z.length c) (.string D) (.slice none 0 0);obtain ⟨u0,u1,u2,u3,u4,u5⟩:=gB q;go_wp2;refine bF (v:=.tuple #[iY K O S a Z.length c D none 0 0,.bool true]) (by simp[results,results137,go_sem,u0,u1,u2,u3,u4,u5]) rfl (HY.out _ _ _ _ _ _ _ hp (zD p4.au (av _) _ _ _ _ _ _) hc ?_ (av _) (Or.inl rfl));exact (EV o4 (by simp at hbz;omega) _ _ _ _ _ _).mono (by simp at hbz;omega)
 obtain ⟨⟨s0,s1⟩,zl,s2,hpk,-⟩:=nj gI;rw[gI] at hA;rw[hE] at HY;have HP:Hid (dD mem i=dh D):=hp;clear gI nj hE hp;have hds:Hid (∀ W c a,aK W a Z->Calls prog 20 #[.string mem,aO K O S a Z.length c] W (aV (.string D) W)):=fun W c a h=>by rw[hdat];exact BL mem K O S a c Z W hm hpk zl s0 s2 h
 clear hdat;go_enter func137,ntmps137;go_wp2_with (first
  | (go_at_call 17;refine (gP _ _).mono ?_;rintro e wq ⟨rfl,rfl⟩)
  | (go_at_call 16;refine (hpt.out _).mono ?_;rintro e w1 ⟨rfl,b1⟩)
  | (go_at_call 184;refine (hG.out _).mono ?_;intro e w2 hans;obtain ⟨a,c,rfl,ho,hc,b2⟩:=hA.out _ _ _ hans;clear hans;have p2:=zF (k:=K) (o:=O) (t:=S) (a:=a) (n:=Z.length) (c:=c) (b1.trans (b2.mono b1.size));have y0:=p2.nb.c0;have y1:=p2.nb.c1;have y2:=p2.nb.c2;have y3:=p2.nb.c3;have r2:=ho.row.alloc (.cells (bj K O S a Z.length c) 35);have o2:=ho.alloc (.cells (bj K O S a Z.length c) 35))
  | (go_at_call 20;refine (hds.out _ _ _ r2).mono ?_;rintro e w3 ⟨rfl,b3⟩;have p3:=p2.below b3;have o3:=o2.below b3)
  | (go_at_call 27;refine (hgd.out _).mono ?_;intro e w4 hans;obtain ⟨ae,ce,rfl,hoe,hce,b4⟩:=HD.out _ _ _ hans;clear hans;have p4:=p3.below b4;have o4:=o3.below b4;have z0:=p4.nb.c0;have z1:=p4.nb.c1;have z2:=p4.nb.c2;have z3:=p4.nb.c3;obtain ⟨i0,i1,i2,i3,i4,i5⟩:=gB p4.res;obtain ⟨j0,j1,j2,j3,j4,j5⟩:=zB p4.res))
 have q:=zC p4.res (aa K) (aa O) (aa S) (.slice a Z.length c) (.string ⟨#[]⟩) (.slice ae (dy D).length ce);obtain ⟨u0,u1,u2,u3,u4,u5⟩:=gB q;have hbl:=zD p4.au (av _) (aa K) (aa O) (aa S) (.slice a Z.length c) (.string ⟨#[]⟩) (.slice ae (dy D).length ce);have hbz:=b1.size;have hp3:=p3.res.lt;refine bF (v:=.tuple #[iY K O S a Z.length c ⟨#[]⟩ ae (dy D).length ce,.bool (dh D)]) (by simp[results,results137,go_sem,u0,u1,u2,u3,u4,u5]) rfl ?_;cases hI:dh D with
 | false=>exact HN.out _ _ _ _ _ _ _ _ _ _ _ (HP.out.trans hI) hbl
 | true=>
  refine HY.out _ _ _ _ _ _ _ (HP.out.trans hI) hbl hc ?_ hce ?_;·exact (EV o4 (by simp at hbz;omega) _ _ _ _ _ _).mono (by simp at hbz;omega)
  ·exact (PY hoe hp3 _ _ _ _ _ _).mono (pJ hp3)
end
section
def pT (mem:ByteArray) (i:Int) (w:World) (e:Ending) (w':World):Prop:=∃ a c,e=.returned (.tuple #[aO (bO mem i) (cB mem i) (cX mem i) a (bV mem i).length c,.string (dj mem i),.bool (cI mem i)])/\aR w.heap.size w' a (bV mem i)/\(bV mem i).length<=c/\ah w w'
theorem EY {mem:ByteArray} {i:Int} {w w':World} (h:cI mem i=false) (hb:ah w w'):pT mem i w (.returned (.tuple #[aO 0 0 0 none 0 0,.string ⟨#[]⟩,.bool false])) w':=by obtain ⟨h1,h2,h3,h4,h5⟩:=I8 h;exact ⟨none,0,by rw[h1,h2,h3,h4,h5,h];rfl,by rw[h4];exact Or.inl rfl,by rw[h4];exact av _,hb⟩
theorem P4 {mem:ByteArray} {i:Int} {w w':World} {a:Option Addr} {c:Nat} (h:cI mem i=true) (ho:aR w.heap.size w' a (aD (aj mem i))) (hc:(aD (aj mem i)).length<=c) (hb:ah w w'):pT mem i w (.returned (.tuple #[aO (bg (aj mem i)) (bI (aj mem i)) (bU (aj mem i)) a (aD (aj mem i)).length c,.string ((di mem (aD (aj mem i)) (aD (aj mem i)).length).extract 0 (bU (aj mem i)).toNat),.bool true])) w':=by obtain ⟨h1,h2,h3,h4,h5⟩:=I9 h;exact ⟨a,c,by rw[h1,h2,h3,h4,h5,h],by rw[h4];exact ho,by rw[h4];exact hc,hb⟩
theorem P5 {s:ByteArray} {W:World} (hs:s.size<=281474976710656) (h:bM s=true) {v:Value->Value} (hv:∀ x,lN (aW s 0) x=v x):Calls prog 15 #[.string s] W fun e w'=>∃ a c,e=.returned (.tuple #[v (aO (bg s) (bI s) (bU s) a (aD s).length c),.bool true])/\aR W.heap.size w' a (aD s)/\(aD s).length<=c/\ah W w':=by obtain ⟨e1,e2,e3,e4⟩:=zp h;rw[e1,e2,e3,e4];exact Ey hs h hv
structure xf (w:World) (B:Nat) (k o s:Int) (a:Option Addr) (zs:List Int) (c:Nat) (W:World):Prop where
 rs:oB w a zs W
 nb:az B (fO k o s a zs.length c) W
 ne:w.heap.size<B
variable {w W W' : World} {B : Nat} {k o s : Int} {a : Option Addr} {zs : List Int} {c : Nat}
theorem xf.below (h:xf w B k o s a zs c W) (hb:ah W W'):xf w B k o s a zs c W':=⟨h.rs.below hb,h.nb.below hb,h.ne⟩
theorem xf.drew (h:xf w B k o s a zs c W):xf w B k o s a zs c W.drew:=⟨⟨h.rs.res.drew,h.rs.own.drew,h.rs.au.drew⟩,h.nb.drew,h.ne⟩
theorem Jr (h:oB w a zs W):xf w W.heap.size k o s a zs c (W.alloc (.cells (bj k o s a zs.length c) 35)):=⟨h.below (aA _ _),aY (fO k o s a zs.length c) W 35,h.res.lt⟩
theorem P6 (T:TypeId) (mem:ByteArray) (i:Int) (w:World) (hm:mem.size=768) (hI:bM (aj mem i)=true) (hL:cI mem i=true) (hT:∀ x,lN (aW (aj mem i) 0) x=.iface T x) (hF:∀ k o s a n c W,Calls prog 18 #[.iface T (aO k o s a n c)] W (aV (.bool false) W)) (hO:∀ k o s a n c W,Calls prog 19 #[.iface T (aO k o s a n c)] W (aV (aO k o s a n c) W)):Calls prog 6 #[.string mem,aa i] w (pT mem i w):=by
 have hms:mem.size<=281474976710656:=by omega
 have g8:((mem.size:Int) != 768)=false:=by simp;omega
 have hrs:=vg mem i hms;have hg:=pQ hI;have HF:Hid (∀ a c w',aR w.heap.size w' a (aD (aj mem i))->(aD (aj mem i)).length<=c->ah w w'->pT mem i w (.returned (.tuple #[aO (bg (aj mem i)) (bI (aj mem i)) (bU (aj mem i)) a (aD (aj mem i)).length c,.string ((di mem (aD (aj mem i)) (aD (aj mem i)).length).extract 0 (bU (aj mem i)).toNat),.bool true])) w'):=fun a c w'=>P4 hL;have hr:Hid (∀ W,Calls prog 15 #[.string (aj mem i)] W fun e w'=>∃ a c,e=.returned (.tuple #[.iface T (aO (bg (aj mem i)) (bI (aj mem i)) (bU (aj mem i)) a (aD (aj mem i)).length c),.bool true])/\aR W.heap.size w' a (aD (aj mem i))/\(aD (aj mem i)).length<=c/\ah W w'):=fun W=>P5 hrs hI hT;have hpt:Hid (∀ W,Calls prog 16 #[.string mem,aa (aZ i),aa 16] W (aV (.string (aj mem i)) W)):=fun W=>lM _ _ _ _ hms;have hFF:Hid (∀ k o s a n c W,Calls prog 18 #[.iface T (aO k o s a n c)] W (aV (.bool false) W)):=hF;have hOO:Hid (∀ k o s a n c W,Calls prog 19 #[.iface T (aO k o s a n c)] W (aV (aO k o s a n c) W)):=hO;clear hT hI hL hrs hF hO;obtain ⟨R,hR⟩:∃ R,aj mem i=R:=⟨_,rfl⟩;rw[hR] at hg HF hr hpt;obtain ⟨K,hK⟩:∃ K,bg R=K:=⟨_,rfl⟩;obtain ⟨O,hO⟩:∃ O,bI R=O:=⟨_,rfl⟩;obtain ⟨S,hS⟩:∃ S,bU R=S:=⟨_,rfl⟩;obtain ⟨Z,hZ⟩:∃ Z,aD R=Z:=⟨_,rfl⟩;rw[hK,hO,hS,hZ] at HF hr;rw[hK,hS,hZ] at hg;obtain ⟨⟨s0,s1⟩,zl,s2,hp,-⟩:=hg;clear hK hO hS hZ hR;have hl0:=aA w (.cells (bj 0 0 0 none 0 0) 35);go_enter func6,ntmps6;go_wp2_with (first
  | (go_at_call 17;refine (gP _ _).mono ?_;rintro e w' ⟨rfl,rfl⟩)
  | (go_at_call 16;refine (hpt.out _).mono ?_;rintro e w1 ⟨rfl,b1⟩)
  | (go_at_call 15;refine (hr.out _).mono ?_;rintro e w2 ⟨a,c,rfl,ho,hc,b2⟩;have r2:oB w a Z w2:=tO (b1.trans (b2.mono b1.size)) (ho.mono b1.size))
  | (go_at_call 18;refine (hFF.out _ _ _ _ _ _ _).mono ?_;rintro e w3 ⟨rfl,b3⟩;have r3:=r2.below b3)
  | (go_at_call 19;refine (hOO.out _ _ _ _ _ _ _).mono ?_;rintro e w4 ⟨rfl,b4⟩;have r4:=r3.below b4;have l4:=Jr (k:=K) (o:=O) (s:=S) (c:=c) r4))
 have l5:=l4.drew;have hRd:aK (w4.alloc (.cells (bj K O S a Z.length c) 35)).drew a Z:=l5.rs.own.row;go_region_with ((go_at_call 20;refine (BL mem _ _ _ _ _ Z _ hm hp zl s0 s2 hRd).mono ?_;rintro e w5 ⟨rfl,b5⟩;have l6:=l5.below b5;have x0:=l6.nb.c0;have x1:=l6.nb.c1;have x2:=l6.nb.c2;have x3:=l6.nb.c3;have c0:=l6.rs.res.c0;have c1:=l6.rs.res.c1;have c2:=l6.rs.res.c2;have c3:=l6.rs.res.c3;have f0:=l6.rs.res.f0;have f1:=l6.rs.res.f1;have f2:=l6.rs.res.f2;have f3:=l6.rs.res.f3))
 all_goals
  have q:=l6.rs.res.dQ (aa K) (aa O) (aa S) (.slice a Z.length c);have d:=l6.rs.done (aa K) (aa O) (aa S) (.slice a Z.length c);go_wp2;exact bF (v:=.tuple #[aO K O S a Z.length c,.string ((di mem Z Z.length).extract 0 S.toNat),.bool true]) (by simp[results,results6,go_sem,q.c0,q.c1,q.c2,q.c3]) rfl (HF.out _ _ _ d.1 hc d.2)
end
section
def lp (mem:ByteArray) (d:ai) (x:Int):Bool:=bC d.fr x && (bM (aj mem x) && (!decide (bg (aj mem x)=0) && (!(decide (bg (aj mem x)=2) && !decide (bU (aj mem x)=0)) && (decide (bI (aj mem x)=d.cl) && oD (aD (aj mem x)) d.po))))
def xg (mem:ByteArray) (d:ai) (x:Int) (w:World) (e:Ending) (w':World):Prop:=∃ (k o t:Int) (a:Option Addr) (n c:Nat),e=.returned (.tuple #[aO k o t a n c,.bool (lp mem d x)])/\ah w w'/\(lp mem d x=true->n=(aD (aj mem x)).length/\n<=c/\aR w.heap.size w' a (aD (aj mem x)))
theorem abi {mem:ByteArray} {d:ai} {x:Int} {w w':World} {k o t:Int} {a:Option Addr} {n c:Nat} (h:lp mem d x=false) (hb:ah w w'):xg mem d x w (.returned (.tuple #[aO k o t a n c,.bool false])) w':=⟨k,o,t,a,n,c,by rw[h],hb,fun h'=>by rw[h] at h';cases h'⟩
theorem abj {mem:ByteArray} {d:ai} {x:Int} {w w':World} {k o t:Int} {a:Option Addr} {c:Nat} (h:lp mem d x=true) (hb:ah w w') (hc:(aD (aj mem x)).length<=c) (ho:aR w.heap.size w' a (aD (aj mem x))):xg mem d x w (.returned (.tuple #[aO k o t a (aD (aj mem x)).length c,.bool true])) w':=⟨k,o,t,a,_,c,by rw[h],hb,fun _=>⟨rfl,hc,ho⟩⟩
theorem abk (mem:ByteArray) (d:ai) (x:Int):(bC d.fr x=false/\lp mem d x=false)\/(bC d.fr x=true/\bM (aj mem x)=false/\lp mem d x=false)\/(bC d.fr x=true/\bM (aj mem x)=true/\(bg (aj mem x) == 0)=true/\lp mem d x=false)\/(bC d.fr x=true/\bM (aj mem x)=true/\(bg (aj mem x) == 0)=false/\(bg (aj mem x) == 2)=true/\(bU (aj mem x) != 0)=true/\lp mem d x=false)\/(bC d.fr x=true/\bM (aj mem x)=true/\(bg (aj mem x) == 0)=false/\((bg (aj mem x) == 2)=true/\(bU (aj mem x) != 0)=false\/(bg (aj mem x) == 2)=false)/\lp mem d x=((bI (aj mem x) == d.cl) && oD (aD (aj mem x)) d.po)):=by
 unfold lp;cases h1:bC d.fr x with
 | false=>exact Or.inl ⟨rfl,dC _⟩
 | true=>
  right;rw[fJ];cases h2:bM (aj mem x) with
  | false=>exact Or.inl ⟨rfl,rfl,dC _⟩
  | true=>
   right;rw[fJ];by_cases h3:bg (aj mem x)=0;·exact Or.inl ⟨rfl,rfl,by simpa using h3,by rw[bK h3,tG,dC]⟩
   ·right;have h3':(bg (aj mem x) == 0)=false:=by simpa using h3
    have hcl:decide (bI (aj mem x)=d.cl)=(bI (aj mem x) == d.cl):=by
     by_cases h:bI (aj mem x)=d.cl;·rw[bK h];simp[h]
     rw[bA h];symm;simpa using h
    rw[bA h3,Oc,fJ,hcl];by_cases h4:bg (aj mem x)=2
    ·have h4':(bg (aj mem x) == 2)=true:=by simpa using h4
     rw[bK h4,fJ,Bool.not_not];by_cases h5:bU (aj mem x)=0
     ·right;exact ⟨rfl,rfl,h3',Or.inl ⟨h4',by simpa using h5⟩,by rw[bK h5,fJ]⟩
     left;exact ⟨rfl,rfl,h3',h4',by simpa using h5,by rw[bA h5,dC]⟩
    right;exact ⟨rfl,rfl,h3',Or.inr (by simpa using h4),by rw[bA h4,dC,Oc,fJ]⟩
structure EZ (w:World) (ts:List Value) (k o t:Int) (a:Option Addr) (n c B:Nat) (W:World):Prop where
 box:az w.heap.size ts W
 res:az (w.heap.size+1) (fO 0 0 0 none 0 0) W
 nb:az B (fO k o t a n c) W
 au:ah w W
variable {w W W' : World}
theorem EZ.below {ts:List Value} {k o t:Int} {a:Option Addr} {n c B:Nat} (h:EZ w ts k o t a n c B W) (hb:ah W W'):EZ w ts k o t a n c B W':=⟨h.box.below hb,h.res.below hb,h.nb.below hb,h.au.trans (hb.mono h.au.size)⟩
abbrev E3 (w:World) (o:Obj):World:=(w.alloc o).alloc (.cells #[.int .i64 0,.int .i64 0,.int .i64 0,.slice none 0 0] 35)
theorem E5 (w:World) (o:Obj):ah w (E3 w o):=((aQ _ _).alloc (av _) _).alloc (by simp) _
theorem E6 {ts:List Value} {T:TypeId} {k o t:Int} {a:Option Addr} {n c:Nat} (hb:ah (E3 w (.cells ts.toArray T)) W):EZ w ts k o t a n c W.heap.size (W.alloc (.cells (bj k o t a n c) 35)):=
  ⟨(((aY ts w T).alloc _).below hb).alloc _,((dR (fO 0 0 0 none 0 0) _ 35 (by simp)).below hb).alloc _,aY (fO k o t a n c) W 35,
   ((E5 w _).trans (hb.mono (E5 w _).size)).alloc (br (E5 w _).size hb.size) _⟩
theorem abl (k o t:Int) (a:Option Addr) (n c:Nat) (ae:Option Addr) (ne ce:Nat) (d:ai) (s:aI) (mem:ByteArray) (x:Int) (w:World) (hms:mem.size<=281474976710656) (hpo:d.po.length<=1048576) (hfr:d.fr.length<=1048576) (R2:aK w s.a2 d.po) (R3:aK w s.a3 d.fr):Calls prog 278 #[cz k o t a n c ae ne ce d s,.string mem,aa x] w (xg mem d x w):=by
 have hrs:=vg mem x hms;have VT:=E5 w (fg k o t a n c ae ne ce d s);have HR2:Hid (∀ W,ah w W->aK W s.a2 d.po):=fun W hb=>R2.below hb;have hct:Calls prog 141 #[.slice s.a3 d.fr.length s.c3,aa x] (E3 w (fg k o t a n c ae ne ce d s)) fun e w'=>e=.returned (.bool (bC d.fr x))/\w'=E3 w (fg k o t a n c ae ne ce d s):=pR _ _ _ _ _ (by omega) (R3.below VT);have hpt:Hid (∀ W,Calls prog 16 #[.string mem,aa (aZ x),aa 16] W (aV (.string (aj mem x)) W)):=fun W=>lM _ _ _ _ hms;have hG:Hid (∀ W,Calls prog 184 #[.string (aj mem x)] W (gR (aj mem x) W)):=fun W=>BC _ W hrs;have hA:Hid (∀ W e w',gR (aj mem x) W e w'->∃ a c,e=.returned (.tuple #[aO (bg (aj mem x)) (bI (aj mem x)) (bU (aj mem x)) a (aD (aj mem x)).length c,.bool (bM (aj mem x))])/\aR W.heap.size w' a (aD (aj mem x))/\(aD (aj mem x)).length<=c/\ah W w'):=fun W e w' h=>h;have hzl:(aD (aj mem x)).length<=281474976710656:=by
  unfold aD;split;·rw[uZ];have:=va (aj mem x);omega
  exact bh _
 have HN:Hid (∀ k o t a n c w',lp mem d x=false->ah w w'->xg mem d x w (.returned (.tuple #[aO k o t a n c,.bool false])) w'):=fun k o t a n c w' h hb=>abi h hb;have HY:Hid (∀ k o t a c w',lp mem d x=true->ah w w'->(aD (aj mem x)).length<=c->aR w.heap.size w' a (aD (aj mem x))->xg mem d x w (.returned (.tuple #[aO k o t a (aD (aj mem x)).length c,.bool true])) w'):=fun k o t a c w' h hb hc ho=>abj h hb hc ho;have hcase:=abk mem d x;obtain ⟨R,hR⟩:∃ R,xg mem d x w=R:=⟨_,rfl⟩;rw[hR] at HN HY ⊢;obtain ⟨Q,hQ⟩:∃ Q,aj mem x=Q:=⟨_,rfl⟩;rw[hQ] at hpt hG hA HY hcase hzl;obtain ⟨K,hK⟩:∃ K,bg Q=K:=⟨_,rfl⟩;obtain ⟨O,hO⟩:∃ O,bI Q=O:=⟨_,rfl⟩;obtain ⟨S,hS⟩:∃ S,bU Q=S:=⟨_,rfl⟩;obtain ⟨Z,hZ⟩:∃ Z,aD Q=Z:=⟨_,rfl⟩;rw[hK,hO,hS,hZ] at hA hcase;rw[hZ] at HY hzl;clear hR hQ hK hO hS hZ hrs R2 R3;rcases hcase with ⟨gh,hp⟩ | ⟨gh,gI,hp⟩ | ⟨gh,gI,g0,hp⟩ | ⟨gh,gI,g0,g2,gS,hp⟩ | ⟨gh,gI,g0,g2,hp⟩
 ·rw[gh] at hct;clear gh;go_enter func278,ntmps278;go_wp2_with (go_at_call 141;refine hct.mono ?_;rintro e wc ⟨rfl,rfl⟩);refine bF (v:=.tuple #[aO 0 0 0 none 0 0,.bool false]) (by simp[results,results278,go_sem]) rfl (HN.out _ _ _ _ _ _ _ hp ?_);go_grown
 ·rw[gh] at hct;rw[gI] at hA;clear gh gI;go_enter func278,ntmps278;go_wp2_with (first
   | (go_at_call 141;refine hct.mono ?_;rintro e wc ⟨rfl,rfl⟩)
   | (go_at_call 17;refine (gP _ _).mono ?_;rintro e wq ⟨rfl,rfl⟩)
   | (go_at_call 16;refine (hpt.out _).mono ?_;rintro e w1 ⟨rfl,b1⟩)
   | (go_at_call 184;refine (hG.out _).mono ?_;intro e w2 hans;obtain ⟨a',c',rfl,ho,hc,b2⟩:=hA.out _ _ _ hans;clear hans;have p2:=E6 (ts:=lj k o t a n c ae ne ce d s) (T:=127) (k:=K) (o:=O) (t:=S) (a:=a') (n:=Z.length) (c:=c') (b1.trans (b2.mono b1.size));have c0:=p2.res.c0;have c1:=p2.res.c1;have c2:=p2.res.c2;have c3:=p2.res.c3;have f0:=p2.res.f0;have f1:=p2.res.f1;have f2:=p2.res.f2;have f3:=p2.res.f3))
  have q:=p2.res.dQ (aa 0) (aa 0) (aa 0) (.slice none 0 0);have hbl:ah w _:=((((p2.au.setCell (p:=⟨w.heap.size+1,0,none⟩) (ix _ _) (aa 0)).setCell (p:=⟨w.heap.size+1,1,none⟩) (ix _ _) (aa 0)).setCell (p:=⟨w.heap.size+1,2,none⟩) (ix _ _) (aa 0)).setCell (p:=⟨w.heap.size+1,3,none⟩) (ix _ _) (.slice none 0 0));exact bF (v:=.tuple #[aO 0 0 0 none 0 0,.bool false]) (by simp[results,results278,go_sem,q.c0,q.c1,q.c2,q.c3]) rfl (HN.out _ _ _ _ _ _ _ hp hbl)
 ·rw[gh] at hct;rw[gI] at hA;clear gh gI;go_enter func278,ntmps278;go_wp2_with (first
   | (go_at_call 141;refine hct.mono ?_;rintro e wc ⟨rfl,rfl⟩)
   | (go_at_call 17;refine (gP _ _).mono ?_;rintro e wq ⟨rfl,rfl⟩)
   | (go_at_call 16;refine (hpt.out _).mono ?_;rintro e w1 ⟨rfl,b1⟩)
   | (go_at_call 184;refine (hG.out _).mono ?_;intro e w2 hans;obtain ⟨a',c',rfl,ho,hc,b2⟩:=hA.out _ _ _ hans;clear hans;have p2:=E6 (ts:=lj k o t a n c ae ne ce d s) (T:=127) (k:=K) (o:=O) (t:=S) (a:=a') (n:=Z.length) (c:=c') (b1.trans (b2.mono b1.size));have y0:=p2.nb.c0;have c0:=p2.res.c0;have c1:=p2.res.c1;have c2:=p2.res.c2;have c3:=p2.res.c3;have f0:=p2.res.f0;have f1:=p2.res.f1;have f2:=p2.res.f2;have f3:=p2.res.f3))
  have q:=p2.res.dQ (aa 0) (aa 0) (aa 0) (.slice none 0 0);have hbl:ah w _:=((((p2.au.setCell (p:=⟨w.heap.size+1,0,none⟩) (ix _ _) (aa 0)).setCell (p:=⟨w.heap.size+1,1,none⟩) (ix _ _) (aa 0)).setCell (p:=⟨w.heap.size+1,2,none⟩) (ix _ _) (aa 0)).setCell (p:=⟨w.heap.size+1,3,none⟩) (ix _ _) (.slice none 0 0));exact bF (v:=.tuple #[aO 0 0 0 none 0 0,.bool false]) (by simp[results,results278,go_sem,q.c0,q.c1,q.c2,q.c3]) rfl (HN.out _ _ _ _ _ _ _ hp hbl)
 ·rw[gh] at hct;rw[gI] at hA;clear gh gI;go_enter func278,ntmps278;go_wp2_with (first
   | (go_at_call 141;refine hct.mono ?_;rintro e wc ⟨rfl,rfl⟩)
   | (go_at_call 17;refine (gP _ _).mono ?_;rintro e wq ⟨rfl,rfl⟩)
   | (go_at_call 16;refine (hpt.out _).mono ?_;rintro e w1 ⟨rfl,b1⟩)
   | (go_at_call 184;refine (hG.out _).mono ?_;intro e w2 hans;obtain ⟨a',c',rfl,ho,hc,b2⟩:=hA.out _ _ _ hans;clear hans;have p2:=E6 (ts:=lj k o t a n c ae ne ce d s) (T:=127) (k:=K) (o:=O) (t:=S) (a:=a') (n:=Z.length) (c:=c') (b1.trans (b2.mono b1.size));have y0:=p2.nb.c0;have y2:=p2.nb.c2;have c0:=p2.res.c0;have c1:=p2.res.c1;have c2:=p2.res.c2;have c3:=p2.res.c3;have f0:=p2.res.f0;have f1:=p2.res.f1;have f2:=p2.res.f2;have f3:=p2.res.f3))
  have q:=p2.res.dQ (aa 0) (aa 0) (aa 0) (.slice none 0 0);have hbl:ah w _:=((((p2.au.setCell (p:=⟨w.heap.size+1,0,none⟩) (ix _ _) (aa 0)).setCell (p:=⟨w.heap.size+1,1,none⟩) (ix _ _) (aa 0)).setCell (p:=⟨w.heap.size+1,2,none⟩) (ix _ _) (aa 0)).setCell (p:=⟨w.heap.size+1,3,none⟩) (ix _ _) (.slice none 0 0));exact bF (v:=.tuple #[aO 0 0 0 none 0 0,.bool false]) (by simp[results,results278,go_sem,q.c0,q.c1,q.c2,q.c3]) rfl (HN.out _ _ _ _ _ _ _ hp hbl)
 rw[gh] at hct;rw[gI] at hA;have HP:Hid (lp mem d x=((O == d.cl) && oD Z d.po)):=hp;clear gh gI hp;have hgo:Calls prog 278 #[cz k o t a n c ae ne ce d s,.string mem,aa x] w R:=by
  rcases g2 with ⟨g2,gS⟩ | g2;all_goals
   go_enter func278,ntmps278;go_wp2_with (first
  | (go_at_call 141;refine hct.mono ?_;rintro e wc ⟨rfl,rfl⟩)
  | (go_at_call 17;refine (gP _ _).mono ?_;rintro e wq ⟨rfl,rfl⟩)
  | (go_at_call 16;refine (hpt.out _).mono ?_;rintro e w1 ⟨rfl,b1⟩)
  | (go_at_call 184;refine (hG.out _).mono ?_;intro e w2 hans;obtain ⟨a',c',rfl,ho,hc,b2⟩:=hA.out _ _ _ hans;clear hans;have p2:=E6 (ts:=lj k o t a n c ae ne ce d s) (T:=127) (k:=K) (o:=O) (t:=S) (a:=a') (n:=Z.length) (c:=c') (b1.trans (b2.mono b1.size));have y0:=p2.nb.c0;have y1:=p2.nb.c1;have y2:=p2.nb.c2;have y3:=p2.nb.c3))
   have bd:ah (w2.alloc (.cells (bj K O S a' Z.length c') 35)) (w2.alloc (.cells (bj K O S a' Z.length c') 35)).drew:=(aQ _ _).drew;have p3:=p2.below bd;have o3:=(ho.alloc (.cells (bj K O S a' Z.length c') 35)).below bd;have hbz:=b1.size;have hb2z:=b2.size;simp at hbz;have pE:w.heap.size+2<=w2.heap.size:=by omega
   replace o3:=o3.mono (base':=w.heap.size+2) (by omega);obtain ⟨V,hV⟩:∃ V,w2.alloc (.cells (bj K O S a' Z.length c') 35)=V:=⟨_,rfl⟩;obtain ⟨Bn,Ni⟩:∃ Bn,w2.heap.size=Bn:=⟨_,rfl⟩;rw[hV] at p3 o3;rw[Ni] at p3 pE;simp only[Ni];rw[hV];have qr:=p3.res.dQ (aa K) (aa O) (aa S) (.slice a' Z.length c');have qb:=(((p3.box.aP (B':=w.heap.size+1) (by omega) 0 (aa K)).aP (B':=w.heap.size+1) (by omega) 1 (aa O)).aP (B':=w.heap.size+1) (by omega) 2 (aa S)).aP (B':=w.heap.size+1) (by omega) 3 (.slice a' Z.length c');have qn:=(((p3.nb.aP (B':=w.heap.size+1) (by omega) 0 (aa K)).aP (B':=w.heap.size+1) (by omega) 1 (aa O)).aP (B':=w.heap.size+1) (by omega) 2 (aa S)).aP (B':=w.heap.size+1) (by omega) 3 (.slice a' Z.length c');have hbl:=((((p3.au.setCell (p:=⟨w.heap.size+1,0,none⟩) (ix _ _) (aa K)).setCell (p:=⟨w.heap.size+1,1,none⟩) (ix _ _) (aa O)).setCell (p:=⟨w.heap.size+1,2,none⟩) (ix _ _) (aa S)).setCell (p:=⟨w.heap.size+1,3,none⟩) (ix _ _) (.slice a' Z.length c'));have oq:=(((o3.set (B:=w.heap.size+1) (by omega) 0 (aa K)).set (B:=w.heap.size+1) (by omega) 1 (aa O)).set (B:=w.heap.size+1) (by omega) 2 (aa S)).set (B:=w.heap.size+1) (by omega) 3 (.slice a' Z.length c');have hal:=Jm a' s.a2 c' s.c2 Z d.po V.drew hzl (by omega) o3.row (HR2.out _ p3.au);have sx:V.drew.cell? ⟨Bn,0,none⟩=some (aa K)/\V.drew.cell? ⟨Bn,1,none⟩=some (aa O)/\V.drew.cell? ⟨Bn,2,none⟩=some (aa S)/\V.drew.cell? ⟨Bn,3,none⟩=some (.slice a' Z.length c')/\V.drew.cell? ⟨w.heap.size,6,none⟩=some (aa d.cl)/\V.drew.cell? ⟨w.heap.size,11,none⟩=some (.slice s.a2 d.po.length s.c2):=⟨p3.nb.c0,p3.nb.c1,p3.nb.c2,p3.nb.c3,p3.box.cell 6 (by simp),p3.box.cell 11 (by simp)⟩;have c0:=p3.res.c0;have c1:=p3.res.c1;have c2:=p3.res.c2;have c3:=p3.res.c3;have f0:=p3.res.f0;have f1:=p3.res.f1;have f2:=p3.res.f2;have f3:=p3.res.f3;have v0:=qr.c0;have v1:=qr.c1;have v2:=qr.c2;have v3:=qr.c3;obtain ⟨am,Yv⟩:∃ am,oD Z d.po=am:=⟨_,rfl⟩;rw[Yv] at hal HP;obtain ⟨ow,how⟩:∃ ow,(O == d.cl)=ow:=⟨_,rfl⟩;rw[how] at HP;clear hV Ni Yv y0 y1 y2 y3 p2 ho bd hct;cases ow with
   | false=>
    refine wp_region_held_drew (S:=fun W=>ad W Bn 0 (aa K)/\ad W Bn 1 (aa O)/\ad W Bn 2 (aa S)/\ad W Bn 3 (.slice a' Z.length c')/\ad W w.heap.size 6 (aa d.cl)/\ad W w.heap.size 11 (.slice s.a2 d.po.length s.c2)) (by kernel_rfl) sx ?_;intro _;generalize V.drew=Vd at *;refine aS 0 (aO K O S a' Z.length c') sx ?_;refine aS 1 (ao Bn 1) sx ?_;refine aS 2 (aa O) sx ?_;refine aS 3 (ao w.heap.size 5) sx ?_;refine aS 4 (ao w.heap.size 6) sx ?_;refine aS 5 (aa d.cl) sx ?_;refine aS 6 (.bool false) sx ?_;refine aT 7 (.bool false) sx ?_;refine bT 8 sx ?_;refine bT 9 sx ?_;refine bT 10 sx ?_;refine bT 11 sx ?_;refine bT 12 sx ?_;refine bT 13 sx ?_;refine aT 14 (.bool false) sx ?_;have tq:(((((Vd.setCell ⟨w.heap.size+1,0,none⟩ (aa K)).setCell ⟨w.heap.size+1,1,none⟩ (aa O)).setCell ⟨w.heap.size+1,2,none⟩ (aa S)).setCell ⟨w.heap.size+1,3,none⟩ (.slice a' Z.length c'))).cell? ⟨Bn,0,none⟩=some (aa K)/\(((((Vd.setCell ⟨w.heap.size+1,0,none⟩ (aa K)).setCell ⟨w.heap.size+1,1,none⟩ (aa O)).setCell ⟨w.heap.size+1,2,none⟩ (aa S)).setCell ⟨w.heap.size+1,3,none⟩ (.slice a' Z.length c'))).cell? ⟨Bn,1,none⟩=some (aa O)/\(((((Vd.setCell ⟨w.heap.size+1,0,none⟩ (aa K)).setCell ⟨w.heap.size+1,1,none⟩ (aa O)).setCell ⟨w.heap.size+1,2,none⟩ (aa S)).setCell ⟨w.heap.size+1,3,none⟩ (.slice a' Z.length c'))).cell? ⟨Bn,2,none⟩=some (aa S)/\(((((Vd.setCell ⟨w.heap.size+1,0,none⟩ (aa K)).setCell ⟨w.heap.size+1,1,none⟩ (aa O)).setCell ⟨w.heap.size+1,2,none⟩ (aa S)).setCell ⟨w.heap.size+1,3,none⟩ (.slice a' Z.length c'))).cell? ⟨Bn,3,none⟩=some (.slice a' Z.length c')/\(((((Vd.setCell ⟨w.heap.size+1,0,none⟩ (aa K)).setCell ⟨w.heap.size+1,1,none⟩ (aa O)).setCell ⟨w.heap.size+1,2,none⟩ (aa S)).setCell ⟨w.heap.size+1,3,none⟩ (.slice a' Z.length c'))).cell? ⟨w.heap.size,6,none⟩=some (aa d.cl)/\(((((Vd.setCell ⟨w.heap.size+1,0,none⟩ (aa K)).setCell ⟨w.heap.size+1,1,none⟩ (aa O)).setCell ⟨w.heap.size+1,2,none⟩ (aa S)).setCell ⟨w.heap.size+1,3,none⟩ (.slice a' Z.length c'))).cell? ⟨w.heap.size,11,none⟩=some (.slice s.a2 d.po.length s.c2):=⟨qn.c0,qn.c1,qn.c2,qn.c3,qb.cell 6 (by simp),qb.cell 11 (by simp)⟩
    refine gg (i:=15) (w':=(((Vd.setCell ⟨w.heap.size+1,0,none⟩ (aa K)).setCell ⟨w.heap.size+1,1,none⟩ (aa O)).setCell ⟨w.heap.size+1,2,none⟩ (aa S)).setCell ⟨w.heap.size+1,3,none⟩ (.slice a' Z.length c')) (by kernel_rfl) rfl (by rfl) ?_ tq ?_;·go_simp
    simp only[ar,Act.put,Nat.reduceAdd];refine aT 16 (.bool false) tq ?_;refine ek (by kernel_rfl) ?_ _;go_wp2;exact bF (v:=.tuple #[aO K O S a' Z.length c',.bool false]) (by simp[results,results278,go_sem,v0,v1,v2,v3]) rfl (HN.out _ _ _ _ _ _ _ (HP.out.trans (dC _)) hbl)
   | true=>
    refine wp_region_held_drew (S:=fun W=>ad W Bn 0 (aa K)/\ad W Bn 1 (aa O)/\ad W Bn 2 (aa S)/\ad W Bn 3 (.slice a' Z.length c')/\ad W w.heap.size 6 (aa d.cl)/\ad W w.heap.size 11 (.slice s.a2 d.po.length s.c2)) (by kernel_rfl) sx ?_;intro _;generalize V.drew=Vd at *;refine aS 0 (aO K O S a' Z.length c') sx ?_;refine aS 1 (ao Bn 1) sx ?_;refine aS 2 (aa O) sx ?_;refine aS 3 (ao w.heap.size 5) sx ?_;refine aS 4 (ao w.heap.size 6) sx ?_;refine aS 5 (aa d.cl) sx ?_;refine aS 6 (.bool true) sx ?_;refine aT 7 (.bool true) sx ?_;refine aS 8 (ao Bn 3) sx ?_;refine aS 9 (.slice a' Z.length c') sx ?_;refine aS 10 (ao w.heap.size 5) sx ?_;refine aS 11 (ao w.heap.size 11) sx ?_;refine aS 12 (.slice s.a2 d.po.length s.c2) sx ?_;refine lg (i:=13) (by kernel_rfl) rfl (by rfl) (.tmp 52) (.tmp 55) _ rfl (Value.slice a' Z.length c') (Value.slice s.a2 d.po.length s.c2) (by rfl) (by rfl) (bo func274 (by kernel_rfl) rfl) ((hal).mono ?_);rintro e wl ⟨rfl,hwl⟩;rw[hwl];refine ⟨_,rfl,sx,?_⟩;simp only[ar,Act.put,Nat.reduceAdd];refine aT 14 (.bool am) sx ?_
    have tq:(((((Vd.setCell ⟨w.heap.size+1,0,none⟩ (aa K)).setCell ⟨w.heap.size+1,1,none⟩ (aa O)).setCell ⟨w.heap.size+1,2,none⟩ (aa S)).setCell ⟨w.heap.size+1,3,none⟩ (.slice a' Z.length c'))).cell? ⟨Bn,0,none⟩=some (aa K)/\(((((Vd.setCell ⟨w.heap.size+1,0,none⟩ (aa K)).setCell ⟨w.heap.size+1,1,none⟩ (aa O)).setCell ⟨w.heap.size+1,2,none⟩ (aa S)).setCell ⟨w.heap.size+1,3,none⟩ (.slice a' Z.length c'))).cell? ⟨Bn,1,none⟩=some (aa O)/\(((((Vd.setCell ⟨w.heap.size+1,0,none⟩ (aa K)).setCell ⟨w.heap.size+1,1,none⟩ (aa O)).setCell ⟨w.heap.size+1,2,none⟩ (aa S)).setCell ⟨w.heap.size+1,3,none⟩ (.slice a' Z.length c'))).cell? ⟨Bn,2,none⟩=some (aa S)/\(((((Vd.setCell ⟨w.heap.size+1,0,none⟩ (aa K)).setCell ⟨w.heap.size+1,1,none⟩ (aa O)).setCell ⟨w.heap.size+1,2,none⟩ (aa S)).setCell ⟨w.heap.size+1,3,none⟩ (.slice a' Z.length c'))).cell? ⟨Bn,3,none⟩=some (.slice a' Z.length c')/\(((((Vd.setCell ⟨w.heap.size+1,0,none⟩ (aa K)).setCell ⟨w.heap.size+1,1,none⟩ (aa O)).setCell ⟨w.heap.size+1,2,none⟩ (aa S)).setCell ⟨w.heap.size+1,3,none⟩ (.slice a' Z.length c'))).cell? ⟨w.heap.size,6,none⟩=some (aa d.cl)/\(((((Vd.setCell ⟨w.heap.size+1,0,none⟩ (aa K)).setCell ⟨w.heap.size+1,1,none⟩ (aa O)).setCell ⟨w.heap.size+1,2,none⟩ (aa S)).setCell ⟨w.heap.size+1,3,none⟩ (.slice a' Z.length c'))).cell? ⟨w.heap.size,11,none⟩=some (.slice s.a2 d.po.length s.c2):=⟨qn.c0,qn.c1,qn.c2,qn.c3,qb.cell 6 (by simp),qb.cell 11 (by simp)⟩;refine gg (i:=15) (w':=(((Vd.setCell ⟨w.heap.size+1,0,none⟩ (aa K)).setCell ⟨w.heap.size+1,1,none⟩ (aa O)).setCell ⟨w.heap.size+1,2,none⟩ (aa S)).setCell ⟨w.heap.size+1,3,none⟩ (.slice a' Z.length c')) (by kernel_rfl) rfl (by rfl) ?_ tq ?_;·go_simp
    simp only[ar,Act.put,Nat.reduceAdd];refine aT 16 (.bool am) tq ?_;refine ek (by kernel_rfl) ?_ _;go_wp2;refine bF (v:=.tuple #[aO K O S a' Z.length c',.bool am]) (by simp[results,results278,go_sem,v0,v1,v2,v3]) rfl ?_;cases am with
    | false=>exact HN.out _ _ _ _ _ _ _ (HP.out.trans (eS _)) hbl
    | true=>exact HY.out _ _ _ _ _ _ (HP.out.trans rfl) hbl hc (oq.mono (by omega))
 exact hgo
end
section
def zG (d:ai) (x:Int):Bool:=bC (dt (dI d)) x
def BN (es:List aB) (k:Nat):Int:=(bl es k).1
def BO (mem:ByteArray) (d:ai) (es:List aB) (i:Nat):Bool:=zG d (BN es i) || lp mem d (BN es i)
def kJ (mem:ByteArray) (d:ai) (Z:List Int) (es:List aB):Nat->List Int
 | 0=>Z
 | k+1=>if zG d (BN es k) then kJ mem d Z es k else kJ mem d Z es k++aD (aj mem (BN es k))
def qX (mem:ByteArray) (d:ai) (Z:List Int) (es:List aB):Bool:=bX (BO mem d es) es.length && eE (kJ mem d Z es es.length)
theorem E8 (u:ByteArray):(aD u).length<=100:=by
 unfold aD;split
 ·rw[uZ];have:=va u;omega
 exact bh _
theorem P7 (mem:ByteArray) (d:ai) (Z:List Int) (es:List aB):∀ k,(kJ mem d Z es k).length<=Z.length+100*k
 | 0=>by simp[kJ]
 | k+1=>by
  have h:=P7 mem d Z es k;rw[kJ];split;·omega
  ·rw[de];have:=E8 (aj mem (BN es k));omega
structure vk (w:World) (ts ns:List Value) (W:World):Prop where
 box:az w.heap.size ts W
 nb:az (w.heap.size+1) ns W
 au:ah w W
 lt:w.heap.size+2<=W.heap.size
variable {w W W' : World} {ts ns : List Value}
theorem vk.below (h:vk w ts ns W) (hb:ah W W'):vk w ts ns W':=⟨h.box.below hb,h.nb.below hb,h.au.trans (hb.mono h.au.size),br h.lt hb.size⟩
theorem vk.keep (h:vk w ts ns W) (hb:Below (w.heap.size+2) W W'):vk w ts ns W':=⟨gd h.box hb (by omega),gd h.nb hb (by omega),h.au.trans (hb.mono (by omega)),br h.lt hb.size⟩
theorem abm (w:World) (ts ns:List Value) (T T':TypeId):vk w ts ns ((w.alloc (.cells ts.toArray T)).alloc (.cells ns.toArray T')):=⟨(aY ts w T).alloc _,dR ns _ T' (by simp),((aQ _ _).alloc (av _) _).alloc (by simp) _,by simp⟩
theorem qY {B:Nat} {x0 x1 x2 x3 x4:Value} {l:List Value} (h:az B (x0 :: x1 :: x2 :: x3 :: x4 :: l) W):ad W B 0 x0/\ad W B 1 x1/\ad W B 2 x2/\ad W B 3 x3/\ad W B 4 x4:=⟨h.cell 0 (by simp),h.cell 1 (by simp),h.cell 2 (by simp),h.cell 3 (by simp),h.cell 4 (by simp)⟩
theorem abn (k o t:Int) (a:Option Addr) (n c:Nat) (ae:Option Addr) (ce:Nat) (d:ai) (s:aI) (mem:ByteArray) (k2 o2 t2:Int) (a2:Option Addr) (c2:Nat) (x2:ByteArray) (dH:Option Addr) (dN:Nat) (Z:List Int) (es:List aB) (w:World) (hms:mem.size<=281474976710656) (hpo:d.po.length<=1048576) (hfr:d.fr.length<=1048576) (hZ:Z.length<=1000) (hes:es.length<=13) (hold:(dI d).length<=13) (P2:aK w s.a2 d.po) (P3:aK w s.a3 d.fr) (PE:cW w ae (dI d)) (PZ:aK w a2 Z) (PS:cW w dH es):Calls prog 275 #[cz k o t a n c ae (dI d).length ce d s,.string mem,iY k2 o2 t2 a2 Z.length c2 x2 dH es.length dN] w (aV (.bool (qX mem d Z es)) w):=by
 have e0:=abm w (lj k o t a n c ae (dI d).length ce d s) (pS k2 o2 t2 a2 Z.length c2 x2 dH es.length dN) 127 170;have HE:Hid (∀ W,ah w W->cW W ae (dI d)):=fun W hb=>PE.below hb;have HS:Hid (∀ W,ah w W->cW W dH es):=fun W hb=>PS.below hb;have DF:Hid (∀ x W,ah w W->Calls prog 278 #[cz k o t a n c ae (dI d).length ce d s,.string mem,aa x] W (xg mem d x W)):=fun x W hb=>abl k o t a n c ae _ ce d s mem x W hms hpo hfr (P2.below hb) (P3.below hb);have NP:Hid (∀ x W,ah w W->Calls prog 277 #[iX k o t a n c ae (dI d).length ce,aa x] W (aV (.bool (zG d x)) W)):=fun x W hb=>abe k o t a n c ae ce (dI d) x W (by omega) (PE.below hb);have HC:Hid (Calls prog 93 #[.slice a2 Z.length c2] ((w.alloc (fg k o t a n c ae (dI d).length ce d s)).alloc (.cells #[aa k2,aa o2,aa t2,.slice a2 Z.length c2,.string x2,.slice dH es.length dN] 170)) fun e w'=>∃ a' c',e=.returned (.slice a' Z.length c')/\bH (w.heap.size+2) w' a' Z.length c' Z/\ah ((w.alloc (fg k o t a n c ae (dI d).length ce d s)).alloc (.cells #[aa k2,aa o2,aa t2,.slice a2 Z.length c2,.string x2,.slice dH es.length dN] 170)) w'):=
  (PX a2 c2 Z _ hZ (PZ.below e0.au)).mono fun e w' ⟨a',c',he,hb,hl⟩=>⟨a',c',he,by simpa using hb,hl⟩
 obtain ⟨oE,YJ⟩:∃ oE,(dI d).length=oE:=⟨_,rfl⟩;rw[YJ] at e0 DF NP HC ⊢;clear PE PS PZ P2 P3 YJ HE;go_enter func275,ntmps275;go_wp2_with (go_at_call 93;refine HC.out.mono ?_;rintro e w1 ⟨a',c',rfl,hb1,l1⟩;have n1:=e0.below l1;obtain ⟨-,-,-,-,-,z5⟩:=gB n1.nb);go_loopw [7,19] (fun v i w'=>∃ (j cp:Nat) (p:Option Addr),j<=es.length/\i=aa j/\v=.slice p (kJ mem d Z es j).length cp/\bH (w.heap.size+2) w' p (kJ mem d Z es j).length cp (kJ mem d Z es j)/\bX (BO mem d es) j=true/\vk w (lj k o t a n c ae oE ce d s) (pS k2 o2 t2 a2 Z.length c2 x2 dH es.length dN) w') (fun _ i _=>es.length-(intOf i).toNat);case atStart=>exact ⟨0,c',a',bh _,rfl,rfl,hb1,rfl,n1⟩
 case round=>
 obtain ⟨j,cp,p,hj,rfl,rfl,hbuf,hok,hr⟩:=hrel;clear hb1 n1 e0 z5 l1 HC;have hgl:=P7 mem d Z es j;by_cases hlt:j<es.length
 ·obtain ⟨b,off,hab,_,hc⟩:=(HS.out _ hr.au).get hlt;obtain ⟨y1,y2⟩:=hc j hlt;have hat:BO mem d es j=(zG d (bl es j).1 || lp mem d (bl es j).1):=rfl;have hga:kJ mem d Z es (j+1)=if zG d (bl es j).1 then kJ mem d Z es j else kJ mem d Z es j++aD (aj mem (bl es j).1):=rfl
  obtain ⟨z,ez⟩:∃ z,bl es j=z:=⟨_,rfl⟩;rw[ez] at y1 y2 hat hga;obtain ⟨x,nm⟩:=z;simp only at y1 y2 hat hga;rw[hab];have e1:(0:Int)<=(j:Int):=by omega
  have e2:(j:Int)<(es.length:Int):=by omega
  have n0:=aA wr (.cells #[aa x,.string nm] 47);have kx:=aY [aa x,.string nm] wr 47;have h5:=hr.below n0;obtain ⟨c0,c1,c2',c3,c4⟩:=qY h5.box;clear ez hc;cases hh:zG d x with
  | true=>
   have HG:Hid (kJ mem d Z es (j+1)=kJ mem d Z es j):=by show _=_;rw[hga,hh];rfl
   have HO:Hid (bX (BO mem d es) (j+1)=true):=qQ hok (by rw[hat,hh];rfl);have mn:=NP.out x;rw[hh] at mn;clear hat hga hok DF hh;go_wp2_with (go_at_call 277;refine (mn _ h5.au).mono ?_;rintro e w5 ⟨rfl,b5⟩;have h6:=h5.below b5;have f6:=n0.trans (b5.mono n0.size));go_roundw;case rel=>exact ⟨j+1,cp,p,by omega,by go_num,by rw[HG.out],by rw[HG.out];exact hbuf.below f6,HO.out,hab ▸ h6⟩
   case measure=>simp[intOf];omega
  | false=>
   have mn:=NP.out x;rw[hh] at mn;have uH:Hid (∀ W,ah w W->Calls prog 278 #[cz k o t a n c ae oE ce d s,.string mem,aa x] W fun e w'=>∃ (k3 o3 t3:Int) (a3:Option Addr) (n3 c3:Nat),e=.returned (.tuple #[aO k3 o3 t3 a3 n3 c3,.bool (lp mem d x)])/\ah W w'/\(lp mem d x=true->n3=(aD (aj mem x)).length/\n3<=c3/\aR W.heap.size w' a3 (aD (aj mem x)))):=fun W hb=>DF.out x W hb;have hyl:=E8 (aj mem x);cases hn:lp mem d x with
   | true=>
    have HG:Hid (kJ mem d Z es (j+1)=kJ mem d Z es j++aD (aj mem x)):=by show _=_;rw[hga,hh];rfl
    have HO:Hid (bX (BO mem d es) (j+1)=true):=qQ hok (by rw[hat,hh,hn];rfl);rw[hn] at uH;obtain ⟨Y,hY⟩:∃ Y,aD (aj mem x)=Y:=⟨_,rfl⟩;rw[hY] at uH HG hyl;obtain ⟨G,hG⟩:∃ G,kJ mem d Z es j=G:=⟨_,rfl⟩;rw[hG] at HG hbuf hgl ⊢;clear hat hga hok DF hh hn hY hG;go_wp2_with (first
     | (go_at_call 277;refine (mn _ h5.au).mono ?_;rintro e w5 ⟨rfl,b5⟩;have h6:=h5.below b5;have f6:=n0.trans (b5.mono n0.size);have Nf:=kx.below b5;have q0:=Nf.c0;obtain ⟨d0,d1,d2,d3,d4,d5,d6,d7,d8,d9,d10,d11,d12⟩:=eG h6.box)
     | (go_at_call 278;refine (uH.out _ h6.au).mono ?_;rintro e w7 ⟨k3,o3,t3,a3,n3,c3,rfl,b7,hy⟩;obtain ⟨rfl,hcy,hoy⟩:=hy trivial;have n8:=aA w7 (.cells (bj k3 o3 t3 a3 Y.length c3) 35);have h8:=(h6.below b7).below n8;have f7:=f6.trans (b7.mono f6.size);have f8:=f7.trans (n8.mono f7.size);have hrow:=hoy.row.below n8;have aj2:=hbuf.below f8)
     | (at_builtin;refine tQ rfl (.tmp 38) (.tmp 40) rfl aj2 _ _ Y (by rfl) (by rfl) hrow (by omega) h8.lt ?_;intro a9 c9 w9 akU l9;have h9:=h8.keep l9))
    go_roundw;case rel=>exact ⟨j+1,c9,a9,by omega,by go_num,by rw[HG.out,de],by rw[HG.out,de];exact akU,HO.out,hab ▸ h9⟩
    case measure=>simp[intOf];omega
   | false=>
    have HR:Hid (qX mem d Z es=false):=by
     show qX mem d Z es=false
     rw[qX,qP hlt (by rw[hat,hh,hn];rfl),dC]
    rw[hn] at uH;clear hat hga hok DF hh hn;go_wp2_with (first
     | (go_at_call 277;refine (mn _ h5.au).mono ?_;rintro e w5 ⟨rfl,b5⟩;have h6:=h5.below b5;have f6:=n0.trans (b5.mono n0.size);have Nf:=kx.below b5;have q0:=Nf.c0;obtain ⟨d0,d1,d2,d3,d4,d5,d6,d7,d8,d9,d10,d11,d12⟩:=eG h6.box)
     | (go_at_call 278;refine (uH.out _ h6.au).mono ?_;rintro e w7 ⟨k3,o3,t3,a3,n3,c3,rfl,b7,hy⟩;have n8:=aA w7 (.cells (bj k3 o3 t3 a3 n3 c3) 35);have h8:=(h6.below b7).below n8))
    go_ret;exact ⟨cr HR.out.symm,h8.au⟩
 obtain rfl:j=es.length:=by omega
 have HR:Hid (eE (kJ mem d Z es es.length)=qX mem d Z es):=by show _=_;rw[qX,hok,fJ]
 have HP:=II p cp (kJ mem d Z es es.length) wr (by omega) hbuf.fits hbuf.own.row;clear hok hbuf;go_wp2_with (go_at_call 186;refine HP.mono ?_;rintro e w9 ⟨rfl,rfl⟩);go_ret;exact ⟨cr HR.out,hr.au⟩
end
end Go.Proofs.YtgpfmgaidbjcpaaGreatDoor
