/- Joined texts. -/
import Derived.Test.YtidmmopnkjbjoaaGreatDoorJpE
set_option linter.unusedVariables false
set_option linter.unusedSimpArgs false
set_option maxRecDepth 10000
set_option maxHeartbeats 16000000
namespace Go.Proofs.YtidmmopnkjbjoaaGreatDoor
open ChangeShapes WideShapes ChangeAt RowKit
open Go.Proofs.Tryz
theorem Yt (s:ByteArray) (w:World) (h16:s.size=16):Calls prog 228 #[.string s,ad (fC (cm s 2))] w fun e w'=>∃ a c,e=.returned (.slice a (cu s (bW s)).length c)/\bo w.heap.size w' a (cu s (bW s)).length c (cu s (bW s))/\aj w w':=by
 rw[wK];have hm:s.size<=maxLen:=by unfold maxLen;omega
 have hz:(s.size:Int)=16:=by omega
 have b0:=fq w (aq _);have l0:=aB w (.cells #[] 3);have hcl:=wL s;have hct:=Ox s;obtain ⟨N,hN⟩:∃ N,fC (cm s 2)=N:=⟨_,rfl⟩;rw[hN] at hct ⊢;obtain ⟨C,hC⟩:∃ C,bW s=C:=⟨_,rfl⟩;rw[hC] at hct hcl ⊢;clear hN hC;go_enter func228,ntmps228;go_wp2;go_loopw [5,6] (fun v i w'=>∃ (k c:Nat) (a:Option Addr),k<=C/\i=ad (4+(k:Int))/\v=.slice a k c/\bo w.heap.size w' a k c (cu s k)/\aj w w') (fun _ i _=>16-(intOf i).toNat);case atStart=>exact ⟨0,0,_,aS _,rfl,rfl,b0,l0⟩
 case round=>
 obtain ⟨k,c,a,hk,rfl,rfl,hbuf,hbel⟩:=hrel;clear b0 l0;by_cases hlt:k<C
 ·obtain ⟨h1,h2⟩:=(hct k).1 hlt;have e1:4+(k:Int)<16:=by omega
  have HS:Hid (cu s k ++ [aP s (4+(k:Int))]=cu s (k+1)):=Ov s k;go_wp2_with (first
   | (go_at_call 227;refine (yR _ _ _ hm).mono ?_;rintro e w' ⟨rfl,rfl⟩)
   | (at_builtin;refine yY rfl (.tmp 20) (.tmp 24) rfl hbuf _ (by rfl) (by rfl) (by omega) hbel.size ?_;intro g1 ij w1 mQ ko))
  go_roundw;case rel=>exact ⟨k+1,ij,_,by omega,by go_num,rfl,by rw[<- HS.out];exact mQ,hbel.trans ko⟩
  case measure=>simp[intOf];omega
 obtain rfl:k=C:=by omega
 by_cases h12:k<12
 ·have e1:4+(k:Int)<16:=by omega
  have e2:¬ (k:Int)<N:=fun h=>hlt ((hct k).2 ⟨h,h12⟩);have e3:decide ((k:Int)<N)=false:=by simpa using e2
  go_wp2;go_ret;exact ⟨a,c,rfl,hbuf,hbel⟩
 have e1:¬ 4+(k:Int)<16:=by omega
 have e3:decide (4+(k:Int)<16)=false:=by simpa using e1
 go_wp2;go_ret;exact ⟨a,c,rfl,hbuf,hbel⟩
theorem Yu (v:Value) (w:World):(Instr.typeAssert (.iface 292 v) 232 292 true).run prog w=.ok (.tuple #[v,.bool true]) w:=by kernel_rfl
theorem Yv (v:Value) (w:World):(Instr.typeAssert (.iface 265 v) 232 292 true).run prog w=.ok (.tuple #[bO 0 0 0 none 0 0,.bool false]) w:=by kernel_rfl
theorem Yw (v:Value) (w:World):(Instr.typeAssert (.iface 267 v) 232 292 true).run prog w=.ok (.tuple #[bO 0 0 0 none 0 0,.bool false]) w:=by kernel_rfl
theorem Yx (v:Value) (w:World):(Instr.typeAssert (.iface 265 v) 232 265 true).run prog w=.ok (.tuple #[v,.bool true]) w:=by kernel_rfl
theorem Yy (v:Value) (w:World):(Instr.typeAssert (.iface 267 v) 232 265 true).run prog w=.ok (.tuple #[bO 0 0 0 none 0 0,.bool false]) w:=by kernel_rfl
theorem Yz (v:Value) (w:World):(Instr.typeAssert (.iface 267 v) 232 267 false).run prog w=.ok v w:=by kernel_rfl
theorem YA (v:Value) (k o s:Int) (a:Option Addr) (n c:Nat) (hv:v=bO k o s a n c) (w:World):Calls prog 232 #[.iface 292 v] w (aT (.bool true) w):=by have ha:=Yu;subst hv;go_enter func232,ntmps232;go_wp2;go_ret;exact ⟨rfl,aB _ _⟩
theorem YC (v:Value) (k o s:Int) (a:Option Addr) (n c:Nat) (hv:v=bO k o s a n c) (w:World):Calls prog 232 #[.iface 265 v] w (aT (.bool false) w):=by have ha:=Yv;subst hv;go_enter func232,ntmps232;go_wp2;go_ret;exact ⟨rfl,aB _ _⟩
theorem YD (v:Value) (k o s:Int) (a:Option Addr) (n c:Nat) (hv:v=bO k o s a n c) (w:World):Calls prog 232 #[.iface 267 v] w (aT (.bool false) w):=by have ha:=Yw;subst hv;go_enter func232,ntmps232;go_wp2;go_ret;exact ⟨rfl,aB _ _⟩
theorem YE (k o s:Int) (a:Option Addr) (n c:Nat) (w:World):Calls prog 193 #[.iface 292 (bO k o s a n c)] w (aT (bO 0 0 0 none 0 0) w):=by have n0:=bu (eV 0 0 0 none 0 0) w 117;have l0:=aB w (.cells (bj 0 0 0 none 0 0) 117);go_enter func193,ntmps193;go_wp2_with (go_at_call 232;refine (YA _ k o s a n c rfl _).mono ?_;rintro e w1 ⟨rfl,b1⟩;have n1:=n0.below b1;have l1:=l0.trans (b1.mono l0.size);have c0:=n1.c0;have c1:=n1.c1;have c2:=n1.c2;have c3:=n1.c3;have f0:=n1.f0;have f1:=n1.f1;have f2:=n1.f2;have f3:=n1.f3);have q:=n1.eU (ad 0) (ad 0) (ad 0) (.slice none 0 0);refine bL (v:=bO 0 0 0 none 0 0) (by simp[results,results193,go_sem,q.c0,q.c1,q.c2,q.c3]) rfl ⟨rfl,?_⟩;exact (((l1.setCell (p:=⟨w.heap.size,0,none⟩) (aq _) _).setCell (p:=⟨w.heap.size,1,none⟩) (aq _) _).setCell (p:=⟨w.heap.size,2,none⟩) (aq _) _).setCell (p:=⟨w.heap.size,3,none⟩) (aq _) _
theorem YF (k o s:Int) (a:Option Addr) (n c:Nat) (w:World):Calls prog 193 #[.iface 265 (bO k o s a n c)] w (aT (bO k o s a n c) w):=by have ha:=Yx;have n0:=bu (eV 0 0 0 none 0 0) w 117;have l0:=aB w (.cells (bj 0 0 0 none 0 0) 117);go_enter func193,ntmps193;go_wp2_with (go_at_call 232;refine (YC _ k o s a n c rfl _).mono ?_;rintro e w1 ⟨rfl,b1⟩;have n1:=(n0.below b1).alloc (.cells (bj k o s a n c) 265);have l1:=(l0.trans (b1.mono l0.size)).alloc (bt l0.size b1.size) (.cells (bj k o s a n c) 265);have c0:=n1.c0;have c1:=n1.c1;have c2:=n1.c2;have c3:=n1.c3;have f0:=n1.f0;have f1:=n1.f1;have f2:=n1.f2;have f3:=n1.f3);have q:=n1.eU (ad k) (ad o) (ad s) (.slice a n c);refine bL (v:=bO k o s a n c) (by simp[results,results193,go_sem,q.c0,q.c1,q.c2,q.c3]) rfl ⟨rfl,?_⟩;exact (((l1.setCell (p:=⟨w.heap.size,0,none⟩) (aq _) _).setCell (p:=⟨w.heap.size,1,none⟩) (aq _) _).setCell (p:=⟨w.heap.size,2,none⟩) (aq _) _).setCell (p:=⟨w.heap.size,3,none⟩) (aq _) _
theorem YG (k o s:Int) (a:Option Addr) (n c:Nat) (w:World):Calls prog 193 #[.iface 267 (bO k o s a n c)] w (aT (bO k o s a n c) w):=by have ha:=Yy;have hb:=Yz;have n0:=bu (eV 0 0 0 none 0 0) w 117;have l0:=aB w (.cells (bj 0 0 0 none 0 0) 117);go_enter func193,ntmps193;go_wp2_with (go_at_call 232;refine (YD _ k o s a n c rfl _).mono ?_;rintro e w1 ⟨rfl,b1⟩;have n1:=(n0.below b1).alloc (.cells (bj 0 0 0 none 0 0) 265);have l1:=(l0.trans (b1.mono l0.size)).alloc (bt l0.size b1.size) (.cells (bj 0 0 0 none 0 0) 265);have c0:=n1.c0;have c1:=n1.c1;have c2:=n1.c2;have c3:=n1.c3;have f0:=n1.f0;have f1:=n1.f1;have f2:=n1.f2;have f3:=n1.f3);have q:=n1.eU (ad k) (ad o) (ad s) (.slice a n c);refine bL (v:=bO k o s a n c) (by simp[results,results193,go_sem,q.c0,q.c1,q.c2,q.c3]) rfl ⟨rfl,?_⟩;exact (((l1.setCell (p:=⟨w.heap.size,0,none⟩) (aq _) _).setCell (p:=⟨w.heap.size,1,none⟩) (aq _) _).setCell (p:=⟨w.heap.size,2,none⟩) (aq _) _).setCell (p:=⟨w.heap.size,3,none⟩) (aq _) _
section
def qN (k o:Int) (zs:List Int) (j:Nat):ByteArray:=iM k o++gR (zs.take j)
theorem YH (k o:Int) (zs:List Int):qN k o zs 0=iM k o:=by apply gm;simp[qN,gR]
theorem YI (k o:Int) (zs:List Int) (j:Nat) (h:j<zs.length):qN k o zs j ++ ⟨#[UInt8.ofNat (zs.getD j 0).toNat]⟩=qN k o zs (j+1):=by rw[qN,qN,aiM,Ob zs j h]
theorem YJ (k o:Int) (zs:List Int):qN k o zs zs.length=iM k o++gR zs:=by rw[qN,ks]
variable {base g n cap : Nat} {w W1 W W' : World} {t u : ByteArray}
theorem YK (h:fo base W g n cap (t++u)) (m:Nat) (hm:m=t.size):(convert 22 9 (bg g m cap)).run prog W=.ok (.string t) W:=by
 have hh:=h.holds;have:=qE (P:=prog) W 22 9 5 g 0 cap t.data.toList underlying22 underlying5 underlying9 (fun j hj=>by have h2:=hh j (by simp[mz] at hj ⊢;omega);rw[h2];congr 2;simp only[mz,rX];rw[Hp hj]) m (by rw[hm,cV])
 rwa [yL] at this
theorem YL (h:fo base W g n cap (t++u)) (m:Nat) (hm:m=t.size) (r:Nat) (hr:r=u.size) (c:Nat):(convert 22 9 (.slice (some ⟨g,m,none⟩) r c)).run prog W=.ok (.string u) W:=by
 have hh:=h.holds;have:=qE (P:=prog) W 22 9 5 g m c u.data.toList underlying22 underlying5 underlying9 (fun j hj=>by
  have hts:t.data.toList.length=m:=by rw[hm,cV]
  have h2:=hh (m+j) (by simp only[mz,rX,bY];omega);rw[cR] at h2;rw[h2];congr 2;simp only[mz,rX];rw[Nl (by omega)];simp[hts]) r (by rw[hr,cV])
 rwa [yL] at this
theorem YM (W:World) (b o c:Nat):(convert 22 9 (.slice (some ⟨b,o,none⟩) 0 c)).run prog W=.ok (.string ⟨#[]⟩) W:=qE (P:=prog) W 22 9 5 b o c [] underlying22 underlying5 underlying9 (fun j hj=>by simp at hj) 0 rfl
theorem aiW (m:Int) (h:iP w W1 g n cap t W):Calls prog 163 #[ad m] W fun e w'=>e=.returned (.string (ix m))/\iP w W1 g n cap t w'/\aj W w':=(NS m W).mono fun _ _ ⟨he,hb⟩=>⟨he,h.below hb,hb⟩
abbrev Ex (k o:Int) (g cap:Nat) (W:World):Prop:=(convert 22 9 (.slice (some ⟨g,0,none⟩) 2 cap)).run prog W=.ok (.string (iM k o)) W
abbrev Ey (zs:List Int) (g cap:Nat) (W:World):Prop:=(convert 22 9 (.slice (some ⟨g,2,none⟩) zs.length (cap-2))).run prog W=.ok (.string (gR zs)) W
theorem OK {k o s:Int} {zs:List Int} (h:iP w W1 g (2+zs.length) cap (iM k o++gR zs) W) (hc:af W w.heap.size 2 (ad s)):Ex k o g cap W/\Ey zs g cap W/\af W w.heap.size 2 (ad s)/\iP w W1 g (2+zs.length) cap (iM k o++gR zs) W:=⟨YK h.buf 2 rfl,YL h.buf 2 rfl zs.length (Ei zs).symm (cap-2),hc,h⟩
theorem OL {k o s:Int} {zs:List Int} (h:Ex k o g cap W/\Ey zs g cap W/\W.cell? ⟨w.heap.size,2,none⟩=some (.int .i64 s)/\iP w W1 g (2+zs.length) cap (iM k o++gR zs) W):Calls prog 163 #[.int .i64 s] W fun e w'=>e=.returned (.string (ix s))/\(Ex k o g cap w'/\Ey zs g cap w'/\w'.cell? ⟨w.heap.size,2,none⟩=some (.int .i64 s)/\iP w W1 g (2+zs.length) cap (iM k o++gR zs) w'):=
 (NS s W).mono fun _ w' ⟨he,hb⟩=>⟨he,OK (h.2.2.2.below hb) ((hb.cell (p:=⟨w.heap.size,2,none⟩) (by
  have:=h.2.2.1;unfold World.cell? at this;cases hq:W.heap[w.heap.size]? with
  | none=>simp[hq] at this
  | some o=>exact (mY.1 hq).1)).trans h.2.2.1)⟩
theorem OM (k o s:Int) (a:Option Addr) (c:Nat) (zs:List Int) (W:World) (hbig:zs.length<=281474976710656) (hcap:zs.length<=c) (hR:aI W a zs) (nN:av w.heap.size (eV k o s a zs.length c) W) (hl:aj w W):Calls prog 162 #[bO k o s a zs.length c] W fun e w'=>e=.returned (.bool (eH k o s zs))/\av w.heap.size (eV k o s a zs.length c) w'/\aI w' a zs/\aj w w':=(Oc k o s a c zs W hbig hcap hR).mono fun _ _ ⟨he,hb⟩=>⟨he,nN.below hb,hR.below hb,hl.trans (hb.mono hl.size)⟩
theorem Bz (k o s:Int) (a:Option Addr) (c:Nat) (zs:List Int) (w:World) (hbig:zs.length<=281474976710656) (hcap:zs.length<=c) (hR:aI w a zs):Calls prog 111 #[bO k o s a zs.length c] w (aT (.string (dO k o s zs)) w):=by
 have nN:=bu (eV k o s a zs.length c) w 117;have hl0:=aB w (.cells (bj k o s a zs.length c) 117);have hR0:=hR.below hl0;clear hR;by_cases hok:eH k o s zs=true
 ·obtain ⟨hk,ho,hs,hl,-,hp⟩:=Br hok;have hP2:=Im s (by omega) (by omega);have hs0:0<=s:=hs.1;have hk0:0<=k:=hk.1;have hk1:k<=2:=hk.2;have ho0:0<=o:=ho.1;have ho1:o<=9:=ho.2;have HT:Hid (dO k o s zs=(iM k o++ix s++gR zs)++bB (16-(4+(zs.length:Int)))):=by
   rw[dO,aF hok,sr,bB,aF (by omega),show (16-(4+(zs.length:Int))).toNat=12-zs.length by omega];rfl
  go_enter func111,ntmps111;go_wp2_with (go_at_call 162;refine (OM k o s a c zs _ hbig hcap hR0 nN hl0).mono ?_;rintro e w1 ⟨rfl,ye,uA,hl1⟩;have c0:=ye.c0;have c1:=ye.c1;have c2:=ye.c2;have c3:=ye.c3;have tj:=Od (base:=w1.heap.size) w1 k o (by omega) (by omega) (aq _);have CR:=aB w1 (.cells #[.int .u8 k,.int .u8 o] 5));go_loopw [3,4] (fun r i w'=>∃ (j g cap:Nat),j<=zs.length/\i=ad j/\r=bg g (2+j) cap/\fo w1.heap.size w' g (2+j) cap (qN k o zs j)/\aj w1 w') (fun _ i _=>zs.length-(intOf i).toNat);case atStart=>exact ⟨0,_,_,aS _,rfl,rfl,by rw[YH];exact tj,CR⟩
  case round=>
  obtain ⟨j,g,cap,hj,rfl,rfl,hbuf,hbel⟩:=hrel;have V6:=ye.below hbel;have r2:=V6.c2;have r3:=V6.c3;clear tj CR c0 c1 c2 c3 nN hl0 hR0;by_cases hlt:j<zs.length
  ·obtain ⟨b,off,rfl,hb,hc⟩:=(uA.below hbel).get hlt;have x1:=hc j hlt;have hz:=wJ hp hlt;have hu:=YI k o zs j hlt;obtain ⟨z,ez⟩:∃ z,zs.getD j 0=z:=⟨_,rfl⟩;rw[ez] at x1 hz hu;have z0:0<=z:=by omega
   have z1:z<=23:=hz.2;have e1:(0:Int)<=(j:Int):=by omega
   have e2:(j:Int)<(zs.length:Int):=by omega
   have HU:Hid (qN k o zs j ++ ⟨#[UInt8.ofNat z.toNat]⟩=qN k o zs (j+1)):=hu;clear hu ez hc hz;go_wp2_with (at_builtin;refine Oh rfl (.tmp 23) (.tmp 30) rfl hbuf z (by omega) (by rfl) (by rfl) (by omega) hbel.size ?_;intro g1 ij w2 mQ ko);go_roundw;case rel=>exact ⟨j+1,g1,ij,by omega,by go_num,rfl,by rw[<- HU.out];exact mQ,hbel.trans ko⟩
   case measure=>simp[intOf];omega
  obtain rfl:j=zs.length:=by omega
  rw[YJ] at hbuf;have st:iP w w1 g (2+zs.length) cap (iM k o++gR zs) wr:=⟨hbuf,hbel⟩;have hfin:Hid (∀ W,iP w w1 g (2+zs.length) cap (iM k o++gR zs) W->aj w W):=fun W h=>hl1.trans (h.ah.mono hl1.size);have hcp:2+zs.length<=cap:=by
   rcases hbuf.2.2 with ⟨h0,_⟩ | ⟨g',cap',cur,hv,_,_,hle,_⟩;·cases h0
   simp at hv;omega
  clear uA hbuf hbel ye hl1;have z1:(iM k o).size+(ix s).size<=9223372036854775807:=by rw[Ej,hP2];omega
  have z2:(iM k o++ix s).size+(gR zs).size<=9223372036854775807:=by rw[fk,Ej,hP2,Ei];omega
  have h2s:=Ej k o;have hps:=Ei zs;have z3:4+zs.length+(bB (16-(4+(zs.length:Int)))).size<=9223372036854775807:=by rw[bB,aF (by omega),ni];omega
  have hSd:Ex k o g cap wr.drew/\Ey zs g cap wr.drew/\wr.drew.cell? ⟨w.heap.size,2,none⟩=some (ad s)/\iP w w1 g (2+zs.length) cap (iM k o++gR zs) wr.drew:=OK st.drew r2;by_cases hc2:cap=2
  ·subst hc2;obtain rfl:zs=[]:=mW (by omega);have hcn:=YM;have HE:Hid (dO k o s []=(iM k o++ix s ++ ⟨#[]⟩)++bB 12):=HT.out;have z5:4+(bB 12).size<=9223372036854775807:=z3;clear HT z3;go_wp2;go_region_held3 (fun W=>(convert 22 9 (bg g 2 2)).run prog W=.ok (.string (iM k o)) W/\(convert 22 9 (.slice (some ⟨g,2,none⟩) ([]:List Int).length (2-2))).run prog W=.ok (.string (gR [])) W/\af W w.heap.size 2 (ad s)/\iP w w1 g (2+([]:List Int).length) 2 (iM k o++gR []) W) (assumption) ((go_at_call 163;refine (OL (by assumption)).mono ?_;rintro e w4 ⟨rfl,h4⟩))
   all_goals
    go_wp2_with (go_at_call 75;refine (nj _ _).mono ?_;rintro e w2 ⟨rfl,rfl⟩);go_ret;exact ⟨Ew HE.out.symm,hfin.out _ h4.2.2.2⟩
  have i1:(2:Int)<=(cap:Int):=by omega
  have i2:(2:Int)<=2+(zs.length:Int):=by omega
  have i3:2+(zs.length:Int)<=(cap:Int):=by omega
  have i5:2+2+zs.length<=9223372036854775807:=by omega
  have i6:4+zs.length<=9223372036854775807:=by omega
  have i7:¬ 9223372036854775807<4+zs.length:=by omega
  have i4:(2:Int)<=((2+zs.length:Nat):Int):=by omega
  go_wp2;go_region_held3 (fun W=>(convert 22 9 (bg g 2 cap)).run prog W=.ok (.string (iM k o)) W/\(convert 22 9 (.slice (some ⟨g,2,none⟩) zs.length (cap-2))).run prog W=.ok (.string (gR zs)) W/\af W w.heap.size 2 (ad s)/\iP w w1 g (2+zs.length) cap (iM k o++gR zs) W) (assumption) ((go_at_call 163;refine (OL (by assumption)).mono ?_;rintro e w4 ⟨rfl,h4⟩))
  all_goals
   go_wp2_with (go_at_call 75;refine (nj _ _).mono ?_;rintro e w2 ⟨rfl,rfl⟩);go_ret;exact ⟨Ew HT.out.symm,hfin.out _ h4.2.2.2⟩
 have hok':eH k o s zs=false:=by simpa using hok
 have HR:Hid (dO k o s zs=⟨#[]⟩):=by rw[dO,aG hok];rfl
 go_enter func111,ntmps111;go_wp2_with (go_at_call 162;refine (OM k o s a c zs _ hbig hcap hR0 nN hl0).mono ?_;rintro e w1 ⟨rfl,ye,uA,hl1⟩);go_ret;exact ⟨Ew HR.out.symm,hl1⟩
end
end Go.Proofs.YtidmmopnkjbjoaaGreatDoor
