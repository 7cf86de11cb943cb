/- Joined texts. -/
import Derived.Test.YtgpfmgaidbjcpaaGreatDoorJhP
import Derived.Test.YtgpfmgaidbjcpaaGreatDoorJhN
set_option linter.unusedVariables false
set_option linter.unusedSimpArgs false
set_option maxRecDepth 10000
set_option maxHeartbeats 16000000
namespace Go.Proofs.YtgpfmgaidbjcpaaGreatDoor
open ChangeShapes WideShapes ChangeAt RowKit
open Go.Proofs.Tryz
theorem af5 (o:Int) (w:World):Calls prog 69 #[.int .i64 o] w fun e w'=>e=.returned (.string (rj o))/\Below w.heap.size w w':=by
 have k0:fL w o (w.alloc (.cells #[.int .i64 2,.int .i64 o,.int .i64 0,.slice none 0 0] 35)):=⟨aY (fO 2 o 0 none 0 0) w 35,aA _ _⟩;by_cases hok:fe 2 o 0 []=true
 ·have HF:Hid (rj o=Cu o):=aN hok;obtain ⟨z,hz⟩:∃ z,bG 768=z:=⟨_,rfl⟩;obtain ⟨g,hg⟩:∃ g,zY=g:=⟨_,rfl⟩;obtain ⟨p,hp⟩:∃ p,df 2 o 0 []=p:=⟨_,rfl⟩;obtain ⟨r,hr⟩:∃ r,aZ 0=r:=⟨_,rfl⟩;obtain ⟨m,hm⟩:∃ m,Cu o=m:=⟨_,rfl⟩;have z1:=Rl;have g1:=ady;have p1:=adz o;have HG:Hid (bs z 0 xw=g):=show bs z 0 xw=g by rw[<- hg,<- hz,zY]
  have HM:Hid (bs g r p=m):=show bs g r p=m by rw[<- hg,<- hr,<- hp,<- hm,Cu]
  have HK:Hid (∀ W,fL w o W->Calls prog 118 #[aO 2 o 0 none 0 0] W fun e w'=>e=.returned (.bool true)/\fL w o w'):=fun W h=>Rm hok h;have HP:Hid (∀ W,fL w o W->Calls prog 72 #[aO 2 o 0 none 0 0] W fun e w'=>e=.returned (.string p)/\fL w o w'):=fun W h=>adA hp h;have HZ:Hid (∀ W,fL w o W->Calls prog 90 #[.int .i64 768] W fun e w'=>e=.returned (.string z)/\fL w o w'):=fun W h=>adB hz h;have HR:Hid (∀ W,fL w o W->Calls prog 71 #[.int .i64 0] W fun e w'=>e=.returned (.int .i64 r)/\fL w o w'):=fun W h=>adC hr h;rw[hz] at z1;rw[hg] at g1;rw[hp] at p1;rw[HF.out,hm];clear HF hz hg hp hr hm hok;go_enter func69,ntmps69;go_wp2_with (go_at_call 118;refine (HK.out _ k0).mono ?_;rintro e w1 ⟨rfl,k1⟩;have x0:=k1.aF.c0;have x1:=k1.aF.c1;have x2:=k1.aF.c2;have x3:=k1.aF.c3);have k2:=k1.drewN 1;have s2:=k2.four;clear k1 x0 x1 x2 x3 k0;go_region_held3 (fun W=>W.cell? ⟨w.heap.size,0,none⟩=some (.int .i64 2)/\W.cell? ⟨w.heap.size,1,none⟩=some (.int .i64 o)/\W.cell? ⟨w.heap.size,2,none⟩=some (.int .i64 0)/\W.cell? ⟨w.heap.size,3,none⟩=some (.slice none 0 0)) (assumption) ((first
   | (go_at_call 90;refine (HZ.out _ (by assumption)).mono ?_;rintro e w2 ⟨rfl,k2⟩;have s2:=k2.four)
   | (go_at_call 71;refine (HR.out _ (by assumption)).mono ?_;rintro e w2 ⟨rfl,k2⟩;have s2:=k2.four)
   | (go_at_call 72;refine (HP.out _ (by assumption)).mono ?_;rintro e w2 ⟨rfl,k2⟩;have s2:=k2.four)
   | (go_at_call 70;have hW2:=hW1;refine (adE g1 p1 HM.out (by assumption)).mono ?_;rintro e w2 ⟨rfl,k2⟩;have s2:=k2.four)
   | (go_at_call 70;refine kZ (adD ?_ z1 HG.out (by assumption)) ?_;kernel_rfl;rintro e w2 ⟨rfl,k2⟩;have s2:=k2.four;have hW1:True:=trivial)))
  all_goals
   go_wp2;go_ret;exact ⟨rfl,k2.au⟩
 have hok':fe 2 o 0 []=false:=by simpa using hok
 have HF:Hid (rj o=⟨#[]⟩):=aM hok;have HK:Hid (∀ W,fL w o W->Calls prog 118 #[aO 2 o 0 none 0 0] W fun e w'=>e=.returned (.bool false)/\fL w o w'):=fun W h=>Rm hok' h;rw[HF.out];clear HF hok hok';go_enter func69,ntmps69;go_wp2_with (go_at_call 118;refine (HK.out _ k0).mono ?_;rintro e w1 ⟨rfl,k1⟩);go_ret;exact ⟨rfl,k1.au⟩
def lC (barred acc:List Int) (x:Int):List Int:=if bC barred x || bC acc x then acc else acc ++ [x]
def jW (acc lent barred:List Int):List Int:=lent.foldl (lC barred) acc
theorem af6 (acc lent barred:List Int) (k:Nat) (h:k<lent.length):jW acc (lent.take (k+1)) barred=lC barred (jW acc (lent.take k) barred) (lent.getD k 0):=by rw[jW,mq h,List.foldl_append,fq _ _ h];rfl
theorem af7 (barred acc:List Int) (x:Int):(lC barred acc x).length<=acc.length+1:=by
 unfold lC;split;·omega
 simp
theorem Kx (lent barred:List Int):∀ acc:List Int,(jW acc lent barred).length<=acc.length+lent.length:=by
 induction lent with
 | nil=>intro acc;simp[jW]
 | cons x r ih=>
  intro acc;have h1:=ih (lC barred acc x);have h2:=af7 barred acc x;show (jW (lC barred acc x) r barred).length<=_
  simp only[fv];omega
theorem Ky (barred:List Int):∀ (lent acc:List Int) (z:Int),z ∈ jW acc lent barred->z ∈ acc\/z ∈ lent
 | [],acc,z,h=>Or.inl h
 | x :: r,acc,z,h=>by
  rcases Ky barred r (lC barred acc x) z h with h1 | h1
  ·unfold lC at h1;split at h1;·exact Or.inl h1
   simp at h1;rcases h1 with h1 | h1;·exact Or.inl h1
   exact Or.inr (by simp[h1])
  ·exact Or.inr (by simp[h1])
def Ai (data:ByteArray) (i:Nat):ByteArray:=bs (jm 32) 0 (aX data ((i:Int)*32) (min 32 ((data.size:Int)-(i:Int)*32)))
def lW (pages:List Int) (data:ByteArray) (k:Nat):List aB:=(List.range k).map fun (i:Nat)=>(pages.getD i 0*32,Ai data i)
theorem TC (pages:List Int) (data:ByteArray) (k:Nat):(lW pages data k).length=k:=by simp[lW]
theorem af8 (pages:List Int) (data:ByteArray) (k:Nat):lW pages data (k+1)=lW pages data k ++ [(pages.getD k 0*32,Ai data k)]:=by simp[lW,yR]
def ji (pages:List Int) (data:ByteArray):Bool:=decide (data.size<=192) && decide ((dL data.size).toNat<=pages.length)
def vG (ino k o:Int) (pages:List Int) (data:ByteArray):List aB:=lW pages data (dL data.size).toNat ++ [(aZ ino,df k o data.size (pages.take (dL data.size).toNat))]
def oV (ino k o:Int) (pages:List Int) (data:ByteArray):List aB:=if ji pages data then vG ino k o pages data else []
theorem af9 {pages:List Int} {data:ByteArray} (h:¬ data.size<=192):ji pages data=false:=by rw[ji,bA h,dC]
theorem aga {pages:List Int} {data:ByteArray} (h:¬ (dL data.size).toNat<=pages.length):ji pages data=false:=by rw[ji,bA h,eS]
theorem agb {pages:List Int} {data:ByteArray} (h1:data.size<=192) (h2:(dL data.size).toNat<=pages.length):ji pages data=true:=by rw[ji,bK h1,bK h2];rfl
theorem Kz {ino k o:Int} {pages:List Int} {data:ByteArray} (h:ji pages data=false):oV ino k o pages data=[]:=by simp[oV,h]
theorem TE {ino k o:Int} {pages:List Int} {data:ByteArray} (h:ji pages data=true):oV ino k o pages data=vG ino k o pages data:=by simp[oV,h]
theorem agc (ino k o:Int) (pages:List Int) (data:ByteArray):(vG ino k o pages data).length=(dL data.size).toNat+1:=by simp[vG,TC]
theorem agd (ino k o:Int) (pages:List Int) (data:ByteArray):(oV ino k o pages data).length<=8:=by
 cases h:ji pages data with
 | false=>rw[Kz h];exact bh _
 | true=>
  rw[TE h,agc];simp only[ji,ca,dp] at h;unfold dL;omega
section
structure jX (B:Nat) (a:Option Addr) (n cap:Nat) (zs:List Int) (W:World):Prop where
 aF:az B [.slice a n cap] W
 buf:bH (B+1) W a n cap zs
variable {B n cap : Nat} {a : Option Addr} {zs : List Int} {w W W' : World}
theorem jX.below (h:jX B a n cap zs W) (hb:Below W.heap.size W W'):jX B a n cap zs W':=⟨h.aF.below hb,h.buf.below hb⟩
theorem jX.lt (h:jX B a n cap zs W):B+1<=W.heap.size:=h.aF.lt
theorem jX.len (h:jX B a n cap zs W):n=zs.length:=h.buf.1
theorem TF (w:World):jX w.heap.size none 0 0 [] (w.alloc (.cells #[.slice none 0 0] 264)):=⟨aY [.slice none 0 0] w 264,Bz _⟩
theorem jX.store {a':Option Addr} {n' cap':Nat} {zs':List Int} (h:jX B a n cap zs w) (hbuf:bH (B+1) W a' n' cap' zs') (hb:Below (B+1) w W):jX B a' n' cap' zs' (W.setCell ⟨B,0,none⟩ (.slice a' n' cap')):=by have h1:=gd h.aF hb (cm B);refine ⟨h1.set 0 (.slice a' n' cap'),hbuf.1,?_⟩;exact DW hbuf.2 (a:=⟨B,0,none⟩) (fun e=>Zl _ (zr hbuf _ e)) _
theorem KA {B:Nat} (hb:Below (B+1) w W) (v:Value):Below B w (W.setCell ⟨B,0,none⟩ v):=(hb.mono (bS B)).setCell (p:=⟨B,0,none⟩) (av _) v
theorem KB (ax:Option Addr) (cx:Nat) (xs:List Int) (w:World) (h:jX B a n cap zs w) (hR:aK w ax xs) (hlen:n+xs.length<=1048576):Calls prog 223 #[.pointer (some ⟨B,0,none⟩),.slice ax xs.length cx] w fun e w'=>e=.returned (.tuple #[])/\∃ a' cap',jX B a' (n+xs.length) cap' (zs++xs) w'/\Below B w w':=by have c0:=h.aF.c0;have hlt:=h.lt;have hbf:=h.buf;have HH:Hid (jX B a n cap zs w):=h;clear h;go_enter func223,ntmps223;go_wp2_with (at_builtin;refine tQ rfl (.tmp 8) (.tmp 9) rfl hbf ax cx xs (by rfl) (by rfl) hR (by omega) hlt ?_;intro a1 dO w1 b1 l1;have k1:=gd HH.out.aF l1 (cm B);have c1:=k1.c0;have f1:=k1.f0);refine mu (v:=.tuple #[]) (by simp[results,results223,go_sem]) rfl ?_;exact ⟨rfl,a1,dO,HH.out.store b1 l1,KA l1 _⟩
theorem TG (w:World) (x:Int):aK (w.alloc (.cells #[.int .i64 x] 3)) (some ⟨w.heap.size,0,none⟩) [x]:=wU (aY [.int .i64 x] w 3)
theorem age (ax ay:Option Addr) (cx cy:Nat) (xs ys:List Int) (w:World) (h:jX B a n cap zs w) (hX:∀ W,Below B w W->aK W ax xs) (hY:∀ W,Below B w W->aK W ay ys) (hlen:n+xs.length<=1048000) (hy:ys.length<=281474976710656):Calls prog 224 #[.pointer (some ⟨B,0,none⟩),.slice ax xs.length cx,.slice ay ys.length cy] w fun e w'=>e=.returned (.tuple #[])/\∃ a' n' cap',jX B a' n' cap' (jW zs xs ys) w'/\Below B w w':=by
 have hn:=h.len;have hBw:=h.lt;go_enter func224,ntmps224;go_wp2;go_loopw [10] (fun i w'=>∃ (k:Nat) (a':Option Addr) (n' cap':Nat),k<=xs.length/\i=.int .i64 k/\jX B a' n' cap' (jW zs (xs.take k) ys) w'/\Below B w w') (fun i _=>xs.length-(intOf i).toNat);case atStart=>exact ⟨0,a,n,cap,bh _,rfl,h,aQ _ _⟩
 case round=>
 obtain ⟨k,a1,n1,dO,hk,rfl,hs,hbel⟩:=hrel;clear h;have hlen':zs.length+xs.length<=1048000:=by omega
 have hgl:=Kx (xs.take k) ys zs;have htl:(xs.take k).length<=xs.length:=by simp;omega
 obtain rfl:=hs.len;by_cases hlt:k<xs.length
 ·obtain ⟨b,off,rfl,im,hc⟩:=(hX wr hbel).get hlt;have y1:=hc k hlt;have hsu:=af6 zs xs ys k hlt;have Mh:=hY wr hbel;have c0:=hs.aF.c0;obtain ⟨z,ez⟩:∃ z,xs.getD k 0=z:=⟨_,rfl⟩;rw[ez] at y1 hsu;obtain ⟨acc,ea⟩:∃ acc,jW zs (xs.take k) ys=acc:=⟨_,rfl⟩;rw[ea] at hs hsu hgl c0;have HS:Hid (jW zs (xs.take (k+1)) ys=lC ys acc z):=hsu;have e1:(0:Int)<=(k:Int):=by omega
  have e2:(k:Int)<(xs.length:Int):=by omega
  clear ez ea hc hX hY hsu hn;by_cases hb1:bC ys z=true
  ·have hc1:Hid (∀ W,aK W ay ys->Calls prog 141 #[.slice ay ys.length cy,.int .i64 z] W fun e w'=>e=.returned (.bool true)/\w'=W):=fun W hW=>by
    have:=pR ay cy ys z W hy hW;rwa [hb1] at this
   have HG:Hid (lC ys acc z=acc):=by
    show lC ys acc z=acc
    rw[lC,hb1,Bool.true_or,aN rfl]
   clear hb1;go_wp2_with (go_at_call 141;refine (hc1.out _ Mh).mono ?_;rintro e w2 ⟨rfl,hw2⟩;subst w2);go_roundw;case rel=>exact ⟨k+1,a1,acc.length,dO,by omega,by go_num,by rw[HS.out,HG.out];exact hs,hbel⟩
   case measure=>simp[intOf];omega
  have hb1':bC ys z=false:=by simpa using hb1
  have hc1:Hid (∀ W,aK W ay ys->Calls prog 141 #[.slice ay ys.length cy,.int .i64 z] W fun e w'=>e=.returned (.bool false)/\w'=W):=fun W hW=>by have:=pR ay cy ys z W hy hW;rwa [hb1'] at this
  by_cases hb2:bC acc z=true
  ·have hc2:Hid (∀ W,aK W a1 acc->Calls prog 141 #[.slice a1 acc.length dO,.int .i64 z] W fun e w'=>e=.returned (.bool true)/\w'=W):=fun W hW=>by
    have:=pR a1 dO acc z W (by omega) hW;rwa [hb2] at this
   have HG:Hid (lC ys acc z=acc):=by
    show lC ys acc z=acc
    rw[lC,hb2,Od,aN rfl]
   have R2:=hs.buf.own.row;clear hb1 hb1' hb2;go_wp2_with (first
    | (go_at_call 141;have m2:=m1;refine (hc2.out _ R2).mono ?_;rintro e w3 ⟨rfl,hw3⟩;subst w3)
    | (go_at_call 141;refine (hc1.out _ Mh).mono ?_;rintro e w2 ⟨rfl,hw2⟩;subst w2;have m1:True:=trivial))
   go_roundw;case rel=>exact ⟨k+1,a1,acc.length,dO,by omega,by go_num,by rw[HS.out,HG.out];exact hs,hbel⟩
   case measure=>simp[intOf];omega
  have hb2':bC acc z=false:=by simpa using hb2
  have hc2:Hid (∀ W,aK W a1 acc->Calls prog 141 #[.slice a1 acc.length dO,.int .i64 z] W fun e w'=>e=.returned (.bool false)/\w'=W):=fun W hW=>by have:=pR a1 dO acc z W (by omega) hW;rwa [hb2'] at this
  have HG:Hid (lC ys acc z=acc ++ [z]):=by
   show lC ys acc z=acc ++ [z]
   rw[lC,hb1',hb2'];rfl
  have R2:=hs.buf.own.row;have ha:Hid (∀ W,jX B a1 acc.length dO acc W->Calls prog 223 #[.pointer (some ⟨B,0,none⟩),.slice (some ⟨W.heap.size,0,none⟩) 1 1] (W.alloc (.cells #[.int .i64 z] 3)) fun e w'=>e=.returned (.tuple #[])/\∃ a' cap',jX B a' (acc.length+1) cap' (acc ++ [z]) w'/\Below B W w'):=fun W hW=>
   (KB (some ⟨W.heap.size,0,none⟩) 1 [z] _ (hW.below (aA _ _)) (TG W z) (by simp only[fv,gv];omega)).mono fun _ _ ⟨he,a',c',h1,h2⟩=>⟨he,a',c',h1,((aA W _).mono (by have:=hW.lt;omega)).trans h2⟩
  clear hb1 hb1' hb2 hb2';go_wp2_with (first
   | (go_at_call 141;have m2:=m1;refine (hc2.out _ R2).mono ?_;rintro e w3 ⟨rfl,hw3⟩;subst w3)
   | (go_at_call 141;refine (hc1.out _ Mh).mono ?_;rintro e w2 ⟨rfl,hw2⟩;subst w2;have m1:True:=trivial)
   | (go_at_call 223;refine (ha.out _ hs).mono ?_;rintro e w4 ⟨rfl,a4,c4,s4,b4⟩))
  go_roundw;case rel=>exact ⟨k+1,a4,acc.length+1,c4,by omega,by go_num,by rw[HS.out,HG.out];exact s4,hbel.trans b4⟩
  case measure=>simp[intOf];omega
 obtain rfl:k=xs.length:=by omega
 rw[nC] at hs;have HF:Hid (jX B a1 (jW zs xs ys).length dO (jW zs xs ys) wr):=hs;clear hX hY hs;go_wp2;refine mu (v:=.tuple #[]) (by simp[results,results224,go_sem]) rfl ?_;exact ⟨rfl,_,_,_,HF.out,hbel⟩
theorem KE (k o s:Int) (an al ab:Option Addr) (cn cl cb:Nat) (pg lent barred:List Int) (w:World) (hp:aK w an pg) (hl:aK w al lent) (hb:aK w ab barred) (h1:pg.length<=1000) (h2:lent.length<=1000) (h3:barred.length<=281474976710656):Calls prog 164 #[aO k o s an pg.length cn,.slice al lent.length cl,.slice ab barred.length cb] w fun e w'=>∃ a' c',e=.returned (.slice a' (jW pg lent barred).length c')/\aR w.heap.size w' a' (jW pg lent barred)/\(jW pg lent barred).length<=c'/\Below w.heap.size w w':=by
 have l0:=aA w (.cells #[.int .i64 k,.int .i64 o,.int .i64 s,.slice an pg.length cn] 35);have k0:=aY [.int .i64 k,.int .i64 o,.int .i64 s,.slice an pg.length cn] w 35;have e0:(w.alloc (.cells #[.int .i64 k,.int .i64 o,.int .i64 s,.slice an pg.length cn] 35)).heap.size=w.heap.size+1:=by simp
 have s1:=TF (w.alloc (.cells #[.int .i64 k,.int .i64 o,.int .i64 s,.slice an pg.length cn] 35));have l1:=aA (w.alloc (.cells #[.int .i64 k,.int .i64 o,.int .i64 s,.slice an pg.length cn] 35)) (.cells #[.slice none 0 0] 264);have k1:=k0.below l1;have c3:=k1.c3;unfold ah at l1;rw[e0] at s1 l1;have HR:Hid (∀ W,Below w.heap.size w W->aK W an pg/\aK W al lent/\aK W ab barred):=fun W hW=>⟨hp.below hW,hl.below hW,hb.below hW⟩;have M1:Below w.heap.size w ((w.alloc (.cells #[.int .i64 k,.int .i64 o,.int .i64 s,.slice an pg.length cn] 35)).alloc (.cells #[.slice none 0 0] 264)):=l0.trans (l1.mono (bS _));have hp1:=(HR.out _ M1).1;clear hp hl hb k0 l0 k1;go_enter func164,ntmps164;go_wp2_with (first
  | (go_at_call 223;refine (KB an cn pg _ s1 hp1 (by omega)).mono ?_;rintro e w2 ⟨rfl,a2,c2,s2,b2⟩;have M2:=M1.trans (b2.mono (bS _)))
  | (go_at_call 224;refine (age al ab cl cb lent barred _ s2 (fun W hW=>(HR.out W (M2.trans (hW.mono (bS _)))).2.1) (fun W hW=>(HR.out W (M2.trans (hW.mono (bS _)))).2.2) (by omega) h3).mono ?_;rintro e w3 ⟨rfl,a3,n3,d3,s3,b3⟩;have M3:=M2.trans (b3.mono (bS _));have z3:=s3.aF.c0))
 have hq:=s3.len;subst n3;go_ret;exact ⟨a3,d3,rfl,s3.buf.own.mono (by omega),s3.buf.fits,M3⟩
end
section
open Go.Joins Go.Deep
section
variable {H : Type} {enc : TypeId × Value → H} {w : World}
end
theorem agf:(prog.info? 204).map (fun i=>(i.zero,i.size,i.bytes))=some (some (.agg #[.int .i64 0,.string ⟨#[]⟩]),2,24):=by kernel_rfl
variable {g n k : Nat} {es : List aB} {w W W' : World}
end
section
def ql (base:Nat) (w:World) (a:Option Addr) (n cap:Nat) (es:List aB):Prop:=n=es.length/\w.ownsRow base 204 2 (.slice a n cap) n (iW es)
variable {base n cap : Nat} {a : Option Addr} {w W : World} {es : List aB}
theorem ql.below (h:ql base w a n cap es) (hb:Below w.heap.size w W):ql base W a n cap es:=⟨h.1,vd h.2 hb⟩
theorem ql.fits (h:ql base w a n cap es):n<=cap:=by
 rcases h.2.2 with ⟨h0,h1⟩ | ⟨g,c,cur,hv,_,_,hle,_⟩;·omega
 simp at hv;omega
theorem ql.own (h:ql base w a n cap es):cU base w a es:=by
 rcases h.2.2 with ⟨h0,h1⟩ | ⟨g,c,cur,hv,hg,hc,hle,_,hs,ht⟩
 ·left;exact sn (by rw[<- h.1];exact h1)
 right;simp at hv;have hcell:∀ j,w.cell? ⟨g,j,none⟩=cur[j]?:=fun j=>by unfold World.cell?;rw[hc];simp
 have hn:=h.1;have hget:∀ j,j<n*2->cur[j]? = (iW es)[j]?:=fun j hj=>by
  have e1:(cur.toList.take (n*2))[j]? = (iW es)[j]?:=by rw[ht]
  rw[yV hj] at e1;rw[<- DS,e1]
 refine ⟨g,hv.1,hg,⟨fun j hj=>?_,fun j hj=>?_,fun j hj=>?_,(nz.1 hc).1⟩⟩
 ·have:=EI es j hj;rw[hcell,hcell,hget _ (by omega),hget _ (by omega)];exact this
 ·rw[hcell];have:j<cur.size:=by omega
  simp[this]
 unfold World.frozen?;rw[hc];simp
section
variable {g n k : Nat} {es : List aB} {w W W' w4 : World}
end
end
section
theorem KF:∀ (es xs:List aB),iW (es++xs)=iW es++iW xs
 | [],xs=>rfl
 | e :: r,xs=>by simp[iW,KF r xs]
theorem KG:∀ (es:List aB),∀ u ∈ iW es,u.oneCell'=true
 | [],u,h=>by simp[iW] at h
 | e :: r,u,h=>by
  simp[iW] at h;rcases h with rfl | rfl | h;·rfl
  ·rfl
  ·exact KG r u h
theorem TH {w:World} {b off:Nat} {es:List aB} (hc:∀ j,j<es.length->w.cell? ⟨b,off+j*2,none⟩=some (.int .i64 (bl es j).1)/\w.cell? ⟨b,off+j*2+1,none⟩=some (.string (bl es j).2)) (i:Nat) (u:Value) (h:(iW es)[i]? = some u):w.cell? ⟨b,off+i,none⟩=some u:=by
 have hi:i<es.length*2:=by have:=(qI.1 h).1;rwa [EH] at this
 have hj:i / 2<es.length:=by omega
 have hf:=EI es (i / 2) hj;have hcj:=hc (i / 2) hj;rcases (show i=i / 2*2\/i=i / 2*2+1 from by omega) with e | e
 ·rw[e] at h;rw[hf.1] at h;rw[e,hcj.1];exact h
 rw[e] at h;rw[hf.2] at h;rw[e,show off+(i / 2*2+1)=off+i / 2*2+1 by omega,hcj.2];exact h
variable {base n cap : Nat} {a : Option Addr} {w W W' : World} {es : List aB}
theorem agh {ops:Array Oper} {rest:List Oper} {o:Oper} {A:Act} {Q:Exit->Act->World->Prop} (hgd:o.guard=none) (sl x:Operand) (ho:o.op=.call { callee:=.builtin .append,args:=#[sl,x],argTypes:=#[152,152] }) (hbuf:ql base w a n cap es) (ax:Option Addr) (cx:Nat) (xs:List aB) (hs:A.eval sl=.slice a n cap) (hx:A.eval x=.slice ax xs.length cx) (hR:cW w ax xs) (hlen:n+xs.length<=1048576) (hb:base<=w.heap.size) (h:∀ a' cap' w',ql base w' a' (n+xs.length) cap' (es++xs)->Below base w w'->wpList prog ops Q rest (A.put o.dst (.slice a' (n+xs.length) cap')) w'):wpList prog ops Q (o :: rest) A w:=by
 obtain ⟨i0,hi,hz0,hz1,hz2⟩:=iv agf;by_cases h0:xs=[]
 ·subst h0;refine Bf _ hgd sl x 152 152 ho _ _ hs hx _ _ (vh w 152 _ 204 i0 underlying152 hi a n cap hbuf.fits ax cx) ?_;exact h a cap w (by rw[qH];exact hbuf) (aQ _ _)
 rcases hR with hR | ⟨b,off,rfl,hb2,hc⟩;·exact absurd hR h0
 have hm:0<xs.length:=Bg.2 h0;refine qG _ hgd sl x 152 ho base 204 i0 (.agg #[.int .i64 0,.string ⟨#[]⟩]) 2 24 underlying152 hi hz0 hz1 hz2 rfl (by omega) _ n _ hs hbuf.2 ⟨b,off,none⟩ xs.length cx (iW xs) hx (EH xs) ?_ (KG xs) hm (by unfold maxLen;omega) (by omega) hb _ rfl ?_
 ·intro j u hj;rw[qL];exact TH hc j u hj
 intro g' cap' w' ho' hg' _ _;refine h (some ⟨g',0,none⟩) cap' w' ⟨by rw[hbuf.1];simp,?_⟩ ?_
 ·rw[KF];exact ho'
 exact mw (aQ _ _) hg' (fun g hg=>(hbuf.2.lt g hg).1) hb
structure fU (B:Nat) (a:Option Addr) (n cap:Nat) (es:List aB) (W:World):Prop where
 aF:az B [.slice a n cap] W
 buf:ql (B+1) W a n cap es
variable {B : Nat}
theorem fU.below (h:fU B a n cap es W) (hb:Below W.heap.size W W'):fU B a n cap es W':=⟨h.aF.below hb,h.buf.below hb⟩
theorem fU.lt (h:fU B a n cap es W):B+1<=W.heap.size:=h.aF.lt
theorem fU.len (h:fU B a n cap es W):n=es.length:=h.buf.1
theorem fU.drew (h:fU B a n cap es W):fU B a n cap es W.drew:=⟨h.aF.drew,h.buf.1,h.buf.2⟩
theorem fU.Xh (h:fU B a n cap es W) {B':Nat} (hB:B'<B) (j:Nat) (v:Value):fU B a n cap es (W.setCell ⟨B',j,none⟩ v):=⟨h.aF.aP (by omega) j v,h.buf.1,DW h.buf.2 (a:=⟨B',j,none⟩) (fun e=>by have:=(h.buf.2.lt _ e).1;simp only at this;omega) _⟩
theorem agi (w:World):ql base w none 0 0 []:=⟨rfl,rfl,Or.inl ⟨rfl,rfl⟩⟩
theorem TI (w:World):fU w.heap.size none 0 0 [] (w.alloc (.cells #[.slice none 0 0] 212)):=⟨aY [.slice none 0 0] w 212,agi _⟩
theorem fU.store {a':Option Addr} {n' cap':Nat} {es':List aB} (h:fU B a n cap es w) (hbuf:ql (B+1) W a' n' cap' es') (hb:Below (B+1) w W):fU B a' n' cap' es' (W.setCell ⟨B,0,none⟩ (.slice a' n' cap')):=by have h1:=gd h.aF hb (cm B);refine ⟨h1.set 0 (.slice a' n' cap'),hbuf.1,?_⟩;exact DW hbuf.2 (a:=⟨B,0,none⟩) (fun e=>Zl _ (hbuf.2.lt _ e).1) _
theorem KJ (ax:Option Addr) (cx:Nat) (xs:List aB) (w:World) (h:fU B a n cap es w) (hR:cW w ax xs) (hlen:n+xs.length<=1048576):Calls prog 167 #[.pointer (some ⟨B,0,none⟩),.slice ax xs.length cx] w fun e w'=>e=.returned (.tuple #[])/\∃ a' cap',fU B a' (n+xs.length) cap' (es++xs) w'/\Below B w w':=by have c0:=h.aF.c0;have hlt:=h.lt;have hbf:=h.buf;have HH:Hid (fU B a n cap es w):=h;clear h;go_enter func167,ntmps167;go_wp2_with (at_builtin;refine agh rfl (.tmp 8) (.tmp 9) rfl hbf ax cx xs (by rfl) (by rfl) hR (by omega) hlt ?_;intro a1 dO w1 b1 l1;have k1:=gd HH.out.aF l1 (cm B);have c1:=k1.c0;have f1:=k1.f0);refine mu (v:=.tuple #[]) (by simp[results,results167,go_sem]) rfl ?_;exact ⟨rfl,a1,dO,HH.out.store b1 l1,KA l1 _⟩
theorem KK (w:World) (u:Int) (v:ByteArray) (T:TypeId):cW (w.alloc (.cells #[.int .i64 u,.string v] T)) (some ⟨w.heap.size,0,none⟩) [(u,v)]:=by
 have k:=aY [.int .i64 u,.string v] w T;refine Or.inr ⟨w.heap.size,0,rfl,k.lt,fun j hj=>?_⟩;obtain rfl:j=0:=by simp at hj;omega
 exact ⟨k.c0,k.c1⟩
theorem TJ (u:Int) (v:ByteArray) (w:World) (h:fU B a n cap es w) (hlen:n+1<=1048576):Calls prog 221 #[.int .i64 u,.string v,.pointer (some ⟨B,0,none⟩)] w fun e w'=>e=.returned (.tuple #[])/\∃ a' cap',fU B a' (n+1) cap' (es ++ [(u,v)]) w'/\Below B w w':=by have h1:=h.below (aA w (.cells #[.int .i64 u,.string v] 204));have hl:=h.lt;have l1:Below B w (w.alloc (.cells #[.int .i64 u,.string v] 204)):=(aA w _).mono (by omega);have r1:=KK w u v 204;clear h;go_enter func221,ntmps221;go_wp2_with (go_at_call 167;refine (KJ (some ⟨w.heap.size,0,none⟩) 1 [(u,v)] _ h1 r1 (by simp only[fv,gv];omega)).mono ?_;rintro e w2 ⟨rfl,a2,c2,s2,b2⟩);refine mu (v:=.tuple #[]) (by simp[results,results221,go_sem]) rfl ?_;exact ⟨rfl,a2,c2,s2,l1.trans b2⟩
theorem agj (data:ByteArray) (i:Nat) (w:World) (hs:data.size<=281474976710656) (hi:i<=1000):Calls prog 222 #[.string data,.int .i64 (i:Int)] w fun e w'=>e=.returned (.string (Ai data i))/\Below w.heap.size w w':=by
 have hpz:(aX data ((i:Int)*32) (min 32 ((data.size:Int)-(i:Int)*32))).size<=281474976710656:=br (nH _ _ _) hs;have hz:bG 32=jm 32:=rfl;have hzz:(jm 32).size<=281474976710656:=by rw[sw];omega
 go_enter func222,ntmps222;go_wp2_with (first
  | (go_at_call 42;refine (wR 32 _).mono ?_;rintro e w1 ⟨rfl,b1⟩;rw[hz])
  | (go_at_call 16;refine (lM _ _ _ _ hs).mono ?_;rintro e w2 ⟨rfl,b2⟩)
  | (go_at_call 41;refine (uY _ _ _ _ hzz hpz).mono ?_;rintro e w3 ⟨rfl,b3⟩))
 go_ret;exact ⟨rfl,(b1.trans (b2.mono b1.size)).trans (b3.mono (br b1.size b2.size))⟩
end
def ky (Z:List aB) (ok:Bool) (w:World) (e:Ending) (w':World):Prop:=∃ a c,e=.returned (.tuple #[.slice a Z.length c,.bool ok])/\cU w.heap.size w' a Z/\Z.length<=c/\Below w.heap.size w w'
theorem vH {w w':World} {a:Option Addr} {c:Nat} (hb:Below w.heap.size w w'):ky [] false w (.returned (.tuple #[.slice a 0 c,.bool false])) w':=⟨a,c,rfl,Or.inl rfl,bh _,hb⟩
theorem agk (s:Int) (w:World) (h0:0<=s) (h1:s<=281474976710656):Calls prog 34 #[.int .i64 s] w fun e w'=>e=.returned (.int .i64 (dL s))/\w'=w:=by
 have e:dL s=(s+32-1) / 32:=by unfold dL;omega
 rw[e];go_enter func34,ntmps34;go_wp2;go_ret;exact ⟨rfl,rfl⟩
theorem agl:∀ (fn:Fn) (first cap:Array Value) (w:World),(Instr.makeFunc fn first cap).run prog w=.ok (.func fn first cap) w:=fun _ _ _ _=>rfl
theorem TL {w:World} {a:Option Addr} {zs:List Int} (h:aK w a zs) (q:Nat) (hq:q<=zs.length):aK w a (zs.take q):=by
 by_cases h0:zs.take q=[];·exact Or.inl h0
 rcases h with rfl | ⟨b,off,rfl,hb,hc⟩;·simp at h0
 refine Or.inr ⟨b,off,rfl,hb,fun j hj=>?_⟩;have hj':j<q:=by simp at hj;omega
 have e:(zs.take q).getD j 0=zs.getD j 0:=by simp[List.getD,hj']
 rw[e];exact hc j (by omega)
theorem KL (ino k o s:Int) (an ap:Option Addr) (m cn cp:Nat) (pages:List Int) (data:ByteArray) (w:World) (hd:data.size<=281474976710656) (hpl:pages.length<=1000) (hcp:pages.length<=cp) (gY:∀ z ∈ pages,5<=z/\z<=23) (hR:aK w ap pages):Calls prog 163 #[.int .i64 ino,aO k o s an m cn,.slice ap pages.length cp,.string data] w (ky (oV ino k o pages data) (ji pages data) w):=by
 have AY:Hid (∀ W,Calls prog 34 #[.int .i64 (data.size:Int)] W fun e w'=>e=.returned (.int .i64 (dL data.size))/\w'=W):=fun W=>agk _ W (by omega) (by omega);obtain ⟨q,hq⟩:∃ q:Nat,dL data.size=(q:Int):=⟨(dL data.size).toNat,by unfold dL;omega⟩;have Hq:(dL data.size).toNat=q:=by omega
 have GJ:data.size<=192->q<=6:=by unfold dL at hq;omega
 have l0:=aA w (.cells #[.int .i64 k,.int .i64 o,.int .i64 s,.slice an m cn] 35);have k0:=aY [.int .i64 k,.int .i64 o,.int .i64 s,.slice an m cn] w 35;rw[hq] at AY;by_cases h1:data.size<=192
 ·have h1':¬ (192:Int)<(data.size:Int):=by omega
  by_cases h2:q<=pages.length
  ·have hf:=agb (pages:=pages) h1 (by omega);have d1:decide ((192:Int)<(data.size:Int))=false:=by simp;omega
   have d2:decide (pages.length<q)=false:=by simp;omega
   have d3:decide ((pages.length:Int)<(q:Int))=false:=by simp;omega
   have h2a:(q:Int)<=(cp:Int):=by omega
   have h2b:(0:Int)<=(q:Int):=by omega
   have G9:=GJ h1;rw[TE hf,hf];clear GJ;have hu:Hid (∀ j,lW pages data (j+1)=lW pages data j ++ [(pages.getD j 0*32,Ai data j)]):=fun j=>af8 pages data j;have HZ:Hid (vG ino k o pages data=lW pages data q ++ [(aZ ino,df k o data.size (pages.take q))]):=by
    show vG ino k o pages data=_
    rw[vG,Hq]
   have hL0:Hid (∀ j,(lW pages data j).length=j):=fun j=>TC pages data j;have s1:=TI (w.alloc (.cells #[.int .i64 k,.int .i64 o,.int .i64 s,.slice an m cn] 35));have l1:=aA (w.alloc (.cells #[.int .i64 k,.int .i64 o,.int .i64 s,.slice an m cn] 35)) (.cells #[.slice none 0 0] 212);have e0:(w.alloc (.cells #[.int .i64 k,.int .i64 o,.int .i64 s,.slice an m cn] 35)).heap.size=w.heap.size+1:=by simp
   have k1:=k0.below l1;unfold ah at l1;rw[e0] at s1 l1;have M1:=l0.trans (l1.mono (bS _));have HR:Hid (∀ W,Below w.heap.size w W->aK W ap pages):=fun W hW=>hR.below hW;have hm0:=agl;clear hq Hq hf h1 h1' e0 l1 l0 k0 hR;go_enter func163,ntmps163;go_wp2_with (go_at_call 34;refine (AY.out _).mono ?_;rintro e w2 ⟨rfl,hw2⟩;subst w2);go_loopw [34] (fun i w'=>∃ (j:Nat) (a':Option Addr) (cap':Nat),j<=q/\i=.int .i64 j/\fU (w.heap.size+1) a' j cap' (lW pages data j) w'/\az w.heap.size [.int .i64 k,.int .i64 o,.int .i64 s,.slice an m cn] w'/\Below w.heap.size w w') (fun i _=>q-(intOf i).toNat);case atStart=>exact ⟨0,none,0,bh _,rfl,s1,k1,M1⟩
   case round=>
   obtain ⟨j,a1,dO,hj,rfl,hs,hk,hbel⟩:=hrel;clear s1 k1 M1;by_cases hlt:j<q
   ·obtain ⟨b,off,rfl,im,hc⟩:=(HR.out _ hbel).get (k:=j) (by omega);have y1:=hc j (by omega);have hz:=gY (pages.getD j 0) (qS (by omega));have HU:=hu.out j;obtain ⟨z,ez⟩:∃ z,pages.getD j 0=z:=⟨_,rfl⟩;rw[ez] at y1 hz HU;have HU':Hid (lW pages data (j+1)=lW pages data j ++ [(z*32,Ai data j)]):=HU;have hpt:Hid (∀ W,_):=fun W=>agj data j W hd (by omega);have hwr:Hid (∀ W,fU (w.heap.size+1) a1 j dO (lW pages data j) W->_):=fun W hW=>TJ (z*32) (Ai data j) W hW (by omega);have e1:(0:Int)<=(j:Int):=by omega
    have e2:(j:Int)<(q:Int):=by omega
    have hB:=hbel.size;clear ez hc gY HU hu HZ HR hL0 AY;go_wp2_with (first
     | (go_at_call 222;refine (hpt.out _).mono ?_;rintro e w2 ⟨rfl,b2⟩;have s2:=hs.below b2;have k2:=hk.below b2;have M2:=hbel.trans (b2.mono hB))
     | (go_at_call 221;refine (hwr.out _ s2).mono ?_;rintro e w3 ⟨rfl,a3,c3,s3,b3⟩;have k3:=gd k2 b3 (cm _);have M3:=M2.trans (b3.mono (bS _))))
    go_roundw;case rel=>exact ⟨j+1,a3,c3,by omega,by go_num,by rw[HU'.out];exact s3,k3,M3⟩
    case measure=>simp[intOf];omega
   obtain rfl:j=q:=by omega
   have hx:=TL (HR.out _ hbel) j h2;have htl:(pages.take j).length=j:=by simp;omega
   have hri:Hid (∀ W,aK W ap (pages.take j)->Calls prog 168 #[aO k o data.size ap j cp] W fun e w'=>e=.returned (.string (df k o data.size (pages.take j)))/\Below W.heap.size W w'):=fun W hW=>by have:=Pd k o data.size ap cp (pages.take j) W (by omega) (by omega) hW;rwa [htl] at this
   have HA:Hid (∀ a c w',fU (w.heap.size+1) a (j+1) c (lW pages data j ++ [(aZ ino,df k o data.size (pages.take j))]) w'->Below w.heap.size w w'->ky (vG ino k o pages data) true w (.returned (.tuple #[.slice a (j+1) c,.bool true])) w'):=fun a c w' h hb=>by have hl:=h.len;rw[HZ.out];refine ⟨a,c,by rw[<- hl],h.buf.own.mono (by omega),by rw[<- hl];exact h.buf.fits,hb⟩
   have hc2:=hk.c2;have hf2:=hk.f2;have hc3:=hk.c3;have hf3:=hk.f3;have s5:=(hs.Xh (cm w.heap.size) 2 (.int .i64 (data.size:Int))).Xh (cm w.heap.size) 3 (.slice ap j cp);have k5:=(hk.set 2 (.int .i64 (data.size:Int))).set 3 (.slice ap j cp);have M5:=(hbel.setCell (p:=⟨w.heap.size,2,none⟩) (av _) (.int .i64 (data.size:Int))).setCell (p:=⟨w.heap.size,3,none⟩) (av _) (.slice ap j cp);simp only[gx,gL] at k5;have HR':Hid (∀ W,Below w.heap.size w W->aK W ap (pages.take j)):=fun W hW=>TL (HR.out _ hW) j h2;clear hu AY HR hk hs hbel hx;go_wp2;go_region
   clear hc2 hf2 hc3 hf3;obtain ⟨w5,tu⟩:∃ w5,(wr.setCell ⟨w.heap.size,2,none⟩ (.int .i64 (data.size:Int))).setCell ⟨w.heap.size,3,none⟩ (.slice ap j cp)=w5:=⟨_,rfl⟩;rw[tu] at s5 k5 M5 ⊢;clear tu;have MQ:w.heap.size<w5.heap.size:=k5.lt;have hwr:Hid (∀ W,fU (w.heap.size+1) a1 j dO (lW pages data j) W->Calls prog 221 #[.int .i64 (aZ ino),.string (df k o data.size (pages.take j)),.pointer (some ⟨w.heap.size+1,0,none⟩)] W fun e w'=>e=.returned (.tuple #[])/\∃ a' cap',fU (w.heap.size+1) a' (j+1) cap' (lW pages data j ++ [(aZ ino,df k o data.size (pages.take j))]) w'/\Below (w.heap.size+1) W w'):=fun W hW=>TJ _ _ W hW (by omega);have hS0:w5.drew.drew.cell? ⟨w.heap.size,0,none⟩=some (.int .i64 k)/\w5.drew.drew.cell? ⟨w.heap.size,1,none⟩=some (.int .i64 o)/\w5.drew.drew.cell? ⟨w.heap.size,2,none⟩=some (.int .i64 (data.size:Int))/\w5.drew.drew.cell? ⟨w.heap.size,3,none⟩=some (.slice ap j cp):=⟨k5.c0,k5.c1,k5.c2,k5.c3⟩;go_wp2;go_region_held3 (fun W=>W.cell? ⟨w.heap.size,0,none⟩=some (.int .i64 k)/\W.cell? ⟨w.heap.size,1,none⟩=some (.int .i64 o)/\W.cell? ⟨w.heap.size,2,none⟩=some (.int .i64 (data.size:Int))/\W.cell? ⟨w.heap.size,3,none⟩=some (.slice ap j cp)) (assumption) ((first
    | (go_at_call 17;refine (gP ino _).mono ?_;rintro e w6 ⟨rfl,Ha⟩;subst w6)
    | (go_at_call 168;refine (hri.out _ (HR'.out _ M5.drew.drew)).mono ?_;rintro e w7 ⟨rfl,b7⟩;have s7:=s5.drew.drew.below b7;have k7:=k5.drew.drew.below b7;have M7:=M5.drew.drew.trans (b7.mono (pJ MQ));have hS7:w7.cell? ⟨w.heap.size,0,none⟩=some (.int .i64 k)/\w7.cell? ⟨w.heap.size,1,none⟩=some (.int .i64 o)/\w7.cell? ⟨w.heap.size,2,none⟩=some (.int .i64 (data.size:Int))/\w7.cell? ⟨w.heap.size,3,none⟩=some (.slice ap j cp):=⟨k7.c0,k7.c1,k7.c2,k7.c3⟩)
    | (go_at_call 221;refine (hwr.out _ s7).mono ?_;rintro e w8 ⟨rfl,a8,c8,s8,b8⟩;have k8:=gd k7 b8 (cm _);have M8:=M7.trans (b8.mono (bS _));have z8:=s8.aF.c0;have hS8:w8.cell? ⟨w.heap.size,0,none⟩=some (.int .i64 k)/\w8.cell? ⟨w.heap.size,1,none⟩=some (.int .i64 o)/\w8.cell? ⟨w.heap.size,2,none⟩=some (.int .i64 (data.size:Int))/\w8.cell? ⟨w.heap.size,3,none⟩=some (.slice ap j cp):=⟨k8.c0,k8.c1,k8.c2,k8.c3⟩)))
   all_goals
    go_wp2;go_ret2;exact HA.out _ _ _ s8 M8
  have hf:=aga (data:=data) (pages:=pages) (by omega);have h2':(pages.length:Int)<(q:Int):=by omega
  have l1:=l0.alloc l0.size (.cells #[] 204);rw[Kz hf,hf];clear hq Hq GJ hR;go_enter func163,ntmps163;go_wp2_with (go_at_call 34;refine (AY.out _).mono ?_;rintro e w2 ⟨rfl,hw2⟩;subst w2);go_ret2;exact vH l1
 have h1':(192:Int)<(data.size:Int):=by omega
 have hf:=af9 (pages:=pages) h1;have l1:=l0.alloc l0.size (.cells #[] 204);rw[Kz hf,hf];clear hq Hq GJ hR;go_enter func163,ntmps163;go_wp2_with (go_at_call 34;refine (AY.out _).mono ?_;rintro e w2 ⟨rfl,hw2⟩;subst w2);go_ret2;exact vH l1
end Go.Proofs.YtgpfmgaidbjcpaaGreatDoor
