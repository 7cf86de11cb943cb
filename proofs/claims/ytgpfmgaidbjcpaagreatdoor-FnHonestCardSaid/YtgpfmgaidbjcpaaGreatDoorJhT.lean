/- Joined texts. -/
import Derived.Test.YtgpfmgaidbjcpaaGreatDoorJhQ
import Derived.Test.YtgpfmgaidbjcpaaGreatDoorJhR
import Derived.Test.YtgpfmgaidbjcpaaGreatDoorJhS
set_option linter.unusedVariables false
set_option linter.unusedSimpArgs false
set_option maxRecDepth 10000
set_option maxHeartbeats 16000000
namespace Go.Proofs.YtgpfmgaidbjcpaaGreatDoor
open ChangeShapes WideShapes ChangeAt RowKit
open Go.Proofs.Tryz
def jU (zs:List Int):List Int:=zs.foldl jx []
theorem afc (zs:List Int) (x:Int):jU (zs ++ [x])=jx (jU zs) x:=by simp[jU,List.foldl_append]
theorem afd (zs acc:List Int):(zs.foldl jx acc).Perm (acc++zs):=by
 induction zs generalizing acc with
 | nil=>simp
 | cons z zs ih=>
  refine (ih (jx acc z)).trans ?_;refine ((RF acc z).append_right zs).trans ?_;exact (Y4 (l₁:=acc) (l₂:=zs) (a:=z)).symm
theorem J9 (zs:List Int):(jU zs).Perm zs:=afd zs []
theorem xH (zs:List Int):(jU zs).length=zs.length:=(J9 zs).length_eq
theorem afe (zs acc:List Int) (h:acc.Pairwise (·<=·)):(zs.foldl jx acc).Pairwise (·<=·):=by
 induction zs generalizing acc with
 | nil=>exact h
 | cons z zs ih=>exact ih _ (adZ z h)
theorem aff (zs:List Int):(jU zs).Pairwise (·<=·):=afe zs [] List.Pairwise.nil
theorem SG:∀ {xs ys:List Int},xs.Perm ys->xs.Pairwise (·<=·)->ys.Pairwise (·<=·)->xs=ys
 | [],ys,hp,_,_=>(List.nil_perm.1 hp).symm
 | x :: xs,[],hp,_,_=>absurd hp.length_eq (by simp)
 | x :: xs,y :: ys,hp,h1,h2=>by
  have q1:=Iu.1 h1;have q2:=Iu.1 h2;have hx:x ∈ y :: ys:=hp.mem_iff.1 (by simp);have hy:y ∈ x :: xs:=hp.mem_iff.2 (by simp);obtain rfl:x=y:=by
   rcases jC.1 hx with e | m1;·exact e
   rcases jC.1 hy with e | m2;·exact e.symm
   have:=q1.1 y m2;have:=q2.1 x m1;omega
  rw[SG (List.perm_cons x |>.1 hp) q1.2 q2.2]
theorem SH (zs:List Int):zs.mergeSort (fun x y=>decide (x<=y))=jU zs:=by refine SG ((List.mergeSort_perm zs _).trans (J9 zs).symm) ?_ (aff zs);have:=amc (le:=fun x y:Int=>decide (x<=y)) (fun a b c h1 h2=>by simp only[dp] at h1 h2 ⊢;omega) (fun a b=>by simp only[nx,dp];omega) zs;exact this.imp fun h=>by simpa using h
def fG (b:Bool) (zs al:List Int):List Int:=zs.filter fun z=>bC al z == b
section
variable {w W W' : World} {mem : ByteArray}
def cj (mem:ByteArray):List Int:=if cq mem=true then jU (dJ (eo mem) 8) else []
theorem afg (mem:ByteArray):(cj mem).length<=1048576:=by
 unfold cj;split
 ·rw[xH];have:=xp (xy mem) 8;omega
 exact bh _
theorem afh (zs:List Int) (k:Nat) (h:k<zs.length):jU (zs.take (k+1))=jx (jU (zs.take k)) (zs.getD k 0):=by rw[mq h,afc,fq _ _ h]
theorem SJ (mem:ByteArray) (w:World) (hms:mem.size<=281474976710656):Calls prog 86 #[.string mem] w fun e w'=>∃ a c,e=.returned (.slice a (cj mem).length c)/\aR w.heap.size w' a (cj mem)/\ah w w'/\(cj mem).length<=c:=by
 have hS:Hid (∀ W,_):=fun W=>RZ mem W hms;have how:Hid (∀ W,_):=fun W=>RX mem W hms;have l0:=aA w (.cells #[] 3);have b0:=lP (base:=w.heap.size) w (av _);cases hs:cq mem with
 | false=>
  rw[hs] at hS;have hu:cj mem=[]:=by unfold cj;rw[hs];rfl
  rw[hu];clear hs hu how;go_enter func86,ntmps86;go_wp2_with (go_at_call 123;refine (hS.out _).mono ?_;rintro e w1 ⟨rfl,b1⟩);go_ret;exact ⟨_,_,rfl,Or.inl rfl,l0.trans (b1.mono l0.size),av _⟩
 | true=>
  rw[hs] at hS;have hu:cj mem=jU (dJ (eo mem) 8):=by unfold cj;rw[aN hs]
  rw[hu];have hlen:=xp (xy mem) 8;obtain ⟨zs,hzs⟩:∃ zs,dJ (eo mem) 8=zs:=⟨_,rfl⟩;rw[hzs] at how hlen ⊢;clear hs hu hzs;go_enter func86,ntmps86;go_wp2_with (first
   | (go_at_call 123;refine (hS.out _).mono ?_;rintro e w1 ⟨rfl,b1⟩;have l1:=l0.trans (b1.mono l0.size))
   | (go_at_call 129;refine (how.out _).mono ?_;rintro e w2 ⟨a2,c2,rfl,hc2,o2,b2⟩))
  have bf:bH w.heap.size w2 (some ⟨w.heap.size,0,none⟩) 0 0 []:=(b0.below b1).below b2;have l2:=l1.trans (b2.mono l1.size);have r2:=o2.row;clear b0 l0 l1 b1 b2 hS how;go_loopw [3,5] (fun v i W=>∃ (k g c:Nat),k<=zs.length/\i=aa k/\v=aH g k c/\bH w.heap.size W (some ⟨g,0,none⟩) k c (jU (zs.take k))/\aK W a2 zs/\ah w W) (fun _ i _=>zs.length-(intOf i).toNat);case atStart=>exact ⟨0,_,0,bh _,rfl,rfl,bf,r2,l2⟩
  case round=>
   obtain ⟨k,g,c,hk,rfl,rfl,hbuf,hrow,hbel⟩:=hrel;clear bf r2 l2 o2;by_cases hlt:k<zs.length
   ·have hrow':=hrow;obtain ⟨b,off,hab,hbl,hc⟩:=hrow.get hlt;subst hab;have x1:=hc k hlt;have hsl:(jU (zs.take k)).length=k:=hbuf.1.symm;have hti:=afh zs k hlt;obtain ⟨z,ez⟩:∃ z,zs.getD k 0=z:=⟨_,rfl⟩;rw[ez] at x1 hti;have e1:(0:Int)<=(k:Int):=by omega
    have e2:(k:Int)<(zs.length:Int):=by omega
    have hrw:aK wr (some ⟨g,0,none⟩) (jU (zs.take k)):=hbuf.own.row;have hadd:=ad3 g 0 c (jU (zs.take k)) z wr (by omega) (by rw[hsl];exact hbuf.fits) hrw;rw[hsl,<- hti] at hadd;have HA:Hid (Calls prog 130 #[aH g k c,aa z] wr fun e w'=>∃ a' c',e=.returned (.slice a' (k+1) c')/\bH wr.heap.size w' a' (k+1) c' (jU (zs.take (k+1)))/\ah wr w'):=hadd;clear hadd hti ez hc hrw hsl;go_wp2_with (go_at_call 130;refine HA.out.mono ?_;rintro e w3 ⟨a3,c3,rfl,vU,b3⟩);have als:=adX vU hbel.size;obtain ⟨g3,rfl⟩:∃ g3,a3=some ⟨g3,0,none⟩:=by
     rcases vU.2.2 with ⟨h1,h2⟩ | ⟨g',cap',cur,h1,_⟩;·omega
     cases h1;exact ⟨g',rfl⟩
    go_roundw;case rel=>exact ⟨k+1,g3,c3,by omega,by go_num,rfl,als,hrow'.below b3,hbel.trans (b3.mono hbel.size)⟩
    case measure=>simp[intOf];omega
   obtain rfl:k=zs.length:=by omega
   rw[nC] at hbuf;have HB:Hid (bH w.heap.size wr (some ⟨g,0,none⟩) zs.length c (jU zs)):=hbuf;clear hrow hbuf;go_wp2;go_ret;exact ⟨_,c,by rw[xH];rfl,HB.out.own,hbel,by rw[xH];exact HB.out.fits⟩
theorem afi (mem:ByteArray) (w:World) (hms:mem.size<=281474976710656):Calls prog 86 #[.string mem] w fun e w'=>∃ a c,e=.returned (.slice a (cj mem).length c)/\aR w.heap.size w' a (cj mem)/\ah w w':=(SJ mem w hms).mono fun e w' ⟨a,c,h1,h2,h3,_⟩=>⟨a,c,h1,h2,h3⟩
variable {aw ag : Option Addr} {Z M : List Int} {cw cg : Nat}
end
def ru (a b:ByteArray) (r:bJ):ByteArray:=⟨(dZ a.data.toList b.data.toList (nT (r.1.toNat / 8) ((r.1.toNat+r.2.toNat-1) / 8))).toArray⟩
def jg (a b:ByteArray) (rs:List bJ):Nat->ByteArray
 | 0=>b
 | k+1=>ru a (jg a b rs k) (bB rs k)
def nX (a b:ByteArray) (ds:List ai):Nat->ByteArray
 | 0=>b
 | k+1=>jg a (nX a b ds k) (bD (aJ ds k)) (bD (aJ ds k)).length
theorem afj (a b:ByteArray) (r:bJ):(ru a b r).size=768:=by
 show (dZ a.data.toList b.data.toList _).toArray.size=768
 rw[Bl,ki]
theorem SK (a b:ByteArray) (rs:List bJ) (hb:b.size=768):∀ k,(jg a b rs k).size=768
 | 0=>hb
 | k+1=>afj _ _ _
theorem F6 (a b:ByteArray) (ds:List ai) (hb:b.size=768):∀ k,(nX a b ds k).size=768
 | 0=>hb
 | k+1=>SK _ _ _ (F6 a b ds hb k) _
theorem SL (a b:ByteArray) (d:ai) (s:aI) (w:World) (ha:a.size=768) (hb:b.size=768) (hF:iV d s) (hpo:d.po.length<=1048576) (hfr:d.fr.length<=1048576) (hR:cJ w d s):Calls prog 100 #[.agg #[.string a,.string b],bL d s] w (aV (.agg #[.string a,.string (jg a b (bD d) (bD d).length)]) w):=by
 have dv:=aY [.string a,.string b] w 25;have m0:=aA w (.cells #[.string a,.string b] 25);have e1:(w.alloc (.cells #[.string a,.string b] 25)).heap.size=w.heap.size+1:=by simp
 have m1:=aA (w.alloc (.cells #[.string a,.string b] 25)) (.cells (dU d s) 31);have lb:=jP d s (w.alloc (.cells #[.string a,.string b] 25)) 31;have e2:((w.alloc (.cells #[.string a,.string b] 25)).alloc (.cells (dU d s) 31)).heap.size=w.heap.size+2:=by simp
 have m2:=aA ((w.alloc (.cells #[.string a,.string b] 25)).alloc (.cells (dU d s) 31)) (.cells #[.string ⟨#[]⟩,.string ⟨#[]⟩] 25);have rs:=aY [.string ⟨#[]⟩,.string ⟨#[]⟩] ((w.alloc (.cells #[.string a,.string b] 25)).alloc (.cells (dU d s) 31)) 25;have VY:=(dv.below m1).below m2;have iO:=lb.below m2;have M3:=(m0.trans (m1.mono m0.size)).trans (m2.mono (br m0.size m1.size));rw[e1] at iO;rw[e2] at rs;have L3:=hR.below M3;have c0:=iO.c0;have c1:=iO.c1;have c2:=iO.c2;have c3:=iO.c3;have c4:=iO.c4;have c5:=iO.c5;have c6:=iO.c6;have c7:=iO.c7;have hrg:Hid (∀ W,cJ W d s->_):=fun W h=>Rf d s W hF hpo hfr h;have hlt3:w.heap.size+2<(((w.alloc (.cells #[.string a,.string b] 25)).alloc (.cells (dU d s) 31)).alloc (.cells #[.string ⟨#[]⟩,.string ⟨#[]⟩] 25)).heap.size:=rs.lt;have hnr:(bD d).length=sO d:=Se d;obtain ⟨n,hn⟩:∃ n,(bD d).length=n:=⟨_,rfl⟩;rw[hn] at hnr;rw[hn];have hn13:n<=13:=by rw[<- hn];exact Sf d
 have HN:Hid ((bD d).length=n):=hn;clear dv m0 m1 lb m2 e1 e2 hR hF hn;go_enter func100,ntmps100;go_wp2_with (go_at_call 144;refine (hrg.out _ L3).mono ?_;rintro e w4 ⟨a4,c4',rfl,hq4,hc4,o4,b4⟩;have M4:=M3.trans (b4.mono M3.size);have Yk:=VY.below b4;have XV:=rs.below b4;have r4:=Sg o4);rw[<- hnr] at *;clear c0 c1 c2 c3 c4 c5 c6 c7 VY iO rs M3 L3 b4 o4 hrg hq4 hc4;have No:w.heap.size+3<=((((w.alloc (.cells #[.string a,.string b] 25)).alloc (.cells (dU d s) 31)).alloc (.cells #[.string ⟨#[]⟩,.string ⟨#[]⟩] 25))).heap.size:=hlt3;have WD:bD d=[]\/∃ G,a4=some ⟨G,0,none⟩/\w.heap.size+3<=G/\az G (cR (lR d)) w4:=r4.imp id fun ⟨G,h1,h2,h3⟩=>⟨G,h1,br No h2,h3⟩;clear r4 hlt3 No;go_loopw [10] (fun i w'=>∃ k:Nat,k<=n/\i=aa k/\az w.heap.size [.string a,.string (jg a b (bD d) k)] w'/\az (w.heap.size+2) [.string ⟨#[]⟩,.string ⟨#[]⟩] w'/\(bD d=[]\/∃ G,a4=some ⟨G,0,none⟩/\w.heap.size+3<=G/\az G (cR (lR d)) w')/\ah w w') (fun i _=>n-(intOf i).toNat);case atStart=>exact ⟨0,bh _,rfl,Yk,XV,WD,M4⟩
 case round=>
 obtain ⟨k,hk,rfl,uM,AP,rk,hbel⟩:=hrel;clear Yk XV WD M4;by_cases hlt:k<n
 ·obtain ⟨G,rfl,hG,kG⟩:∃ G,a4=some ⟨G,0,none⟩/\w.heap.size+3<=G/\az G (cR (lR d)) wr:=by
   rcases rk with h0 | h0
   ·rw[h0] at HN;have:=HN.out;simp at this;omega
   exact h0
  have hkl:k<(bD d).length:=by have:=HN.out;omega
  obtain ⟨y1,y2⟩:=Sh kG hkl;obtain ⟨i1,i2,i3⟩:=aeQ d hkl;have hsz:=SK a b (bD d) hb k;have hu:jg a b (bD d) (k+1)=ru a (jg a b (bD d) k) (bB (bD d) k):=rfl;obtain ⟨r,er⟩:∃ r,bB (bD d) k=r:=⟨_,rfl⟩;rw[er] at y1 y2 i1 i2 i3 hu;obtain ⟨u,v⟩:=r;simp only at y1 y2 i1 i2 i3;obtain ⟨cur,ec⟩:∃ cur,jg a b (bD d) k=cur:=⟨_,rfl⟩;rw[ec] at uM hsz hu;have HU:Hid (jg a b (bD d) (k+1)=ru a cur (u,v)):=hu;have hfl:Hid (∀ W,_):=fun W=>RD a cur u v W ha hsz i1 (by omega) i3;have x1:(0:Int)<=(k:Int):=by omega
  have x2:(k:Int)<(n:Int):=by omega
  have nb:=aA wr (.cells #[aa u,aa v] 183);have bx:=aY [aa u,aa v] wr 183;have z0:=bx.c0;have z1:=bx.c1;have yD:=uM.below nb;have d0:=yD.c0;have d1:=yD.c1;have Mb:=hbel.trans (nb.mono hbel.size);clear er ec hu rk hb;go_wp2_with (go_at_call 145;refine (hfl.out _).mono ?_;rintro e w5 ⟨rfl,b5⟩;have sc:=yD.below b5;have rs5:=(AP.below nb).below b5;have k5:=(kG.below nb).below b5;have M5:=Mb.trans (b5.mono Mb.size);have f0:=sc.c0;have f1:=sc.c1;have g0:=sc.f0;have g1:=sc.f1);have q5:=sc.vX (.string a) (.string (ru a cur (u,v)));have rs6:=(rs5.aP (B':=w.heap.size) (by omega) 0 (.string a)).aP (B':=w.heap.size) (by omega) 1 (.string (ru a cur (u,v)));have k6:=(k5.aP (B':=w.heap.size) (by omega) 0 (.string a)).aP (B':=w.heap.size) (by omega) 1 (.string (ru a cur (u,v)));have M6:=(M5.setCell (p:=⟨w.heap.size,0,none⟩) (av _) (.string a)).setCell (p:=⟨w.heap.size,1,none⟩) (av _) (.string (ru a cur (u,v)));go_roundw;case rel=>exact ⟨k+1,by omega,by go_num,by rw[HU.out];exact q5,rs6,Or.inr ⟨G,rfl,hG,k6⟩,M6⟩
  case measure=>simp[intOf];omega
 obtain rfl:k=n:=by omega
 have d0:=uM.c0;have d1:=uM.c1;have f0:=AP.c0;have f1:=AP.c1;have g0:=AP.f0;have g1:=AP.f1;have q:=AP.vX (.string a) (.string (jg a b (bD d) k));have MF:=(hbel.setCell (p:=⟨w.heap.size+2,0,none⟩) (ix _ 2) (.string a)).setCell (p:=⟨w.heap.size+2,1,none⟩) (ix _ 2) (.string (jg a b (bD d) k));clear rk;go_wp2;exact bF (v:=.agg #[.string a,.string (jg a b (bD d) k)]) (by simp[results,results100,go_sem,q.c0,q.c1]) rfl ⟨rfl,MF⟩
theorem afk (k:bz) (a:Option Addr) (c:Nat) (ss:Nat->aI) (w:World) (h1:k.mem.size=768) (h2:k.aL.size=768) (hn:k.ds.length<=1048576) (hF:pY k.ds ss) (hR:cN w a k.ds ss):Calls prog 55 #[bP k a c] w (aV (.bool (k.mem.toList == (nX k.mem k.aL k.ds k.ds.length).toList)) w):=by
 have x0:=FE w k a c;have m1:=aA (w.alloc (.cells #[.string k.mem,.string k.aL,.slice a k.ds.length c,aa k.ck] 28)) (.cells #[.string k.mem,.string k.aL] 25);have e1:(w.alloc (.cells #[.string k.mem,.string k.aL,.slice a k.ds.length c,aa k.ck] 28)).heap.size=w.heap.size+1:=by simp
 have dv:=aY [.string k.mem,.string k.aL] (w.alloc (.cells #[.string k.mem,.string k.aL,.slice a k.ds.length c,aa k.ck] 28)) 25;have M1:=x0.au.trans (m1.mono x0.au.size);have mO:=x0.arg.below m1;rw[e1] at dv;have c0:=mO.c0;have c1:=mO.c1;have c2:=mO.c2;have HL:Hid (∀ W,ah w W->cN W a k.ds ss):=fun W hb=>hR.below hb;have HF:Hid (pY k.ds ss):=hF;clear x0 m1 e1 hR hF;go_enter func55,ntmps55;go_wp2;go_loopw [11] (fun i w'=>∃ j:Nat,j<=k.ds.length/\i=aa j/\az (w.heap.size+1) [.string k.mem,.string (nX k.mem k.aL k.ds j)] w'/\ah w w') (fun i _=>k.ds.length-(intOf i).toNat);case atStart=>exact ⟨0,bh _,rfl,dv,M1⟩
 case round=>
 obtain ⟨j,hj,rfl,uM,hbel⟩:=hrel;clear dv M1 mO c0 c1 c2;by_cases hlt:j<k.ds.length
 ·have ls:=(HL.out _ hbel).sub j hlt;obtain ⟨hf,hpo,hfr⟩:=HF.out j hlt;obtain ⟨b,off,hab,im,hc⟩:=(HL.out _ hbel).row.get hlt;subst hab;obtain ⟨y0,y1,y2,y3,y4,y5,y6,y7⟩:=hc j hlt;have hsz:=F6 k.mem k.aL k.ds h2 j;have hu:nX k.mem k.aL k.ds (j+1)=jg k.mem (nX k.mem k.aL k.ds j) (bD (aJ k.ds j)) (bD (aJ k.ds j)).length:=rfl;obtain ⟨d,ed⟩:∃ d,aJ k.ds j=d:=⟨_,rfl⟩;obtain ⟨s,es⟩:∃ s,ss j=s:=⟨_,rfl⟩;rw[ed,es] at ls hf;rw[ed] at y0 y1 y2 y3 y4 y5 y6 y7 hpo hfr hu;rw[es] at y4 y6 y7;obtain ⟨cur,ec⟩:∃ cur,nX k.mem k.aL k.ds j=cur:=⟨_,rfl⟩;rw[ec] at uM hsz hu;have HU:Hid (nX k.mem k.aL k.ds (j+1)=jg k.mem cur (bD d) (bD d).length):=hu;have hrl:Hid (∀ W,ah wr W->_):=fun W hb=>SL k.mem cur d s W h1 hsz hf hpo hfr (ls.below hb);obtain ⟨Hy,en⟩:∃ Hy,jg k.mem cur (bD d) (bD d).length=Hy:=⟨_,rfl⟩;rw[en] at hrl HU;have x1:(0:Int)<=(j:Int):=by omega
  have x2:(j:Int)<(k.ds.length:Int):=by omega
  have nb:=aA wr (.cells (dU d s) 31);have yD:=uM.below nb;have d0:=yD.c0;have d1:=yD.c1;have Mb:=hbel.trans (nb.mono hbel.size);clear ed es ec en hu hc ls hf;go_wp2_with (go_at_call 100;refine (hrl.out _ nb).mono ?_;rintro e w5 ⟨rfl,b5⟩;have sc:=yD.below b5;have M5:=Mb.trans (b5.mono Mb.size);have f0:=sc.c0;have f1:=sc.c1;have g0:=sc.f0;have g1:=sc.f1);have q5:=sc.vX (.string k.mem) (.string Hy);have M6:=(M5.setCell (p:=⟨w.heap.size+1,0,none⟩) (bS _) (.string k.mem)).setCell (p:=⟨w.heap.size+1,1,none⟩) (bS _) (.string Hy);go_roundw;case rel=>exact ⟨j+1,by omega,by go_num,by rw[HU.out];exact q5,M6⟩
  case measure=>simp[intOf];omega
 obtain rfl:j=k.ds.length:=by omega
 have d0:=uM.c0;have d1:=uM.c1;clear HL HF;go_wp2;go_ret;exact ⟨rfl,hbel⟩
def dM (mem:ByteArray):List Int:=(kn mem).map fun f=>f.ino
theorem Ka (mem:ByteArray):(dM mem).length=(kn mem).length:=Ia _
theorem Kb (mem:ByteArray):(kn mem).length<=8:=by
 unfold kn;split;·exact J1 _ _ _
 exact bh _
theorem afl (mem:ByteArray) {j:Nat} (h:j<(kn mem).length):(dM mem).take (j+1)=(dM mem).take j ++ [((kn mem).getD j rq).ino]:=by
 unfold dM;have h':j<((kn mem).map fun f=>f.ino).length:=by rw[Ia];exact h
 rw[mq h',List.getElem_map,jl,gM h];rfl
def Kc (k:bz) (w:World) (e:Ending) (w':World):Prop:=
 ∃ x a1 n1 c1 a2 n2 c2,e=.returned (.tuple #[.agg #[.string x,.slice a1 n1 c1,.slice a2 n2 c2],.bool (cq (cD k))])/\ah w w'/\
  (cq (cD k)=true->x=cD k/\n1=(cj (cD k)).length/\n2=(dM (cD k)).length/\aK w' a1 (cj (cD k))/\aK w' a2 (dM (cD k)))
theorem afm {base n cap B:Nat} {a:Option Addr} {w:World} {zs:List Int} (h:bH base w a n cap zs) (hB:B<base) (j:Nat) (v:Value):bH base (w.setCell ⟨B,j,none⟩ v) a n cap zs:=⟨h.1,ownsRow_setCell_below h.2 (a:=⟨B,j,none⟩) hB v⟩
theorem SM (k:bz) (a:Option Addr) (c:Nat) (ss:Nat->aI) (w:World) (hms:k.mem.size<=281474976710656) (hn:k.ds.length<=1048576) (hF:pY k.ds ss) (hR:cN w a k.ds ss):Calls prog 49 #[bP k a c] w (Kc k w):=by
 have x0:=FE w k a c;have hts:(cD k).size<=281474976710656:=by unfold cD;rw[xu];exact hms
 have n1:=aA (w.alloc (.cells #[.string k.mem,.string k.aL,.slice a k.ds.length c,aa k.ck] 28)) (.cells #[.string ⟨#[]⟩,.slice none 0 0,.slice none 0 0] 102);have e0:(w.alloc (.cells #[.string k.mem,.string k.aL,.slice a k.ds.length c,aa k.ck] 28)).heap.size=w.heap.size+1:=by simp
 have v1:=aY [.string ⟨#[]⟩,.slice none 0 0,.slice none 0 0] (w.alloc (.cells #[.string k.mem,.string k.aL,.slice a k.ds.length c,aa k.ck] 28)) 102;have x1:=x0.below n1;rw[e0] at v1;have L1:=hR.below x1.au;have c0:=x1.arg.c0;have c1:=x1.arg.c1;have c2:=x1.arg.c2;have c3:=x1.arg.c3;have HT:Hid (∀ W,cN W a k.ds ss->_):=fun W h=>zU k a c ss W hms hn hF h;have mf:=x1.au;obtain ⟨m,em⟩:∃ m,cD k=m:=⟨_,rfl⟩;unfold Kc;rw[em] at HT hts ⊢;have hr:Hid (∀ W,_):=fun W=>aey m W hts;have hA:Hid (∀ w e w',Cx m w e w'->∃ p,e=.returned (.tuple #[.pointer p,.bool (cq m)])/\ah w w'/\(cq m=true->∃ B N F P,p=some ⟨B,0,none⟩/\w.heap.size<=B/\qh m B N F P w')):=fun w e w' h=>h;clear hR x0 n1 e0 x1 hF em hms hn hts;cases hs:cq m with
 | false=>
  rw[hs] at hA;clear hs;go_enter func49,ntmps49;go_wp2_with (first
   | (go_at_call 7;refine (HT.out _ L1).mono ?_;rintro e w2 ⟨rfl,b2⟩;have v2:=v1.below b2;have me:=mf.trans (b2.mono mf.size))
   | (go_at_call 94;refine (hr.out _).mono ?_;intro e w3 hans;obtain ⟨p,rfl,b3,-⟩:=hA.out _ _ _ hans;clear hans;have v3:=v2.below b3;have pf:=me.trans (b3.mono me.size);have d0:=v3.c0;have d1:=v3.c1;have d2:=v3.c2;have f0:=v3.f0;have f1:=v3.f1;have f2:=v3.f2))
  have q:=((v3.set 0 (.string ⟨#[]⟩)).set 1 (.slice none 0 0)).set 2 (.slice none 0 0);have MF:=((pf.setCell (p:=⟨w.heap.size+1,0,none⟩) (ix _ 1) (.string ⟨#[]⟩)).setCell (p:=⟨w.heap.size+1,1,none⟩) (ix _ 1) (.slice none 0 0)).setCell (p:=⟨w.heap.size+1,2,none⟩) (ix _ 1) (.slice none 0 0);simp only[gx,gL] at q;exact bF (v:=.tuple #[.agg #[.string ⟨#[]⟩,.slice none 0 0,.slice none 0 0],.bool false]) (by simp[results,results49,go_sem,q.c0,q.c1,q.c2]) rfl ⟨⟨#[]⟩,none,0,0,none,0,0,rfl,MF,fun h=>by cases h⟩
 | true=>
  rw[hs] at hA;obtain ⟨_,_,rX,ht⟩:=aeL hs;have hu:cj m=jU (dJ (eo m) 8):=by unfold cj;rw[aN hs]
  have hu2:kn m=iE m (tW m) 8:=by unfold kn;rw[aN hs]
  have hp:Hid (∀ B N F P W,qh m B N F P W->Calls prog 95 #[ao B 0] W fun e w'=>∃ g c,e=.returned (aH g (cj m).length c)/\W.heap.size<=g/\az g (cR (cj m)) w'/\ah W w'):=fun B N F P W h=>
   (Rk W h.tb h.ps).mono fun e w' ⟨g,c,he,hc,hg,hk,hb⟩=>⟨g,c,by rw[hu,xH];exact he,hg,by rw[hu,<- SH];exact hk,hb⟩
  have hf:Hid (∀ B N F P W,qh m B N F P W->Calls prog 96 #[ao B 0] W fun e w'=>∃ g c,e=.returned (aH g (kn m).length c)/\W.heap.size<=g/\az g (kP (kn m)) w'/\ah W w'):=fun B N F P W h=>by rw[hu2,<- R9 8 fun x hx hk=>(aeK h.inv rX ht hx hk).1];exact aeM W h
  have hfl:=Kb m;have htk:Hid (∀ j,j<(kn m).length->(dM m).take (j+1)=(dM m).take j ++ [((kn m).getD j rq).ino]):=fun j h=>afl m h;have hfin:=Ka m;clear hs hu hu2 rX ht;go_enter func49,ntmps49;go_wp2_with (first
   | (go_at_call 7;refine (HT.out _ L1).mono ?_;rintro e w2 ⟨rfl,b2⟩;have v2:=v1.below b2;have me:=mf.trans (b2.mono mf.size))
   | (go_at_call 94;refine (hr.out _).mono ?_;intro e w3 hans;obtain ⟨p,rfl,b3,hy⟩:=hA.out _ _ _ hans;clear hans;obtain ⟨B,N,F,P,rfl,hB,hg⟩:=hy (by trivial);clear hy;have v3:=v2.below b3;have pf:=me.trans (b3.mono me.size))
   | (go_at_call 95;refine (hp.out _ _ _ _ _ hg).mono ?_;rintro e w4 ⟨g4,c4,rfl,hg4,k4,b4⟩;have v4:=v3.below b4;have hg':=hg.below b4;have yn:=pf.trans (b4.mono pf.size);have nb:=aA w4 (.cells #[.string m,aH g4 (cj m).length c4,.slice none 0 0] 102);have hv:=aY [.string m,aH g4 (cj m).length c4,.slice none 0 0] w4 102;have hg5:=hg'.below nb;have v5:=v4.below nb;have k5:=k4.below nb;have bel5:=yn.trans (nb.mono yn.size))
   | (go_at_call 96;refine (hf.out _ _ _ _ _ hg5).mono ?_;rintro e w6 ⟨g6,c6,rfl,He,k6,b6⟩;have v6:=v5.below b6;have Vy:=k5.below b6;have hv6:=hv.below b6;have bel6:=bel5.trans (b6.mono bel5.size)))
  have s4:=k4.lt;have s5:(w4.alloc (.cells #[.string m,aH g4 (cj m).length c4,.slice none 0 0] 102)).heap.size=w4.heap.size+1:=by simp
  rw[s5] at He;have s6:=k6.lt;have s7:=hv6.lt;have s8:w.heap.size+1<w4.heap.size:=v4.lt;have s9:w.heap.size+1<w3.heap.size:=v3.lt;have HH:Hid (g4<w4.heap.size/\w4.heap.size<g6/\g6<w6.heap.size/\w.heap.size+1<w4.heap.size/\w.heap.size+1<g4):=⟨s4,by omega,s6,s8,by omega⟩;have bf:bH w6.heap.size w6 none 0 0 []:=Bz _;clear v1 v2 v3 v4 v5 hg hg' hg5 nb hv k4 k5 mf me pf yn bel5 b2 b3 b4 b6 hA hp hf hr HT L1 c0 c1 c2 c3 s4 s5 s6 s7 s8 s9 hg4 He hB;obtain ⟨n,en⟩:∃ n,(kn m).length=n:=⟨_,rfl⟩;rw[en] at htk hfl hfin ⊢;go_loopw [27] (fun i W=>∃ (j:Nat) (a':Option Addr) (c':Nat),j<=n/\i=aa j/\az w4.heap.size [.string m,aH g4 (cj m).length c4,.slice a' j c'] W/\bH w6.heap.size W a' j c' ((dM m).take j)/\az g6 (kP (kn m)) W/\az (w.heap.size+1) [.string ⟨#[]⟩,.slice none 0 0,.slice none 0 0] W/\az g4 (cR (cj m)) W/\w6.heap.size<=W.heap.size/\ah w W) (fun i _=>n-(intOf i).toNat);case atStart=>exact ⟨0,none,0,bh _,rfl,hv6,bf,k6,v6,Vy,av _,bel6⟩
  case round=>
   obtain ⟨j,a7,c7,hj,rfl,hv7,C4,LR,v7,MV,hs7,Mg⟩:=hrel;clear hv6 bf k6 v6 Vy bel6;by_cases hlt:j<n
   ·obtain ⟨y0,y1,y2,y3,y4⟩:=aeE LR (i:=j) (by omega);have HS:Hid ((dM m).take (j+1)=(dM m).take j ++ [((kn m).getD j rq).ino]):=htk.out j hlt;obtain ⟨f,ef⟩:∃ f,(kn m).getD j rq=f:=⟨_,rfl⟩;rw[ef] at y0 y1 y2 y3 y4 HS;have e1:(0:Int)<=(j:Int):=by omega
    have e2:(j:Int)<(n:Int):=by omega
    have nl:=aA wr (.cells #[aa f.ino,.string f.path,aa f.kind,aa f.owner,.string f.data] 138);have nbk:=aY [aa f.ino,.string f.path,aa f.kind,aa f.owner,.string f.data] wr 138;have z0:=nbk.c0;have Wm:=hv7.below nl;have bf8:=C4.below nl;have k68:=LR.below nl;have v8:=v7.below nl;have k48:=MV.below nl;have Xy:=br hs7 nl.size;have aj8:=Mg.trans (nl.mono Mg.size);have d2:=Wm.c2;clear hv7 C4 LR v7 MV ef htk;go_wp2_with (at_builtin;refine RG rfl (.tmp 32) (.tmp 35) rfl bf8 f.ino (by rfl) (H:=wr.heap.size+1) (by simp) (by rfl) (by omega) Xy ?_;intro g9 c9 w9 bf9 b9;have C5:=gd Wm b9 (by have:=HH.out;omega);have k69:=gd k68 b9 HH.out.2.2.1;have v9:=gd v8 b9 (by have:=HH.out;omega);have k49:=gd k48 b9 (by have:=HH.out;omega);have ald:=aj8.trans (b9.mono (by have:=HH.out;omega));have g2:=C5.c2;have h2:=C5.f2);have hne1:w4.heap.size≠g6:=by have:=HH.out;omega
    have hne2:w4.heap.size≠w.heap.size+1:=by have:=HH.out;omega
    have alC:w4.heap.size≠g4:=by have:=HH.out;omega
    have hle:w.heap.size<=w4.heap.size:=by have:=HH.out;omega
    have q:=C5.set 2 (aH g9 (j+1) c9);simp only[gx,gL] at q;have bfq:=afm bf9 (B:=w4.heap.size) (by have:=HH.out;omega) 2 (aH g9 (j+1) c9);have k6q:=k69.aP hne1 2 (aH g9 (j+1) c9);have vq:=v9.aP hne2 2 (aH g9 (j+1) c9);have Mo:=k49.aP alC 2 (aH g9 (j+1) c9);have hsq:w6.heap.size<=(w9.setCell ⟨w4.heap.size,2,none⟩ (aH g9 (j+1) c9)).heap.size:=br (br (br Xy b9.size) (av _)) (by simp);have ajr:=ald.setCell (p:=⟨w4.heap.size,2,none⟩) hle (aH g9 (j+1) c9);go_roundw;case rel=>exact ⟨j+1,some ⟨g9,0,none⟩,c9,by omega,by go_num,q,by rw[HS.out];exact bfq,k6q,vq,Mo,hsq,ajr⟩
    case measure=>simp[intOf];omega
   obtain rfl:j=n:=by omega
   have htl:(dM m).take j=dM m:=ox (by omega);rw[htl] at C4;have d0:=hv7.c0;have d1:=hv7.c1;have d2:=hv7.c2;have f0:=v7.c0;have f1:=v7.c1;have f2:=v7.c2;have g0:=v7.f0;have g1:=v7.f1;have g2:=v7.f2;have HB7:Hid (bH w6.heap.size wr a7 j c7 (dM m)):=C4;clear C4 htk htl;go_wp2;have hle:w.heap.size<=w.heap.size+1:=ix _ 1;have q:=((v7.set 0 (.string m)).set 1 (aH g4 (cj m).length c4)).set 2 (.slice a7 j c7);simp only[gx,gL] at q;have hne:w.heap.size+1≠g4:=by have:=HH.out;omega
   have MF:=((Mg.setCell (p:=⟨w.heap.size+1,0,none⟩) hle (.string m)).setCell (p:=⟨w.heap.size+1,1,none⟩) hle (aH g4 (cj m).length c4)).setCell (p:=⟨w.heap.size+1,2,none⟩) hle (.slice a7 j c7);have Mo:=((MV.aP hne 0 (.string m)).aP hne 1 (aH g4 (cj m).length c4)).aP hne 2 (.slice a7 j c7);have ow:=((HB7.out.own.set (B:=w.heap.size+1) (by have:=HH.out;omega) 0 (.string m)).set (B:=w.heap.size+1) (by have:=HH.out;omega) 1 (aH g4 (cj m).length c4)).set (B:=w.heap.size+1) (by have:=HH.out;omega) 2 (.slice a7 j c7);exact bF (v:=.tuple #[.agg #[.string m,aH g4 (cj m).length c4,.slice a7 j c7],.bool true]) (by simp[results,results49,go_sem,q.c0,q.c1,q.c2]) rfl ⟨m,some ⟨g4,0,none⟩,_,c4,a7,j,c7,rfl,MF,fun _=>⟨rfl,rfl,hfin.symm,wU Mo,ow.row⟩⟩
def mE (k:bz) (j:Nat):Bool:=tV (cD k) (cj (cD k)) (dM (cD k)) (aJ k.ds j)
abbrev fM (ds:List ai):List Int:=dA (fun d:ai=>[d.ino]) ds ds.length
abbrev kQ (ds:List ai):List Int:=dA (fun d:ai=>d.fr) ds ds.length
abbrev rv (ds:List ai):List Int:=dA (fun d:ai=>d.po) ds ds.length
def CH (k:bz):Bool:=k.mem.toList == (nX k.mem k.aL k.ds k.ds.length).toList
def fj (k:bz):Bool:=dY k.mem k.aL && (!decide (k.ck<0) && (!decide (999999<k.ck) && (ff (fM k.ds) && (cq (cD k) && (bX (mE k) k.ds.length && (gV (fM k.ds++kQ k.ds) && (gV (rv k.ds) && CH k)))))))
theorem Kd (f:ai->List Int) (ds:List ai) (b n:Nat) (h:∀ j,j<n->(f (aJ ds j)).length<=b):∀ k,k<=n->(dA f ds k).length<=k*b
 | 0,_=>by simp[dA]
 | k+1,hk=>by have h1:=Kd f ds b n h k (by omega);have h2:=h k (by omega);rw[dA,de,Nat.succ_mul];omega
theorem Ad (ds:List ai):∀ k,(dA (fun d:ai=>[d.ino]) ds k).length=k
 | 0=>rfl
 | k+1=>by rw[dA,de,Ad ds k];rfl
theorem Ke (ds:List ai):∀ k i,i<k->(dA (fun d:ai=>[d.ino]) ds k).getD i 0=(aJ ds i).ino
 | 0,i,h=>by omega
 | k+1,i,h=>by
  rw[dA];have hl:=Ad ds k;by_cases hi:i<k
  ·have h1:=Ke ds k i hi;rw[jl] at h1 ⊢;rw[nD (by omega)];exact h1
  ·obtain rfl:i=k:=by omega
   rw[jl,nF (by omega),hl];simp
theorem SN {zs:List Int} (h:ff zs=true) (h0:∀ i,i<zs.length->0<=zs.getD i 0):∀ i,i<zs.length->(i:Int)<=zs.getD i 0
 | 0,hi=>h0 0 hi
 | i+1,hi=>by have h1:=SN h h0 i (by omega);have h2:=kH.1 h (i+1) hi;simp only[tP,nx,dp,Nat.add_sub_cancel] at h2;omega
theorem afn {k:bz} (h1:ff (fM k.ds)=true) (h2:bX (mE k) k.ds.length=true):k.ds.length<=8/\∀ j,j<k.ds.length->bZ (aJ k.ds j)=true:=by
 have hok:∀ j,j<k.ds.length->bZ (aJ k.ds j)=true:=fun j hj=>by have h:=kH.1 h2 j hj;simp only[mE,tV,ca] at h;exact h.1
 refine ⟨?_,hok⟩;have hl:=Ad k.ds k.ds.length;have VL:∀ i,i<k.ds.length->0<=(aJ k.ds i).ino/\(aJ k.ds i).ino<=7:=fun i hi=>(jt (hok i hi)).2.2.2.2.1;by_cases h:k.ds.length<=8;·exact h
 have h3:=SN h1 (fun i hi=>by
  have hi':i<k.ds.length:=by rw[<- hl];exact hi
  show 0<=(dA (fun d:ai=>[d.ino]) k.ds k.ds.length).getD i 0
  rw[Ke k.ds k.ds.length i hi'];exact (VL i hi').1) 8 (by show 8<(dA (fun d:ai=>[d.ino]) k.ds k.ds.length).length;omega)
 have h4:=(VL 8 (by omega)).2;have h5:(fM k.ds).getD 8 0=(aJ k.ds 8).ino:=Ke k.ds k.ds.length 8 (by omega);omega
theorem SO {k:bz} (h1:ff (fM k.ds)=true) (h2:bX (mE k) k.ds.length=true):(fM k.ds++kQ k.ds).length<=1000/\(rv k.ds).length<=1000:=by
 obtain ⟨h8,hok⟩:=afn h1 h2;have a1:=Ad k.ds k.ds.length;have a2:=Kd (fun d:ai=>d.fr) k.ds 2 k.ds.length (fun j hj=>(jt (hok j hj)).2.2.2.2.2.2.2.2.1) k.ds.length (av _);have a3:=Kd (fun d:ai=>d.po) k.ds 4 k.ds.length (fun j hj=>(jt (hok j hj)).2.2.2.2.2.2.2.1) k.ds.length (av _);refine ⟨?_,by show (dA (fun d:ai=>d.po) k.ds k.ds.length).length<=1000;omega⟩;rw[de];show (dA (fun d:ai=>[d.ino]) k.ds k.ds.length).length+(dA (fun d:ai=>d.fr) k.ds k.ds.length).length<=1000
 omega
theorem Kf (k:bz) (a:Option Addr) (c:Nat) (ss:Nat->aI) (w:World) (hm1:k.mem.size<=1048576) (hm2:k.aL.size<=1048576) (ht:k.ds.length+ja k.ds k.ds.length<=1048576) (hF:pY k.ds ss) (hR:cN w a k.ds ss):Calls prog 24 #[bP k a c] w (aV (.bool (fj k)) w):=by
 have xc:=FE w k a c;have hn:k.ds.length<=1048576:=by omega
 have hgi:(fM k.ds).length<=1048576:=by
  have h1:=Ad k.ds k.ds.length;show (dA (fun d:ai=>[d.ino]) k.ds k.ds.length).length<=1048576
  omega
 have hgf:(kQ k.ds).length<=1048576:=by
  have h1:=Cw (fun d:ai=>d.fr) k.ds 0 (fun d=>by unfold qT;omega) k.ds.length;show (dA (fun d:ai=>d.fr) k.ds k.ds.length).length<=1048576
  omega
 have HL:Hid (∀ W,ah w W->cN W a k.ds ss):=fun W hb=>hR.below hb;have wG:Hid (∀ W,ah w W->Calls prog 46 #[.slice a k.ds.length c] W fun e w'=>∃ a c,e=.returned (.slice a (fM k.ds).length c)/\aK w' a (fM k.ds)/\ah W w'):=fun W hb=>(RH a c k.ds ss W hn ht (hR.below hb)).mono fun e w' ⟨a,c,he,ho,_,hb⟩=>⟨a,c,he,ho.row,hb⟩;have uJ:Hid (∀ W,ah w W->Calls prog 53 #[.slice a k.ds.length c] W fun e w'=>∃ a c,e=.returned (.slice a (kQ k.ds).length c)/\aK w' a (kQ k.ds)/\ah W w'):=fun W hb=>(RI a c k.ds ss W hn ht (hR.below hb)).mono fun e w' ⟨a,c,he,ho,_,hb⟩=>⟨a,c,he,ho.row,hb⟩;have NC:Hid (∀ W,ah w W->Calls prog 54 #[.slice a k.ds.length c] W fun e w'=>∃ a c,e=.returned (.slice a (rv k.ds).length c)/\aK w' a (rv k.ds)/\ah W w'):=fun W hb=>(RJ a c k.ds ss W hn ht (hR.below hb)).mono fun e w' ⟨a,c,he,ho,_,hb⟩=>⟨a,c,he,ho.row,hb⟩;have uF:Hid (∀ W,Calls prog 47 #[.agg #[.string k.mem,.string k.aL]] W (aV (.bool (dY k.mem k.aL)) W)):=fun W=>(P9 k.mem k.aL W (by unfold maxLen;omega) (by unfold maxLen;omega)).mono fun e w' ⟨he,hw⟩=>⟨he,by rw[hw];exact aA _ _⟩;have yr:Hid (∀ a c W,aK W a (fM k.ds)->Calls prog 48 #[.slice a (fM k.ds).length c] W fun e w'=>e=.returned (.bool (ff (fM k.ds)))/\∃ n,w'=W.drewN n):=fun a c W h=>BG a c _ W (by omega) h;have Nb:Hid (∀ W,ah w W->_):=fun W hb=>SM k a c ss W (by omega) hn hF (hR.below hb);have Av:Hid (∀ W e w',Kc k W e w'->∃ x a1 n1 c1 a2 n2 c2,e=.returned (.tuple #[.agg #[.string x,.slice a1 n1 c1,.slice a2 n2 c2],.bool (cq (cD k))])/\ah W w'/\(cq (cD k)=true->x=cD k/\n1=(cj (cD k)).length/\n2=(dM (cD k)).length/\aK w' a1 (cj (cD k))/\aK w' a2 (dM (cD k)))):=fun W e w' h=>h;have Hr:Hid (∀ (j:Nat) (a1 a2:Option Addr) (c1 c2:Nat) W,(cD k).size=768->ah w W->aK W a1 (cj (cD k))->aK W a2 (dM (cD k))->j<k.ds.length->Calls prog 50 #[.agg #[.string (cD k),.slice a1 (cj (cD k)).length c1,.slice a2 (dM (cD k)).length c2],bL (aJ k.ds j) (ss j)] W (aV (.bool (mE k j)) W)):=fun j a1 a2 c1 c2 W h1 hb r1 r2 hj=>by obtain ⟨f1,f2,f3⟩:=hF j hj;have hfl:=Kb (cD k);exact ad9 (cD k) a1 a2 c1 c2 (cj (cD k)) (dM (cD k)) (aJ k.ds j) (ss j) W h1 f1 f2 f3 (afg _) (by rw[Ka];omega) ((hR.below hb).sub j hj) r1 r2
 have kB:Hid (∀ (ia fa:Option Addr) (ic fc:Nat) W,aK W ia (fM k.ds)->aK W fa (kQ k.ds)->Calls prog 52 #[aH W.heap.size 2 2] (W.alloc (.cells #[.slice ia (fM k.ds).length ic,.slice fa (kQ k.ds).length fc] 29)) fun e w'=>∃ a c,e=.returned (.slice a (fM k.ds++kQ k.ds).length c)/\aK w' a (fM k.ds++kQ k.ds)/\ah W w'):=fun ia fa ic fc W r1 r2=>by have nb:=aA W (.cells #[.slice ia (fM k.ds).length ic,.slice fa (kQ k.ds).length fc] 29);have bk:=aY [.slice ia (fM k.ds).length ic,.slice fa (kQ k.ds).length fc] W 29;exact (vi W.heap.size ia fa ic fc (fM k.ds) (kQ k.ds) _ bk.c0 bk.c1 bk.lt (r1.below nb) (r2.below nb) hgi hgf).mono fun e w' ⟨a,c,he,ho,_,hb⟩=>⟨a,c,he,ho.row,nb.trans (hb.mono nb.size)⟩
 have HA1:Hid (ff (fM k.ds)=true->bX (mE k) k.ds.length=true->∀ a c W,aK W a (fM k.ds++kQ k.ds)->Calls prog 51 #[.slice a (fM k.ds++kQ k.ds).length c] W (aV (.bool (gV (fM k.ds++kQ k.ds))) W)):=fun h1 h2 a c W h=>RN a c _ W (SO h1 h2).1 h;have HA2:Hid (ff (fM k.ds)=true->bX (mE k) k.ds.length=true->∀ a c W,aK W a (rv k.ds)->Calls prog 51 #[.slice a (rv k.ds).length c] W (aV (.bool (gV (rv k.ds))) W)):=fun h1 h2 a c W h=>RN a c _ W (SO h1 h2).2 h;have Mw:Hid (dY k.mem k.aL=true->∀ W,ah w W->Calls prog 55 #[bP k a c] W (aV (.bool (CH k)) W)):=fun h W hb=>afk k a c ss W (BP h).1 (BP h).2 hn hF (hR.below hb);have HD:Hid (dY k.mem k.aL=true->(cD k).size=768):=fun h=>by rw[show (cD k).size=k.mem.size from xu _ _ _];exact (BP h).1
 have c0:=xc.arg.c0;have c1:=xc.arg.c1;have c2:=xc.arg.c2;have c3:=xc.arg.c3;clear hR hF;unfold fj;obtain ⟨m,em⟩:∃ m,cD k=m:=⟨_,rfl⟩;obtain ⟨us,eu⟩:∃ us,cj m=us:=⟨_,rfl⟩;obtain ⟨fs,ef⟩:∃ fs,dM m=fs:=⟨_,rfl⟩;rw[em,eu,ef] at Hr Av;rw[em] at HD ⊢;obtain ⟨gi,WY⟩:∃ g,fM k.ds=g:=⟨_,rfl⟩;obtain ⟨gf,XM⟩:∃ g,kQ k.ds=g:=⟨_,rfl⟩;obtain ⟨gp,Xd⟩:∃ g,rv k.ds=g:=⟨_,rfl⟩;rw[WY] at wG yr kB HA1 HA2 ⊢;rw[XM] at uJ kB HA1 ⊢;rw[Xd] at NC HA2 ⊢;obtain ⟨gq,Ye⟩:∃ g,gi++gf=g:=⟨_,rfl⟩;rw[Ye] at kB HA1 ⊢;clear em eu ef WY XM Xd Ye hgi hgf;cases hc0:dY k.mem k.aL with
 | false=>
  rw[hc0] at uF;go_enter func24,ntmps24;go_wp2_with (first
   | (go_at_call 46;refine (wG.out _ xc.au).mono ?_;rintro e w1 ⟨ia,ic,rfl,ir,b1⟩;replace xc:=xc.below b1;replace c0:=xc.arg.c0;replace c1:=xc.arg.c1;replace c2:=xc.arg.c2;replace c3:=xc.arg.c3)
   | (go_at_call 47;refine (uF.out _).mono ?_;rintro e w1 ⟨rfl,b1⟩;replace xc:=xc.below b1;replace c0:=xc.arg.c0;replace c1:=xc.arg.c1;replace c2:=xc.arg.c2;replace c3:=xc.arg.c3;replace ir:=ir.below b1))
  go_ret;exact ⟨rfl,xc.au⟩
 | true=>
  have hm:m.size=768:=HD.out hc0;replace Mw:Hid (∀ W,ah w W->Calls prog 55 #[bP k a c] W (aV (.bool (CH k)) W)):=Mw.out hc0;rw[hc0] at uF;by_cases hq4:k.ck<0
  ·rw[bK hq4];go_enter func24,ntmps24;go_wp2_with (first
    | (go_at_call 46;refine (wG.out _ xc.au).mono ?_;rintro e w1 ⟨ia,ic,rfl,ir,b1⟩;replace xc:=xc.below b1;replace c0:=xc.arg.c0;replace c1:=xc.arg.c1;replace c2:=xc.arg.c2;replace c3:=xc.arg.c3)
    | (go_at_call 47;refine (uF.out _).mono ?_;rintro e w1 ⟨rfl,b1⟩;replace xc:=xc.below b1;replace c0:=xc.arg.c0;replace c1:=xc.arg.c1;replace c2:=xc.arg.c2;replace c3:=xc.arg.c3;replace ir:=ir.below b1))
   go_ret;exact ⟨rfl,xc.au⟩
  ·rw[bA hq4];have hr4:decide (k.ck<0)=false:=bA hq4;by_cases G9:999999<k.ck
   ·rw[bK G9];go_enter func24,ntmps24;go_wp2_with (first
     | (go_at_call 46;refine (wG.out _ xc.au).mono ?_;rintro e w1 ⟨ia,ic,rfl,ir,b1⟩;replace xc:=xc.below b1;replace c0:=xc.arg.c0;replace c1:=xc.arg.c1;replace c2:=xc.arg.c2;replace c3:=xc.arg.c3)
     | (go_at_call 47;refine (uF.out _).mono ?_;rintro e w1 ⟨rfl,b1⟩;replace xc:=xc.below b1;replace c0:=xc.arg.c0;replace c1:=xc.arg.c1;replace c2:=xc.arg.c2;replace c3:=xc.arg.c3;replace ir:=ir.below b1))
    go_ret;exact ⟨rfl,xc.au⟩
   rw[bA G9];have hr6:decide (999999<k.ck)=false:=bA G9;cases hc3:ff gi with
   | false=>
    rw[hc3] at yr;go_enter func24,ntmps24;go_wp2_with (first
     | (go_at_call 46;refine (wG.out _ xc.au).mono ?_;rintro e w1 ⟨ia,ic,rfl,ir,b1⟩;replace xc:=xc.below b1;replace c0:=xc.arg.c0;replace c1:=xc.arg.c1;replace c2:=xc.arg.c2;replace c3:=xc.arg.c3)
     | (go_at_call 47;refine (uF.out _).mono ?_;rintro e w1 ⟨rfl,b1⟩;replace xc:=xc.below b1;replace c0:=xc.arg.c0;replace c1:=xc.arg.c1;replace c2:=xc.arg.c2;replace c3:=xc.arg.c3;replace ir:=ir.below b1)
     | (go_at_call 48;refine (yr.out _ _ _ ir).mono ?_;rintro e w1 ⟨rfl,n1,rfl⟩;replace xc:=xc.below (gy (aQ _ _) n1);replace c0:=xc.arg.c0;replace c1:=xc.arg.c1;replace c2:=xc.arg.c2;replace c3:=xc.arg.c3;replace ir:=ir.below (gy (aQ _ _) n1)))
    go_ret;exact ⟨rfl,xc.au⟩
   | true=>
    replace HA1:=HA1.out hc3;replace HA2:=HA2.out hc3;have HA1:Hid _:=HA1;have HA2:Hid _:=HA2;rw[hc3] at yr;cases hc4:cq m with
    | false=>
     rw[hc4] at Av;go_enter func24,ntmps24;go_wp2_with (first
      | (go_at_call 46;refine (wG.out _ xc.au).mono ?_;rintro e w1 ⟨ia,ic,rfl,ir,b1⟩;replace xc:=xc.below b1;replace c0:=xc.arg.c0;replace c1:=xc.arg.c1;replace c2:=xc.arg.c2;replace c3:=xc.arg.c3)
      | (go_at_call 47;refine (uF.out _).mono ?_;rintro e w1 ⟨rfl,b1⟩;replace xc:=xc.below b1;replace c0:=xc.arg.c0;replace c1:=xc.arg.c1;replace c2:=xc.arg.c2;replace c3:=xc.arg.c3;replace ir:=ir.below b1)
      | (go_at_call 48;refine (yr.out _ _ _ ir).mono ?_;rintro e w1 ⟨rfl,n1,rfl⟩;replace xc:=xc.below (gy (aQ _ _) n1);replace c0:=xc.arg.c0;replace c1:=xc.arg.c1;replace c2:=xc.arg.c2;replace c3:=xc.arg.c3;replace ir:=ir.below (gy (aQ _ _) n1))
      | (go_at_call 49;refine (Nb.out _ xc.au).mono ?_;intro e w1 hans;obtain ⟨vx,yu,vn1,C9,ym,vn2,De,rfl,b1,hy⟩:=Av.out _ _ _ hans;clear hans;clear hy;replace xc:=xc.below b1;replace c0:=xc.arg.c0;replace c1:=xc.arg.c1;replace c2:=xc.arg.c2;replace c3:=xc.arg.c3;replace ir:=ir.below b1))
     go_ret;exact ⟨rfl,xc.au.alloc xc.au.size _⟩
    | true=>
     rw[hc4] at Av;go_enter func24,ntmps24;go_wp2_with (first
      | (go_at_call 46;refine (wG.out _ xc.au).mono ?_;rintro e w1 ⟨ia,ic,rfl,ir,b1⟩;replace xc:=xc.below b1;replace c0:=xc.arg.c0;replace c1:=xc.arg.c1;replace c2:=xc.arg.c2;replace c3:=xc.arg.c3)
      | (go_at_call 47;refine (uF.out _).mono ?_;rintro e w1 ⟨rfl,b1⟩;replace xc:=xc.below b1;replace c0:=xc.arg.c0;replace c1:=xc.arg.c1;replace c2:=xc.arg.c2;replace c3:=xc.arg.c3;replace ir:=ir.below b1)
      | (go_at_call 48;refine (yr.out _ _ _ ir).mono ?_;rintro e w1 ⟨rfl,n1,rfl⟩;replace xc:=xc.below (gy (aQ _ _) n1);replace c0:=xc.arg.c0;replace c1:=xc.arg.c1;replace c2:=xc.arg.c2;replace c3:=xc.arg.c3;replace ir:=ir.below (gy (aQ _ _) n1))
      | (go_at_call 49;refine (Nb.out _ xc.au).mono ?_;intro e w1 hans;obtain ⟨vx,yu,vn1,C9,ym,vn2,De,rfl,b1,hy⟩:=Av.out _ _ _ hans;clear hans;obtain ⟨vq1,vq2,vq3,Yp,Yf⟩:=hy (by trivial);clear hy;subst vq1;subst vq2;subst vq3;replace xc:=xc.below b1;replace c0:=xc.arg.c0;replace c1:=xc.arg.c1;replace c2:=xc.arg.c2;replace c3:=xc.arg.c3;replace ir:=ir.below b1;have nb:=aA w1 (.cells #[.string vx,.slice yu us.length C9,.slice ym fs.length De] 102);have vb:=aY [.string vx,.slice yu us.length C9,.slice ym fs.length De] w1 102;have xd:=xc.below nb;have cd2:=xd.arg.c2))
     have XI:=Yp.below nb;have VJ:=Yf.below nb;have Xj:=ir.below nb;obtain ⟨VB,Mi⟩:∃ VB,w1.heap.size=VB:=⟨_,rfl⟩;rw[Mi] at vb;try simp only[Mi]
     clear c0 c1 c2 c3 cd2 xc Yp Yf ir nb wG uF yr Nb Av HD Mi;go_loopw [40] (fun i w'=>∃ j:Nat,j<=k.ds.length/\bX (mE k) j=true/\i=aa j/\zT w k a c w'/\az VB [.string vx,.slice yu us.length C9,.slice ym fs.length De] w'/\aK w' yu us/\aK w' ym fs/\aK w' ia gi) (fun i _=>k.ds.length-(intOf i).toNat);case atStart=>exact ⟨0,bh _,rfl,rfl,xd,vb,XI,VJ,Xj⟩
     case round=>
      obtain ⟨j,hj,hto,rfl,xr,Yc,X9,WV,LV⟩:=hrel;clear xd vb XI VJ Xj;by_cases hlt:j<k.ds.length
      ·obtain ⟨b,off,hab,im,hc⟩:=(HL.out _ xr.au).row.get hlt;obtain ⟨y0,y1,y2,y3,y4,y5,y6,y7⟩:=hc j hlt;have HC:Hid (∀ W,ah w W->aK W yu us->aK W ym fs->_):=fun W h1 h2 h3=>Hr.out j yu ym C9 De W hm h1 h2 h3 hlt;obtain ⟨d,ed⟩:∃ d,aJ k.ds j=d:=⟨_,rfl⟩;obtain ⟨s,es⟩:∃ s,ss j=s:=⟨_,rfl⟩;rw[ed,es] at HC;rw[ed] at y0 y1 y2 y3 y4 y5 y6 y7;rw[es] at y4 y6 y7;have e1:(0:Int)<=(j:Int):=by omega
       have e2:(j:Int)<(k.ds.length:Int):=by omega
       have nb:=aA wr (.cells (dU d s) 31);have bx:=jP d s wr 31;have z0:=bx.c0;have z1:=bx.c1;have z2:=bx.c2;have z3:=bx.c3;have z4:=bx.c4;have z5:=bx.c5;have z6:=bx.c6;have z7:=bx.c7;have x2:=xr.below nb;have GM:=Yc.below nb;have p1:=X9.below nb;have p2:=WV.below nb;have p3:=LV.below nb;have v0:=GM.c0;have v1:=GM.c1;have v2:=GM.c2;subst hab;clear ed es hc HL Hr;cases hat:mE k j with
       | false=>
        rw[hat] at HC;have HT:Hid (bX (mE k) k.ds.length=false):=qP hlt hat;clear hat;go_wp2_with (go_at_call 50;refine (HC.out _ x2.au p1 p2).mono ?_;rintro e w3 ⟨rfl,b3⟩;have x3:=x2.below b3);go_ret;exact ⟨by rw[HT.out];rfl,x3.au⟩
       | true=>
        rw[hat] at HC;have HT:Hid (bX (mE k) (j+1)=true):=qQ hto hat;clear hat;go_wp2_with (go_at_call 50;refine (HC.out _ x2.au p1 p2).mono ?_;rintro e w3 ⟨rfl,b3⟩;have x3:=x2.below b3;have MH:=GM.below b3;have t1:=p1.below b3;have t2:=p2.below b3;have t3:=p3.below b3);go_roundw;case rel=>exact ⟨j+1,by omega,HT.out,by go_num,x3,MH,t1,t2,t3⟩
        case measure=>simp[intOf];omega
      obtain rfl:j=k.ds.length:=by omega
      have HT:Hid (bX (mE k) k.ds.length=true):=hto;replace HA1:Hid (∀ a c W,aK W a gq->Calls prog 51 #[.slice a gq.length c] W (aV (.bool (gV gq)) W)):=HA1.out hto;replace HA2:Hid (∀ a c W,aK W a gp->Calls prog 51 #[.slice a gp.length c] W (aV (.bool (gV gp)) W)):=HA2.out hto;have xc:=xr;have ir:=LV;have c0:=xc.arg.c0;have c1:=xc.arg.c1;have c2:=xc.arg.c2;have c3:=xc.arg.c3;clear HL Hr hto X9 WV Yc LV xr;cases ho1:gV gq
      ·rw[ho1] at HA1;have HO:Hid (gV gq=false):=ho1;clear ho1;go_wp2_with (first
        | (go_at_call 53;refine (uJ.out _ xc.au).mono ?_;rintro e w1 ⟨fa,fc,rfl,fr,b1⟩;replace xc:=xc.below b1;replace c0:=xc.arg.c0;replace c1:=xc.arg.c1;replace c2:=xc.arg.c2;replace c3:=xc.arg.c3;replace ir:=ir.below b1)
        | (go_at_call 52;refine (kB.out _ _ _ _ _ ir fr).mono ?_;rintro e w2 ⟨qa,qc,rfl,qr,b2⟩;replace xc:=xc.below b2;replace c0:=xc.arg.c0;replace c1:=xc.arg.c1;replace c2:=xc.arg.c2;replace c3:=xc.arg.c3)
        | (go_at_call 51;refine (HA1.out _ _ _ qr).mono ?_;rintro e w3 ⟨rfl,b3⟩;replace xc:=xc.below b3;replace c0:=xc.arg.c0;replace c1:=xc.arg.c1;replace c2:=xc.arg.c2;replace c3:=xc.arg.c3;clear HA1))
       go_ret;exact ⟨by rw[HT.out,HO.out];rfl,xc.au⟩
      rw[ho1] at HA1;cases ho2:gV gp
      ·rw[ho2] at HA2;have HO:Hid (gV gq=true/\gV gp=false):=⟨ho1,ho2⟩;clear ho1 ho2;go_wp2_with (first
        | (go_at_call 53;refine (uJ.out _ xc.au).mono ?_;rintro e w1 ⟨fa,fc,rfl,fr,b1⟩;replace xc:=xc.below b1;replace c0:=xc.arg.c0;replace c1:=xc.arg.c1;replace c2:=xc.arg.c2;replace c3:=xc.arg.c3;replace ir:=ir.below b1)
        | (go_at_call 52;refine (kB.out _ _ _ _ _ ir fr).mono ?_;rintro e w2 ⟨qa,qc,rfl,qr,b2⟩;replace xc:=xc.below b2;replace c0:=xc.arg.c0;replace c1:=xc.arg.c1;replace c2:=xc.arg.c2;replace c3:=xc.arg.c3)
        | (go_at_call 51;refine (HA1.out _ _ _ qr).mono ?_;rintro e w3 ⟨rfl,b3⟩;replace xc:=xc.below b3;replace c0:=xc.arg.c0;replace c1:=xc.arg.c1;replace c2:=xc.arg.c2;replace c3:=xc.arg.c3;clear HA1)
        | (go_at_call 54;refine (NC.out _ xc.au).mono ?_;rintro e w4 ⟨pa,pc,rfl,pr,b4⟩;replace xc:=xc.below b4;replace c0:=xc.arg.c0;replace c1:=xc.arg.c1;replace c2:=xc.arg.c2;replace c3:=xc.arg.c3)
        | (go_at_call 51;refine (HA2.out _ _ _ pr).mono ?_;rintro e w5 ⟨rfl,b5⟩;replace xc:=xc.below b5;replace c0:=xc.arg.c0;replace c1:=xc.arg.c1;replace c2:=xc.arg.c2;replace c3:=xc.arg.c3))
       go_ret;exact ⟨by rw[HT.out,HO.out.1,HO.out.2];rfl,xc.au⟩
      rw[ho2] at HA2;have HO:Hid (gV gq=true/\gV gp=true):=⟨ho1,ho2⟩;clear ho1 ho2;go_wp2_with (first
       | (go_at_call 53;refine (uJ.out _ xc.au).mono ?_;rintro e w1 ⟨fa,fc,rfl,fr,b1⟩;replace xc:=xc.below b1;replace c0:=xc.arg.c0;replace c1:=xc.arg.c1;replace c2:=xc.arg.c2;replace c3:=xc.arg.c3;replace ir:=ir.below b1)
       | (go_at_call 52;refine (kB.out _ _ _ _ _ ir fr).mono ?_;rintro e w2 ⟨qa,qc,rfl,qr,b2⟩;replace xc:=xc.below b2;replace c0:=xc.arg.c0;replace c1:=xc.arg.c1;replace c2:=xc.arg.c2;replace c3:=xc.arg.c3)
       | (go_at_call 51;refine (HA1.out _ _ _ qr).mono ?_;rintro e w3 ⟨rfl,b3⟩;replace xc:=xc.below b3;replace c0:=xc.arg.c0;replace c1:=xc.arg.c1;replace c2:=xc.arg.c2;replace c3:=xc.arg.c3;clear HA1)
       | (go_at_call 54;refine (NC.out _ xc.au).mono ?_;rintro e w4 ⟨pa,pc,rfl,pr,b4⟩;replace xc:=xc.below b4;replace c0:=xc.arg.c0;replace c1:=xc.arg.c1;replace c2:=xc.arg.c2;replace c3:=xc.arg.c3)
       | (go_at_call 51;refine (HA2.out _ _ _ pr).mono ?_;rintro e w5 ⟨rfl,b5⟩;replace xc:=xc.below b5;replace c0:=xc.arg.c0;replace c1:=xc.arg.c1;replace c2:=xc.arg.c2;replace c3:=xc.arg.c3)
       | (go_at_call 55;refine (Mw.out _ xc.au).mono ?_;rintro e w6 ⟨rfl,b6⟩;replace xc:=xc.below b6;replace c0:=xc.arg.c0;replace c1:=xc.arg.c1;replace c2:=xc.arg.c2;replace c3:=xc.arg.c3))
      go_ret;exact ⟨by rw[HT.out,HO.out.1,HO.out.2];rfl,xc.au⟩
section
theorem ub:∀ (fn:Fn) (first cap:Array Value) (w:World),(Instr.makeFunc fn first cap).run prog w=.ok (.func fn first cap) w:=fun _ _ _ _=>rfl
structure xI (w:World) (k:bz) (a:Option Addr) (c:Nat) (W:World):Prop where
 box:az w.heap.size (iZ k a c) W
 Nj:az (w.heap.size+1) ij W
 code:az (w.heap.size+1+1) [.int .i64 0] W
 au:ah w W
variable {w W W' : World} {k k' : bz} {a : Option Addr} {c : Nat}
theorem xI.below (h:xI w k a c W) (hb:ah W W'):xI w k a c W':=⟨h.box.below hb,h.Nj.below hb,h.code.below hb,h.au.trans (hb.mono h.au.size)⟩
theorem xI.keep {B:Nat} (h:xI w k a c W) (hb:Below B W W') (hB:w.heap.size+3<=B):xI w k a c W':=⟨gd h.box hb (by omega),gd h.Nj hb (by omega),gd h.code hb (by omega),h.au.trans (hb.mono (by omega))⟩
abbrev SS:Obj:=.cells #[.int .i64 0] 3
theorem afo (w:World) (k:bz) (a:Option Addr) (c:Nat):xI w k a c (((w.alloc (iC k a c)).alloc iB).alloc SS):=⟨((aY (iZ k a c) w 28).alloc _).alloc _,(dR ij _ 28 (by simp)).alloc _,dR [aa 0] _ 3 (by simp),(((aQ _ _).alloc (av _) _).alloc (by simp) _).alloc (by simp;omega) _⟩
theorem afp {lo lo':Nat} {ds:List ai} (h:mV lo a ds W) (hl:lo'<=lo):mV lo' a ds W:=h.imp id fun ⟨g,b,ss,L,e,h1,h2⟩=>⟨g,b,ss,L,e,by omega,h2⟩
structure ks (k:bz):Prop where
 m:k.mem.size<=1048576
 d:k.aL.size<=1048576
 t:k.ds.length+ja k.ds k.ds.length<=1048576
theorem ks.small (h:ks k):FC k.ds:=fun j hj=>by have:=QS hj;have:=h.t;exact QQ (d:=aJ k.ds j) (by omega)
theorem ks.fits (h:ks k) (ss:Nat->aI):pY k.ds ss:=fun j hj=>by obtain ⟨z1,z2,z3,z4,z5⟩:=h.small j hj;exact ⟨⟨by omega,by omega,by omega⟩,z2,z3⟩
abbrev Kg (k:bz) (a:Option Addr) (c:Nat):Obj:=.cells #[.int .i32 1,.int .u32 0,.string k.mem,.string k.aL,.slice a k.ds.length c,.int .i64 k.ck] 200
abbrev afq (k:bz) (a:Option Addr) (c:Nat):Obj:=.cells #[.int .i32 0,.int .u32 0,.string k.mem,.string k.aL,.slice a k.ds.length c,.int .i64 k.ck] 200
end
def uc (G:Nat) (a:Option Addr) (ds:List ai) (ss:Nat->aI):Prop:=(ds ≠ []->∀ g o,a=some ⟨g,o,none⟩->g≠G)/\∀ j,j<ds.length->((aJ ds j).pg ≠ []->∀ g o,(ss j).a1=some ⟨g,o,none⟩->g≠G)/\((aJ ds j).po ≠ []->∀ g o,(ss j).a2=some ⟨g,o,none⟩->g≠G)/\((aJ ds j).fr ≠ []->∀ g o,(ss j).a3=some ⟨g,o,none⟩->g≠G)
structure ud (G:Nat) (W W':World):Prop where
 size:W.heap.size<=W'.heap.size
 block:∀ k,k<W.heap.size->k≠G->W'.heap[k]? = W.heap[k]?
section
variable {G : Nat} {W W' : World} {a : Option Addr} {ds : List ai} {ss : Nat → aI}
theorem lU (W:World) (G j:Nat) (v:Value):ud G W (W.setCell ⟨G,j,none⟩ v):=⟨by simp[World.setCell],fun k hk hn=>by unfold World.setCell;simp[Oi,D8 hn]⟩
theorem Kh {zs:List Int} {p:Option Addr} (h:aK W p zs) (hb:ud G W W') (hn:zs ≠ []->∀ g o,p=some ⟨g,o,none⟩->g≠G):aK W' p zs:=by
 by_cases h0:zs=[];·exact Or.inl h0
 rcases h with h | ⟨b,off,e,hlt,hc⟩;·exact absurd h h0
 refine Or.inr ⟨b,off,e,cv hlt hb.size,fun j hj=>?_⟩;rw[mv (a:=⟨b,off+j,none⟩) (hb.block b hlt (hn h0 b off e))];exact hc j hj
theorem sU (h:cN W a ds ss) (hb:ud G W W') (hc:uc G a ds ss):cN W' a ds ss:=by
 refine ⟨?_,fun j hj=>?_⟩
 ·by_cases h0:ds=[];·exact Or.inl h0
  rcases h.row with h1 | ⟨b,off,e,hlt,hcc⟩;·exact absurd h1 h0
  refine Or.inr ⟨b,off,e,cv hlt hb.size,fun j hj=>?_⟩;have hcell:∀ o v,W.cell? ⟨b,o,none⟩=some v->W'.cell? ⟨b,o,none⟩=some v:=fun o v hv=>by rw[mv (a:=⟨b,o,none⟩) (hb.block b hlt (hc.1 h0 b off e))];exact hv
  obtain ⟨y0,y1,y2,y3,y4,y5,y6,y7⟩:=hcc j hj;exact ⟨hcell _ _ y0,hcell _ _ y1,hcell _ _ y2,hcell _ _ y3,hcell _ _ y4,hcell _ _ y5,hcell _ _ y6,hcell _ _ y7⟩
 obtain ⟨c1,c2,c3⟩:=hc.2 j hj;have:=h.sub j hj;exact ⟨Kh this.r1 hb c1,Kh this.r2 hb c2,Kh this.r3 hb c3⟩
end
def nY (lo P:Nat) (a:Option Addr) (ds:List ai) (W:World):Prop:=∃ ss,cN W a ds ss/\∀ G,G<lo\/G=P->uc G a ds ss
section
variable {lo P : Nat} {W W' : World} {a : Option Addr} {ds : List ai}
theorem nY.set (h:nY lo P a ds W) {G:Nat} (hG:G<lo\/G=P) (j:Nat) (v:Value):nY lo P a ds (W.setCell ⟨G,j,none⟩ v):=by obtain ⟨ss,h1,h2⟩:=h;exact ⟨ss,sU h1 (lU _ _ _ _) (h2 G hG),h2⟩
theorem nY.below (h:nY lo P a ds W) (hb:ah W W'):nY lo P a ds W':=by obtain ⟨ss,h1,h2⟩:=h;exact ⟨ss,h1.below hb,h2⟩
theorem Ki {x y G:Nat} {p:Option Addr} {zs:List Int} (h:kj x y W p zs) (hG:G<x\/y<=G):zs ≠ []->∀ g o,p=some ⟨g,o,none⟩->g≠G:=fun h0 g o e=>by
 rcases h with h | ⟨b,e',h1,h2,_⟩;·exact absurd h h0
 rw[e] at e';cases e';omega
theorem CI (h:mW lo P a ds W):nY lo P a ds W:=by
 rcases h with rfl | ⟨g,b,ss,L,rfl,h1,h2,h3⟩;·exact ⟨fun _=>eV,⟨Or.inl rfl,fun j hj=>by simp at hj⟩,fun G _=>⟨fun h=>absurd rfl h,fun j hj=>by simp at hj⟩⟩
 refine ⟨ss,⟨Or.inr ⟨g,0,rfl,h3.aF.lt,fun j hj=>?_⟩,fun j hj=>?_⟩,fun G hG=>⟨fun _ g' o e=>?_,fun j hj=>?_⟩⟩
 ·rw[dW];exact Cm h3.aF (h3.at_ j hj)
 ·obtain ⟨m1,m2,q⟩:=h3.sub j hj;exact q.lists
 ·cases e;have:=h3.gb;have:=h3.le (i:=0) (j:=ds.length) (bh _) (av _);omega
 obtain ⟨m1,m2,q⟩:=h3.sub j hj;have hb0:=h3.gb;have hl0:=h3.le (i:=0) (j:=j) (bh _) (by omega);have hl1:=h3.le (i:=j+1) (j:=ds.length) (by omega) (av _);obtain ⟨q1,q2,q3⟩:=q.le;exact ⟨Ki q.p1 (by omega),Ki q.p2 (by omega),Ki q.p3 (by omega)⟩
end
def kR (lo:Nat) (a:Option Addr) (ds:List ai) (W:World):Prop:=∃ ss,cN W a ds ss/\∀ G,G<lo->uc G a ds ss
section
variable {lo lo' P : Nat} {W W' : World} {a : Option Addr} {ds : List ai}
theorem kR.set (h:kR lo a ds W) {G:Nat} (hG:G<lo) (j:Nat) (v:Value):kR lo a ds (W.setCell ⟨G,j,none⟩ v):=by obtain ⟨ss,h1,h2⟩:=h;exact ⟨ss,sU h1 (lU _ _ _ _) (h2 G hG),h2⟩
theorem kR.below (h:kR lo a ds W) (hb:ah W W'):kR lo a ds W':=by obtain ⟨ss,h1,h2⟩:=h;exact ⟨ss,h1.below hb,h2⟩
theorem kR.mono (h:kR lo a ds W) (hl:lo'<=lo):kR lo' a ds W:=by obtain ⟨ss,h1,h2⟩:=h;exact ⟨ss,h1,fun G hG=>h2 G (by omega)⟩
theorem nY.ld (h:nY lo P a ds W):kR lo a ds W:=by obtain ⟨ss,h1,h2⟩:=h;exact ⟨ss,h1,fun G hG=>h2 G (Or.inl hG)⟩
end
abbrev CJ (k:bz) (a:Option Addr) (c:Nat):List Value:=[.int .i32 1,.int .u32 0,.string k.mem,.string k.aL,.slice a k.ds.length c,.int .i64 k.ck]
def Ae (w:World) (k k':bz) (q:Nat) (C7:Array Value):Prop:=∀ (W:World) (P:Nat) (a':Option Addr) (c':Nat),w.heap.size+3<=P->az P (CJ k a' c') W->mW (w.heap.size+3) P a' k.ds W->k.ds.length<=c'->c'<=maxLen->(k.ds=[]->jd (w.heap.size+3) a' c' W/\∀ g o,a'=some ⟨g,o,none⟩->g<P)->ah w W->
 Calls prog q (#[ao P 0]++C7) W fun e w'=>e=.returned .nilIface/\(∃ a2 c2,az P (CJ k' a2 c2) w'/\nY (w.heap.size+3) P a2 k'.ds w')/\Below (w.heap.size+3) W w'
def jy (k:bz) (c:Int) (w:World) (e:Ending) (w':World):Prop:=∃ a2 c2,e=.returned (.tuple #[bP k a2 c2,aa c])/\kR w.heap.size a2 k.ds w'/\ah w w'
theorem F7 (k k':bz) (a:Option Addr) (c:Nat) (s0:Nat->aI) (q:Nat) (C7:Array Value) (w:World) (hz:ks k) (hok:fj k=true) (hR:cN w a k.ds s0) (eg:∀ args w,(callFunc q args).run prog w=.ok (.enter q args) w) (HQ:Ae w k k' q C7):Calls prog 146 #[bP k a c,.func (.func q) #[] C7] w (jy k' 0 w):=by
 have t0:=afo w k a c;have HL:Hid (∀ W,ah w W->cN W a k.ds s0):=fun W hb=>hR.below hb;have hk0:=Kf k a c s0 _ hz.m hz.d hz.t (hz.fits s0) (HL.out _ t0.au);rw[hok] at hk0;have HC:Hid (∀ W,ah w W->_):=fun W hb=>Q8 k a c s0 W (by have:=hz.m;omega) (by have:=hz.d;omega) (by have:=hz.t;omega) hz.small (HL.out W hb);have X6:Hid (Ae w k k' q C7):=HQ;have c0:=t0.box.c0;have c1:=t0.box.c1;have c2:=t0.box.c2;have c3:=t0.box.c3;obtain ⟨W0,hW0⟩:∃ W0,((w.alloc (iC k a c)).alloc iB).alloc SS=W0:=⟨_,rfl⟩;rw[hW0] at t0 hk0 c0 c1 c2 c3;have hm0:=ub;have z0:=t0.code.lt;clear hR hok HL HQ;go_enter_defers func146,ntmps146
 go_wp2_with (first
  | (go_at_call 24;refine hk0.mono ?_;rintro e w1 ⟨rfl,b1⟩;have t1:=t0.below b1;have c0:=t1.box.c0;have c1:=t1.box.c1;have c2:=t1.box.c2;have c3:=t1.box.c3)
  | (go_at_call 23;refine (HC.out _ t1.au).mono ?_;rintro e w2 ⟨a2,c2',rfl,o2,b2,hcap,hcm,hc0⟩;have nw:=aA w2 (afq k a2 c2');have t2:=(t1.below b2).below nw;have p2:=aY [.int .i32 0,.int .u32 0,.string k.mem,.string k.aL,.slice a2 k.ds.length c2',.int .i64 k.ck] w2 200;have hb1:=b1.size;have hb2:=b2.size;have l0:=p2.cell 0 (by simp);have YA:=p2.free 0 (by simp);simp only[dK] at l0)
  | (go_at_call 205;refine (Go.MuLone.lock_free Ra ⟨w2.heap.size,0,none⟩ _ l0 YA).mono ?_;rintro e w4 ⟨rfl,rfl⟩;clear t2 p2 l0 YA nw;have nw:=aA w2 (Kg k a2 c2');have t4:=(t1.below b2).below nw;have p4:=aY [.int .i32 1,.int .u32 0,.string k.mem,.string k.aL,.slice a2 k.ds.length c2',.int .i64 k.ck] w2 200;have o4:mW (w.heap.size+3) w2.heap.size a2 k.ds (w2.alloc (Kg k a2 c2')):=(J5 (afp o2 (by omega))).below nw;have Wc:=X6.out (w2.alloc (Kg k a2 c2')) w2.heap.size a2 c2' (by omega) p4 o4 hcap hcm (fun hx=>⟨((hc0 hx).mono (by omega)).below nw,fun g o e=>(World.ownsRow.lt (hc0 hx) g (by rw[e];rfl)).2⟩) t4.au)
  | (go_at_call 208;refine (aeP _).mono ?_;rintro e w6 ⟨rfl,Ha⟩;subst w6)
  | (with_reducible refine Wc.mono ?_;rintro e w5 ⟨rfl,⟨a5,c5,p5,o5⟩,x5⟩;have t5:=t4.keep x5 (av _);have k5:=t5.code;have n5:=t5.Nj;have l5:=t5.au;have j0:=k5.c0;have jf:=k5.f0;have y0:=n5.c0;have y1:=n5.c1;have y2:=n5.c2;have y3:=n5.c3;have g0:=n5.f0;have g1:=n5.f1;have g2:=n5.f2;have g3:=n5.f3))
 have hP:w.heap.size+3<=w2.heap.size:=by omega
 have p6:=p5.aP (B':=w.heap.size+1+1) (by omega) 0 (aa 0);have k6:=k5.set 0 (aa 0);have n6:=n5.aP (B':=w.heap.size+1+1) (by omega) 0 (aa 0);have o6:=o5.set (G:=w.heap.size+1+1) (Or.inl (by omega)) 0 (aa 0);have l6:=l5.setCell (p:=⟨w.heap.size+1+1,0,none⟩) (by show w.heap.size<=w.heap.size+1+1;omega) (aa 0);obtain ⟨W6,qw⟩:∃ W6,w5.setCell ⟨w.heap.size+1+1,0,none⟩ (aa 0)=W6:=⟨_,rfl⟩;rw[qw] at p6 k6 n6 o6 l6 ⊢;have v0:=p6.cell 0 (by simp);have v2:=p6.cell 2 (by simp);have v3:=p6.cell 3 (by simp);have v4:=p6.cell 4 (by simp);have v5:=p6.cell 5 (by simp);simp only[dK,eT] at v0 v2 v3 v4 v5;have q0:=k6.cell 0 (by simp);simp only[gx,dK] at q0;have qf:=k6.free 0 (by simp);have r0:=n6.c0;have r1:=n6.c1;have r2:=n6.c2;have r3:=n6.c3;have rf0:=n6.f0;have rf1:=n6.f1;have rf2:=n6.f2;have rf3:=n6.f3;clear qw j0 jf y0 y1 y2 y3 g0 g1 g2 g3 c0 c1 c2 c3 hk0 HC X6 Wc hm0;go_region
 have p7:=(((((p6.aP (B':=w.heap.size+1) (by omega) 0 (.string k'.mem)).aP (B':=w.heap.size+1) (by omega) 1 (.string k'.aL)).aP (B':=w.heap.size+1) (by omega) 2 (.slice a5 k'.ds.length c5)).aP (B':=w.heap.size+1) (by omega) 3 (aa k'.ck)).aP (B':=w.heap.size+1+1) (by omega) 0 (aa 0)).drew;have n7:=((n6.dQ (.string k'.mem) (.string k'.aL) (.slice a5 k'.ds.length c5) (aa k'.ck)).aP (B':=w.heap.size+1+1) (by omega) 0 (aa 0)).drew;have k7:=(((((k6.aP (B':=w.heap.size+1) (by omega) 0 (.string k'.mem)).aP (B':=w.heap.size+1) (by omega) 1 (.string k'.aL)).aP (B':=w.heap.size+1) (by omega) 2 (.slice a5 k'.ds.length c5)).aP (B':=w.heap.size+1) (by omega) 3 (aa k'.ck)).set 0 (aa 0)).drew;have o7:=(((((o6.set (G:=w.heap.size+1) (Or.inl (by omega)) 0 (.string k'.mem)).set (G:=w.heap.size+1) (Or.inl (by omega)) 1 (.string k'.aL)).set (G:=w.heap.size+1) (Or.inl (by omega)) 2 (.slice a5 k'.ds.length c5)).set (G:=w.heap.size+1) (Or.inl (by omega)) 3 (aa k'.ck)).set (G:=w.heap.size+1+1) (Or.inl (by omega)) 0 (aa 0)).below ((aQ _ _).drew);have l7:=(((((l6.setCell (p:=⟨w.heap.size+1,0,none⟩) (by show w.heap.size<=w.heap.size+1;omega) (.string k'.mem)).setCell (p:=⟨w.heap.size+1,1,none⟩) (by show w.heap.size<=w.heap.size+1;omega) (.string k'.aL)).setCell (p:=⟨w.heap.size+1,2,none⟩) (by show w.heap.size<=w.heap.size+1;omega) (.slice a5 k'.ds.length c5)).setCell (p:=⟨w.heap.size+1,3,none⟩) (by show w.heap.size<=w.heap.size+1;omega) (aa k'.ck)).setCell (p:=⟨w.heap.size+1+1,0,none⟩) (by show w.heap.size<=w.heap.size+1+1;omega) (aa 0)).drew;clear v0 v2 v3 v4 v5 q0 qf r0 r1 r2 r3 rf0 rf1 rf2 rf3;go_wp2;obtain ⟨W7,iL⟩:∃ W7,(((((W6.setCell ⟨w.heap.size+1,0,none⟩ (.string k'.mem)).setCell ⟨w.heap.size+1,1,none⟩ (.string k'.aL)).setCell ⟨w.heap.size+1,2,none⟩ (.slice a5 k'.ds.length c5)).setCell ⟨w.heap.size+1,3,none⟩ (aa k'.ck)).setCell ⟨w.heap.size+1+1,0,none⟩ (aa 0)).drew=W7:=⟨_,rfl⟩;rw[iL] at p7 n7 k7 o7 l7 ⊢;have u0:=p7.cell 0 (by simp);have uf:=p7.free 0 (by simp);simp only[dK] at u0;have n8:=n7.aP (B':=w2.heap.size) (by omega) 0 (.int .i32 0);have k8:=k7.aP (B':=w2.heap.size) (by omega) 0 (.int .i32 0)
 have o8:=(o7.set (G:=w2.heap.size) (Or.inr rfl) 0 (.int .i32 0)).ld.mono (ix _ _:w.heap.size<=w.heap.size+3);have l8:=l7.setCell (p:=⟨w2.heap.size,0,none⟩) (by show w.heap.size<=w2.heap.size;omega) (.int .i32 0);have HF:Hid (kR w.heap.size a5 k'.ds (W7.setCell ⟨w2.heap.size,0,none⟩ (.int .i32 0))/\ah w (W7.setCell ⟨w2.heap.size,0,none⟩ (.int .i32 0))):=⟨o8,l8⟩;refine leaves_cons (f:=207) (args:=#[ao w.heap.size 0,ao (w.heap.size+1) 0,ao (w.heap.size+1+1) 0]) (by simp) (by simp[go_sem]) ?_;refine (aeO _ _ _ _).mono ?_;rintro e u' w'' ⟨rfl,rfl,rfl⟩;refine leaves_cons (f:=206) (args:=#[ao w2.heap.size 0]) (by simp[settle]) (by simp[go_sem]) ?_;refine (Go.MuLone.unlock_deferred Ra ⟨w2.heap.size,0,none⟩ _ _ u0 uf).mono ?_;rintro e u' w'' ⟨rfl,rfl,rfl⟩;have v0:=n8.c0;have v1:=n8.c1;have v2:=n8.c2;have v3:=n8.c3;have v4:=k8.cell 0 (by simp);simp only[gx,dK] at v4;simp[Leaves,settle,results,results146,go_sem,v0,v1,v2,v3,v4];exact ⟨a5,c5,rfl,HF.out⟩
def eO (x:ByteArray) (j:Nat):UInt8:=x.data.toList.getD j 0
def CK (r:bJ) (j:Nat):Bool:=decide (r.1<=(j:Int)/\(j:Int)<r.1+r.2)
theorem afr (d:ai):∀ r ∈ bD d,r.1 % 8=0/\r.2 % 8=0:=by
 unfold bD;cases h:bZ d with
 | false=>simp
 | true=>
  obtain ⟨-,-,-,-,hi,-,-,-,-,kc,hfr,-,-⟩:=jt h;have hrec:∀ z:Int,0<=z->z<=7->aZ z=32+z*16:=by intro z h0 h7;unfold aZ;rw[aN (nK.2 ⟨h0,h7⟩)]
  intro r hr;simp only[if_true,mr,sq,pK] at hr;rcases hr with ((hr | ⟨p,hp,hr⟩) | ⟨p,hp,hr⟩) | ⟨f,hf,hr⟩
  ·subst hr;rw[hrec _ hi.1 hi.2];simp;omega
  ·subst hr;simp;omega
  ·subst hr;simp;omega
  ·subst hr;have:=hfr f hf;rw[hrec f (by omega) (by omega)];simp;omega
theorem afs (a b:ByteArray) (r:bJ) (j:Nat) (hj:j<768) (h0:0<=r.1) (h1:16<=r.2) (h2:r.1 % 8=0) (h3:r.2 % 8=0):eO (ru a b r) j=if CK r j then eO a j else eO b j:=by
 have hsp:nT (r.1.toNat / 8) ((r.1.toNat+r.2.toNat-1) / 8) (j / 8)=CK r j:=by unfold nT CK;congr 1;apply propext;omega
 have h:=mU a.data.toList b.data.toList (nT (r.1.toNat / 8) ((r.1.toNat+r.2.toNat-1) / 8)) j hj;rw[hsp] at h;unfold eO ru;rw[jl,h];rfl
theorem SU {α:Type} (p q:Bool) (x y:α):(if p then x else if q then x else y)=if (p || q) then x else y:=by cases p <;> cases q <;> rfl
theorem Kj {x y:ByteArray} (hx:x.size=768) (hy:y.size=768):(x.toList == y.toList)=true ↔ ∀ j,j<768->eO x j=eO y j:=by
 rw[tH,D9,D9];have lx:x.data.toList.length=768:=by rw[<- hx];exact (dX x).symm
 have ly:y.data.toList.length=768:=by rw[<- hy];exact (dX y).symm
 constructor
 ·intro h j hj;unfold eO;rw[h]
 intro h;apply wL;intro j;by_cases hj:j<768
 ·have:=h j hj;unfold eO at this;rw[zO lx hj,zO ly hj,this]
 rw[lL (by omega),lL (by omega)]
def mX (cl i n:Int) (d:ai):Bool:=decide (d.cl=cl) && tX d i n
def lB (cl i n:Int) (ds:List ai):Bool:=(List.range ds.length).any fun j=>mX cl i n (aJ ds j)
theorem aft {cl i n:Int} {ds:List ai} {j:Nat} (hj:j<ds.length) (h:mX cl i n (aJ ds j)=true):lB cl i n ds=true:=Bd.2 ⟨j,kY.2 hj,h⟩
theorem afu {cl i n:Int} {ds:List ai} (h:∀ j,j<ds.length->mX cl i n (aJ ds j)=false):lB cl i n ds=false:=by apply Bool.eq_false_iff.2;intro e;obtain ⟨j,hj,h1⟩:=Bd.1 e;rw[h j (kY.1 hj)] at h1;cases h1
theorem afv (v:World) (W:World) {lo A1 A2:Nat} (hlo:lo<=W.heap.size) (h1:A1=W.heap.size) (h2:A2=W.heap.size+1):cL lo A2 A1 0 [] ((W.alloc (.cells #[] 183)).alloc (.cells #[.slice (some ⟨A1,0,none⟩) 0 0] 282)):=by
 subst h1;have nb:=aY [.slice (some ⟨W.heap.size,0,none⟩) 0 0] (W.alloc (.cells #[] 183)) 282;have hz:(W.alloc (.cells #[] 183)).heap.size=W.heap.size+1:=by simp
 rw[hz] at nb;subst h2;refine ⟨nb.cell 0 (by simp),nb.free 0 (by simp),?_,by omega,by omega,nb.lt⟩;exact (uT W #[] 0 hlo (bh _) rfl).alloc _
theorem afw (d:ai) (s:aI) (i n:Int) (w:World) (hF:iV d s) (hpo:d.po.length<=1048576) (hfr:d.fr.length<=1048576) (hR:cJ w d s):Calls prog 215 #[bL d s,.int .i64 i,.int .i64 n] w fun e w'=>e=.returned (.bool (tX d i n))/\Below w.heap.size w w':=by
 have x0:=JO w d s;have HO:Hid (∀ W,Below w.heap.size w W->_):=fun W hb=>Rf d s W hF hpo hfr (hR.below hb);by_cases hin:0<=i/\i<768/\1<=n/\n<=768
 ·have hw:=aeR d i n hin;rw[hw];obtain ⟨h1,h2,h3,h4⟩:=hin;have c0:=x0.arg.c0;have c1:=x0.arg.c1;have c2:=x0.arg.c2;have c3:=x0.arg.c3;have c4:=x0.arg.c4;have c5:=x0.arg.c5;have c6:=x0.arg.c6;have c7:=x0.arg.c7;have Hu:Below w.heap.size w (((xb w d s).alloc (.cells #[] 183)).alloc (.cells #[.slice (some ⟨w.heap.size+1,0,none⟩) 0 0] 282)):=(x0.au.alloc x0.au.size _).alloc (by have:=x0.au.size;simp[xb];omega) _;have hs0:cL w.heap.size (w.heap.size+1+1) (w.heap.size+1) 0 [] (((xb w d s).alloc (.cells #[] 183)).alloc (.cells #[.slice (some ⟨w.heap.size+1,0,none⟩) 0 0] 282)):=afv w _ x0.au.size (by simp[xb]) (by simp[xb]);have XW:=HO.out _ Hu;clear hw hR hF;go_enter func215,ntmps215;go_wp2_with (go_at_call 144;refine XW.mono ?_;rintro e w1 ⟨a,c,rfl,hl1,hc1,o1,b1⟩);have hs1:=hs0.below b1;have mf:=Hu.trans (b1.mono Hu.size);have hlen:=Se d;have hsm:=Sf d;have uw:bD d=[]\/∃ G,a=some ⟨G,0,none⟩/\G≠w.heap.size+1/\G≠w.heap.size+1+1/\az G (cR (lR d)) w1:=by
   rcases Sg o1 with q | ⟨G,q1,q2,q3⟩;·exact Or.inl q
   have:=hs0.lt;exact Or.inr ⟨G,q1,by omega,by omega,q3⟩
  rw[<- hlen] at hc1 ⊢;clear hlen hs0 Hu b1 o1 hl1 XW HO c0 c1 c2 c3 c4 c5 c6 c7 x0;have HIN:Hid (0<=i/\i<768/\1<=n/\n<=768):=⟨h1,h2,h3,h4⟩;go_loopg [34] (bD d).length (fun gk v W=>∃ (k g c':Nat) (l:List bJ),k+gk=(bD d).length/\v=.int .i64 (k:Int)/\cL w.heap.size (w.heap.size+1+1) g c' l W/\l.Perm ((bD d).take k)/\jv l l.length/\(bD d=[]\/∃ G,a=some ⟨G,0,none⟩/\G≠g/\G≠w.heap.size+1+1/\az G (cR (lR d)) W)/\Below w.heap.size w W)
  case atStart=>exact ⟨0,_,_,[],by omega,rfl,hs1,by simp,fun i _ h=>absurd h (by simp),uw,mf⟩
  case round=>
  obtain ⟨k,g,c',l,hk,rfl,hs,hp,hh,hrow,hbel⟩:=hrel;clear hs1 uw mf;have hll:l.length=k:=by rw[hp.length_eq,jk];omega
  by_cases hlt:k<(bD d).length
  ·rcases hrow with hrow | ⟨G,rfl,hG1,hG2,hblk⟩
   ·rw[hrow] at hlt;simp at hlt
   obtain ⟨y1,y2⟩:=Sh hblk hlt;have hpk:((bD d).take k ++ [bB (bD d) k])=(bD d).take (k+1):=by rw[mq hlt,oK _ _ hlt]
   obtain ⟨r,hr⟩:∃ r,bB (bD d) k=r:=⟨_,rfl⟩;rw[hr] at y1 y2 hpk;have e1:(0:Int)<=(k:Int):=by omega
   have e2:(k:Int)<((bD d).length:Int):=by omega
   have nl:=aA wr (.cells #[.int .i64 r.1,.int .i64 r.2] 183);have nb:=aY [.int .i64 r.1,.int .i64 r.2] wr 183;have z1:(wr.alloc (.cells #[.int .i64 r.1,.int .i64 r.2] 183)).cell? ⟨wr.heap.size,0,none⟩=some (.int .i64 r.1):=nb.cell 0 (by simp);have z2:(wr.alloc (.cells #[.int .i64 r.1,.int .i64 r.2] 183)).cell? ⟨wr.heap.size,1,none⟩=some (.int .i64 r.2):=nb.cell 1 (by simp);have hpu:=ac6 r _ (hs.below nl) hh (by omega);have HA:Hid (cL w.heap.size (w.heap.size+1+1) g c' l wr/\l.Perm ((bD d).take k)/\Below w.heap.size w wr/\az G (cR (lR d)) wr/\((bD d).take k ++ [r])=(bD d).take (k+1)/\G≠g/\G≠w.heap.size+1+1):=⟨hs,hp,hbel,hblk,hpk,hG1,hG2⟩;clear hs hp hbel hblk hpk hG1 hG2 hr hh nb;have HNL:Hid (Below wr.heap.size wr (wr.alloc (.cells #[.int .i64 r.1,.int .i64 r.2] 183))):=nl;clear nl;go_wp2_with (go_at_call 241;refine hpu.mono ?_;rintro e w2 ⟨rfl,g2,c2,l2,hs2,hp2,Hw,GI⟩);obtain ⟨hs,hp,hbel,hblk,hpk,hG1,hG2⟩:=HA.out;have nl:=HNL.out;have hgl:=hs.Nv;go_roundg (gk-1)
   case measure=>omega
   case rel=>
   refine ⟨k+1,g2,c2,l2,by omega,by go_num,hs2,?_,Hw,Or.inr ⟨G,rfl,?_,hG2,?_⟩,?_⟩
   ·rw[<- hpk];exact hp2.trans (hp.append_right [r])
   ·rcases GI.loc with q | q;·rw[q];exact hG1
    have:=hblk.lt;have:=nl.size;omega
   ·exact Rc (hblk.below nl) (GI.block G (cv hblk.lt nl.size) hG2 hG1) GI.size
   exact (hbel.trans (nl.mono hbel.size)).trans (GI.below hs.lo hgl.1 (br hbel.size nl.size))
  have hkk:k=(bD d).length:=by omega
  subst hkk;rw[nC] at hp;have e2:¬ ((bD d).length:Int)<((bD d).length:Int):=by omega
  have Wg:Hid (mT (bD d) [] l i i):=⟨by simpa using hp,hh,fun d h=>absurd h (by simp),fun d h=>absurd h (by simp),fun k h1 h2=>by omega,Io _⟩;have MC:Hid (cL w.heap.size (w.heap.size+1+1) g c' l wr/\Below w.heap.size w wr):=⟨hs,hbel⟩;clear hs hp hbel hh hrow hlt;have hlz:l.length<=13:=by omega
  go_wp2;go_loopg [1] (l.length+1) (fun gk v W=>∃ (j:Int) (dn rest:List bJ),v=.int .i64 j/\rest.length+1=gk/\gk<=14/\0<=j/\j<=768/\mT (bD d) dn rest i j/\cL w.heap.size (w.heap.size+1+1) g c' rest W/\Below w.heap.size w W)
  case atStart=>exact ⟨i,[],l,rfl,rfl,by omega,by omega,by omega,Wg.out,MC.out.1,MC.out.2⟩
  case round=>
  obtain ⟨j,dn,rest,rfl,Hd,akT,hj0,hj7,hgo,hs,hbel⟩:=hrel;clear Wg MC;have x0:=hs.cell;have HA:Hid (mT (bD d) dn rest i j/\cL w.heap.size (w.heap.size+1+1) g c' rest wr/\Below w.heap.size w wr/\rest.length+1=gk/\gk<=14):=⟨hgo,hs,hbel,Hd,akT⟩;by_cases hje:j<i+n
  ·have alb:¬ (i+n<=j):=by omega
   cases hrest:rest with
   | nil=>
    rw[hrest] at HA x0;have e0:(([]:List bJ).length:Int)=0:=rfl;have HV:Hid (sL (bD d) i n.toNat=false):=HA.out.1.ak5 (by omega);clear hgo hs hbel Hd hrest;go_wp2_with (go_at_call 242;refine (FD _ _ _ _).mono ?_;rintro e w2 ⟨rfl,hw⟩;subst w2);go_ret;exact ⟨iw Ending.returned (iw Value.bool (show decide (i+n<=j)=_ from by rw[HV.out];exact bA (by omega))),HA.out.2.2.1⟩
   | cons r0 rt=>
    have hrl:rest.length=rt.length+1:=by rw[hrest];rfl
    have hl:=ada rt.length wr hs hgo.heap hrl (by omega);have hin:∀ r ∈ rest,0<=r.1/\16<=r.2/\r.1+r.2<=768:=fun r hr=>FZ d r (hgo.perm.mem_iff.1 (DU _ hr));have HIM:Hid (∀ r ∈ rest,0<=r.1/\16<=r.2/\r.1+r.2<=768):=hin;have e0:(0:Int)<(rest.length:Int):=by omega
    have hgl:=hs.Nv;have rO:Hid (w.heap.size<=g/\g<wr.heap.size):=hgl;clear hgo hs hbel Hd hrest hin hgl hrl;have hD:∀ (r:bJ) (l3:List bJ) (w3:World),r=bB rest 0->(r :: l3).Perm rest->cL w.heap.size (w.heap.size+1+1) g c' l3 w3->jv l3 l3.length->kg (w.heap.size+1+1) g g wr w3->Hid ((0<=r.1/\16<=r.2/\r.1+r.2<=768)/\l3.length+1=rest.length/\(r.1<=j/\j<r.1+r.2->mT (bD d) (r :: dn) l3 i (r.1+r.2))/\(¬ (r.1<=j/\j<r.1+r.2)->mT (bD d) (r :: dn) l3 i j)/\cL w.heap.size (w.heap.size+1+1) g c' l3 w3/\Below w.heap.size w w3):=by intro r l3 w3 q1 q2 q3 q4 q5;have P:=HA.out.1.pop (by omega) q1 q2 q4;have A:=HA.out;exact ⟨HIM.out r (q2.mem_iff.1 (by simp)),by have:=q2.length_eq;simpa using this,P.1,P.2,q3,A.2.2.1.trans (q5.below A.2.1.lo rO.out.1 A.2.2.1.size)⟩
    have HD:Hid (∀ (r:bJ) (l3:List bJ) (w3:World),r=bB rest 0->(r :: l3).Perm rest->cL w.heap.size (w.heap.size+1+1) g c' l3 w3->jv l3 l3.length->kg (w.heap.size+1+1) g g wr w3->Hid ((0<=r.1/\16<=r.2/\r.1+r.2<=768)/\l3.length+1=rest.length/\(r.1<=j/\j<r.1+r.2->mT (bD d) (r :: dn) l3 i (r.1+r.2))/\(¬ (r.1<=j/\j<r.1+r.2)->mT (bD d) (r :: dn) l3 i j)/\cL w.heap.size (w.heap.size+1+1) g c' l3 w3/\Below w.heap.size w w3)):=hD;clear hD;go_wp2_with (first
     | (go_at_call 242;refine (FD _ _ _ _).mono ?_;rintro e w2 ⟨rfl,hw⟩;subst w2)
     | (go_at_call 243;refine hl.mono ?_;rintro e w3 ⟨r,l3,rfl,hr3,hp3,hs3,hh3,XH⟩;have F3:=HD.out r l3 w3 hr3 hp3 hs3 hh3 XH;clear hr3 hp3 hs3 hh3 XH;have nb:=aY [.int .i64 r.1,.int .i64 r.2] w3 183;have z1:(w3.alloc (.cells #[.int .i64 r.1,.int .i64 r.2] 183)).cell? ⟨w3.heap.size,0,none⟩=some (.int .i64 r.1):=nb.cell 0 (by simp);have z2:(w3.alloc (.cells #[.int .i64 r.1,.int .i64 r.2] 183)).cell? ⟨w3.heap.size,1,none⟩=some (.int .i64 r.2):=nb.cell 1 (by simp);clear nb;obtain ⟨u1,u2,u3⟩:=F3.out.1))
    all_goals (
     obtain ⟨_,hl3,P1,P2,hs3,b3⟩:=F3.out;have A:=HA.out;have Ht:=aA w3 (.cells #[.int .i64 r.1,.int .i64 r.2] 183);go_roundg (gk-1)
     case measure=>omega
     case rel=>first
      | exact ⟨j,r :: dn,l3,rfl,by omega,by omega,by omega,by omega,P2 (by omega),hs3.below Ht,b3.trans (Ht.mono b3.size)⟩
      | exact ⟨r.1+r.2,r :: dn,l3,rfl,by omega,by omega,by omega,by omega,P1 (by omega),hs3.below Ht,b3.trans (Ht.mono b3.size)⟩)
  have alb:i+n<=j:=by omega
  have HV:Hid (sL (bD d) i n.toNat=true):=HA.out.1.alG (by omega);clear hgo hs hbel Hd;go_wp2;go_ret;refine ⟨?_,HA.out.2.2.1⟩;have hdd:decide (i+n<=j)=true:=bK (by omega);rw[HV.out];first
   | rfl
   | exact iw Ending.returned (iw Value.bool hdd)
 have hw:=aeS d i n hin;rw[hw];have hc:(decide (i<0) || decide (768<=i) || decide (n<1) || decide (768<n))=true:=by simp;omega
 have HB:Hid (Below w.heap.size w (xb w d s)):=x0.au;clear hw hR hF HO x0;by_cases q1:i<0
 ·go_enter func215,ntmps215;go_wp2;go_ret;exact ⟨rfl,HB.out⟩
 by_cases q2:768<=i
 ·go_enter func215,ntmps215;go_wp2;go_ret;exact ⟨rfl,HB.out⟩
 by_cases q3:n<1
 ·go_enter func215,ntmps215;go_wp2;go_ret;exact ⟨rfl,HB.out⟩
 have q4:768<n:=by omega
 go_enter func215,ntmps215;go_wp2;go_ret;exact ⟨rfl,HB.out⟩
end Go.Proofs.YtgpfmgaidbjcpaaGreatDoor
