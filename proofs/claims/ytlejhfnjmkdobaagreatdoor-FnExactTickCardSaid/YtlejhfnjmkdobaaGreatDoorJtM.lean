/- Joined texts. -/
import Derived.Test.YtlejhfnjmkdobaaGreatDoorJtJ
import Derived.Test.YtlejhfnjmkdobaaGreatDoorJtK
set_option linter.unusedVariables false
set_option linter.unusedSimpArgs false
set_option maxRecDepth 10000
set_option maxHeartbeats 16000000
namespace Go.Proofs.YtlejhfnjmkdobaaGreatDoor
open ChangeShapes WideShapes ChangeAt RowKit
open Go.Proofs.Tryz
namespace D0
open N0 (Ln)
open N5 (pv)
open P1 (ret_bool)
open J0 (IBuf Own)
theorem allAmong (a1 a2:Option Addr) (c1 c2:Nat) (zs al:List Int) (w:World) (h1:zs.length<=281474976710656) (h2:al.length<=281474976710656) (R1:P0.Row w a1 zs) (R2:P0.Row w a2 al) :
  Calls prog 183 #[.slice a1 zs.length c1,.slice a2 al.length c2] w (Rw (.bool (N0.among zs al)) w):=by
 have hH:Hid (∀ x,_):=fun x=>N2.containsRow a2 c2 al x w h2 R2
 clear R2;go_enter func183,ntmps183;go_wp2
 go_loop [9] (fun i=>∃ k:Nat,k<=zs.length/\N0.to (N0.amAt zs al) k=true/\i=Iv k) (fun i=>zs.length-(intOf i).toNat)
 case atStart=>exact ⟨0,Nat.zero_le _,rfl,rfl⟩
 case round=>
  obtain ⟨k,hk,hok,rfl⟩:=hrel
  by_cases hlt:k<zs.length
  ·obtain ⟨b,off,hab,_,hc⟩:=R1.get hlt
   have x1:=hc k hlt;have hat:N0.amAt zs al k=P0.has al (zs.getD k 0):=rfl;obtain ⟨z,ez⟩:∃ z,zs.getD k 0=z:=⟨_,rfl⟩;rw[ez] at x1 hat;rw[hab]
   have e1:(0:Int)<=(k:Int):=by omega
   have e2:(k:Int)<(zs.length:Int):=by omega
   cases h:P0.has al z with
   | true=>
    have HO:Hid (N0.to (N0.amAt zs al) (k+1)=true):=N0.to_step hok (by rw[hat,h]);clear hat hok ez hc
    go_wp2_with (go_at_call 130;refine (hH.out _).mono ?_;rintro e w' ⟨rfl,rfl⟩)
    go_round
    case rel=>exact ⟨k+1,by omega,HO.out,by go_num⟩
    case measure=>simp[intOf];omega
   | false=>
    have HR:Hid (N0.among zs al=false):=N0.to_bad hlt (by rw[hat,h]);clear hat hok ez hc
    go_wp2_with (go_at_call 130;refine (hH.out _).mono ?_;rintro e w' ⟨rfl,rfl⟩)
    go_ret;exact ⟨ret_bool HR.out.symm,rfl⟩
  ·obtain rfl:k=zs.length:=by omega
   have HR:Hid (N0.among zs al=true):=hok;clear hok R1;go_wp2;go_ret;exact ⟨ret_bool HR.out.symm,rfl⟩
theorem l05Among (a1 a2:Option Addr) (c1 c2:Nat) (zs al:List Int) (w:World) (h1:zs.length<=281474976710656) (h2:al.length<=281474976710656) (R1:P0.Row w a1 zs) (R2:P0.Row w a2 al) :
  Calls prog 95 #[.slice a1 zs.length c1,.slice a2 al.length c2] w (Rw (.bool (N0.among zs al)) w):=by
 have hH:Hid (∀ x,_):=fun x=>N2.hasRow a2 c2 al x w h2 R2
 clear R2;go_enter func95,ntmps95;go_wp2
 go_loop [5] (fun i=>∃ k:Nat,k<=zs.length/\N0.to (N0.amAt zs al) k=true/\i=Iv k) (fun i=>zs.length-(intOf i).toNat)
 case atStart=>exact ⟨0,Nat.zero_le _,rfl,rfl⟩
 case round=>
  obtain ⟨k,hk,hok,rfl⟩:=hrel
  by_cases hlt:k<zs.length
  ·obtain ⟨b,off,hab,_,hc⟩:=R1.get hlt
   have x1:=hc k hlt;have hat:N0.amAt zs al k=P0.has al (zs.getD k 0):=rfl;obtain ⟨z,ez⟩:∃ z,zs.getD k 0=z:=⟨_,rfl⟩;rw[ez] at x1 hat;rw[hab]
   have e1:(0:Int)<=(k:Int):=by omega
   have e2:(k:Int)<(zs.length:Int):=by omega
   cases h:P0.has al z with
   | true=>
    have HO:Hid (N0.to (N0.amAt zs al) (k+1)=true):=N0.to_step hok (by rw[hat,h]);clear hat hok ez hc
    go_wp2_with (go_at_call 64;refine (hH.out _).mono ?_;rintro e w' ⟨rfl,rfl⟩)
    go_round
    case rel=>exact ⟨k+1,by omega,HO.out,by go_num⟩
    case measure=>simp[intOf];omega
   | false=>
    have HR:Hid (N0.among zs al=false):=N0.to_bad hlt (by rw[hat,h]);clear hat hok ez hc
    go_wp2_with (go_at_call 64;refine (hH.out _).mono ?_;rintro e w' ⟨rfl,rfl⟩)
    go_ret;exact ⟨ret_bool HR.out.symm,rfl⟩
  ·obtain rfl:k=zs.length:=by omega
   have HR:Hid (N0.among zs al=true):=hok;clear hok R1;go_wp2;go_ret;exact ⟨ret_bool HR.out.symm,rfl⟩
def inos (es:List T0.Ent):List Int:=es.map (·.1)
theorem inos_length (es:List T0.Ent):(inos es).length=es.length:=by simp[inos]
theorem inos_take (es:List T0.Ent) (k:Nat) (h:k<es.length):inos (es.take (k+1))=inos (es.take k) ++ [(T0.ent es k).1]:=by
 unfold inos;rw[List.take_succ_eq_append_getElem h,List.map_append,T0.ent_get _ _ h];rfl
theorem inos_get (es:List T0.Ent) (k:Nat) (h:k<es.length):(inos es).getD k 0=(T0.ent es k).1:=by
 rw[P0.getD_get _ _ (by rw[inos_length];exact h),T0.ent_get _ _ h];simp[inos]
def noAt (es:List T0.Ent) (x:Int) (i:Nat):Bool:=!decide ((T0.ent es i).1=x)
theorem has_inos_no {es:List T0.Ent} {x:Int} (h:N0.to (noAt es x) es.length=true):P0.has (inos es) x=false:=by
 refine N0.has_not.2 fun hm=>?_
 obtain ⟨i,hi,e⟩:=N0.mem_getD hm;rw[inos_length] at hi;have:=N0.to_iff.1 h i hi;rw[inos_get _ _ hi] at e;simp only[noAt,Bool.not_eq_true',decide_eq_false_iff_not] at this;exact this e
theorem has_inos_yes {es:List T0.Ent} {x:Int} {k:Nat} (hk:k<es.length) (h:(T0.ent es k).1=x):P0.has (inos es) x=true:=by
 refine N0.has_iff.2 ?_;rw[<- h,<- inos_get es k hk];exact N0.getD_mem (by rw[inos_length];exact hk)
theorem hasIno (a:Option Addr) (c:Nat) (es:List T0.Ent) (x:Int) (w:World) (hn:es.length<=281474976710656) (hR:T0.Row w a es) :
  Calls prog 154 #[.slice a es.length c,Iv x] w (Rb (.bool (P0.has (inos es) x)) w):=by
 go_enter func154,ntmps154;go_wp2
 go_loopw [9] (fun i w'=>∃ k:Nat,k<=es.length/\N0.to (noAt es x) k=true/\i=Iv k/\Bq w w') (fun i _=>es.length-(intOf i).toNat)
 case atStart=>exact ⟨0,Nat.zero_le _,rfl,rfl,Below.refl _ _⟩
 case round=>
  obtain ⟨k,hk,hok,rfl,hbel⟩:=hrel
  by_cases hlt:k<es.length
  ·obtain ⟨b,off,hab,_,hc⟩:=(hR.below hbel).get hlt
   have x1:=(hc k hlt).1;have x2:=(hc k hlt).2;have hat:noAt es x k=!decide ((T0.ent es k).1=x):=rfl
   have hyes:=fun h=>has_inos_yes (es:=es) (x:=x) hlt h
   obtain ⟨z,ez⟩:∃ z,T0.ent es k=z:=⟨_,rfl⟩;rw[ez] at x1 x2 hat hyes;obtain ⟨u,v⟩:=z;simp only at x1 x2 hat hyes;rw[hab]
   have e1:(0:Int)<=(k:Int):=by omega
   have e2:(k:Int)<(es.length:Int):=by omega
   by_cases h:u=x
   ·have h':(u == x)=true:=by simpa using h
    have HR:Hid (P0.has (inos es) x=true):=hyes h;clear hat hok ez hc hR h hyes;go_wp2;go_ret;exact ⟨ret_bool HR.out.symm,hbel.alloc hbel.size _⟩
   ·have h':(u == x)=false:=by simpa using h
    have HO:Hid (N0.to (noAt es x) (k+1)=true):=N0.to_step hok (by rw[hat,decide_eq_false h];rfl);clear hat hok ez hc hR h hyes;go_wp2
    go_roundw
    case rel=>exact ⟨k+1,by omega,HO.out,by go_num,hbel.alloc hbel.size _⟩
    case measure=>simp[intOf];omega
  ·obtain rfl:k=es.length:=by omega
   have HR:Hid (P0.has (inos es) x=false):=has_inos_no hok;clear hok hR;go_wp2;go_ret;exact ⟨ret_bool HR.out.symm,hbel⟩
theorem had (k o t:Int) (a:Option Addr) (n c:Nat) (ae:Option Addr) (ce:Nat) (es:List T0.Ent) (x:Int) (w:World) (hn:es.length<=281474976710656) (hR:T0.Row w ae es) :
  Calls prog 212 #[pv k o t a n c ae es.length ce,Iv x] w (Rb (.bool (P0.has (inos es) x)) w):=by
 have hB:=K0.below_new w (.cells #[Iv k,Iv o,Iv t,.slice a n c,.slice ae es.length ce] 187);have hR':=hR.below hB;go_enter func212,ntmps212
 go_wp2_with (go_at_call 154;refine (hasIno _ _ es _ _ hn hR').mono ?_;rintro e w1 ⟨rfl,b1⟩)
 go_ret;exact ⟨rfl,hB.trans (b1.mono hB.size)⟩
theorem isLike (k o t:Int) (a:Option Addr) (n c:Nat) (ae:Option Addr) (ne ce:Nat) (k2 o2 t2:Int) (a2:Option Addr) (n2 c2:Nat) (w:World) :
  Calls prog 182 #[pv k o t a n c ae ne ce,I0.val k2 o2 t2 a2 n2 c2] w (Rb (.bool (decide (k2=k) && decide (o2=o))) w):=by
 have hB:=K0.below_new w (.cells #[Iv k,Iv o,Iv t,.slice a n c,.slice ae ne ce] 187);have hB2:=hB.alloc hB.size (.cells (Iq k2 o2 t2 a2 n2 c2) 96)
 by_cases h1:k2=k
 ·have h1':(k2 == k)=true:=by simpa using h1
  have HR:Hid ((o2 == o)=(decide (k2=k) && decide (o2=o))):=by
   show _=_
   rw[decide_eq_true h1,Bool.true_and]
   by_cases h2:o2=o
   ·simp[h2]
   ·rw[decide_eq_false h2];simpa using h2
  clear h1;go_enter func182,ntmps182;go_wp2;go_ret;exact ⟨ret_bool HR.out,hB2⟩
 ·have h1':(k2 == k)=false:=by simpa using h1
  have HR:Hid (false=(decide (k2=k) && decide (o2=o))):=by
   show _=_
   rw[decide_eq_false h1];rfl
  clear h1;go_enter func182,ntmps182;go_wp2;go_ret;exact ⟨ret_bool HR.out,hB2⟩
theorem l05Inos (a:Option Addr) (c:Nat) (es:List T0.Ent) (w:World) (hn:es.length<=1000) (hR:T0.Row w a es) :
  Calls prog 96 #[.slice a es.length c] w fun e w'=>∃ a' c',e=.returned (.slice a' (inos es).length c')/\J0.Own w.heap.size w' a' (inos es)/\(inos es).length<=c'/\Bq w w':=by
 have b0:=J0.ibuf_made w (Nat.le_refl _);have l0:=K0.below_new w (.cells #[] 3);go_enter func96,ntmps96;go_wp2
 go_loopw [3,4] (fun v i w'=>∃ (k c:Nat) (a:Option Addr),k<=es.length/\i=Iv k/\v=.slice a k c/\IBuf w.heap.size w' a k c (inos (es.take k))/\Bq w w') (fun _ i _=>es.length-(intOf i).toNat)
 case atStart=>exact ⟨0,0,_,Nat.zero_le _,rfl,rfl,b0,l0⟩
 case round=>
  obtain ⟨k,c',a',hk,rfl,rfl,hbuf,hbel⟩:=hrel;clear b0 l0
  by_cases hlt:k<es.length
  ·obtain ⟨b,off,hab,_,hc⟩:=(hR.below hbel).get hlt
   have x1:=(hc k hlt).1;have HS:Hid (inos (es.take k) ++ [(T0.ent es k).1]=inos (es.take (k+1))):=(inos_take es k hlt).symm;obtain ⟨z,ez⟩:∃ z,(T0.ent es k).1=z:=⟨_,rfl⟩;rw[ez] at x1 HS;rw[hab]
   have e1:(0:Int)<=(k:Int):=by omega
   have e2:(k:Int)<(es.length:Int):=by omega
   clear ez hc hR
   go_wp2_with (at_builtin;refine J0.append_int rfl (.tmp 12) (.tmp 18) rfl hbuf _ (by rfl) (by rfl) (by omega) hbel.size ?_;intro g1 cap1 w1 hbuf1 bel1)
   go_roundw
   case rel=>exact ⟨k+1,cap1,_,by omega,by go_num,rfl,by rw[<- HS.out];exact hbuf1,hbel.trans bel1⟩
   case measure=>simp[intOf];omega
  ·obtain rfl:k=es.length:=by omega
   have HF:Hid (IBuf w.heap.size wr a' es.length c' (inos es)):=by
    show IBuf _ _ _ _ _ _
    rw[List.take_length] at hbuf;exact hbuf
   have HI:Hid ((inos es).length=es.length):=inos_length es
   have e9:decide ((es.length:Int)<(es.length:Int))=false:=by simp
   clear hR hbuf;go_wp2;go_ret;exact ⟨a',c',by rw[HI.out];rfl,HF.out.own,by rw[HI.out];exact HF.out.fits,hbel⟩
theorem clone (a:Option Addr) (c:Nat) (zs:List Int) (w:World) (hn:zs.length<=1000) (hR:P0.Row w a zs) :
  Calls prog 111 #[.slice a zs.length c] w fun e w'=>∃ a' c',e=.returned (.slice a' zs.length c')/\IBuf w.heap.size w' a' zs.length c' zs/\Bq w w':=by
 have qn:∀ (w:World) (a:Option Addr) (n c n' c':Nat),(binOp .eql 32 (.slice a n c) (.slice none n' c')).run prog w=.ok (.bool a.isNone) w:=fun w a n c n' c'=>Lib.run_eql_slice_nil w _ _ a n c n' c' underlying32
 cases a with
 | none=>
  have h0:zs=[]:=by
   rcases hR with h | ⟨b,off,h,_⟩
   ·exact h
   ·cases h
  subst h0;go_enter func111,ntmps111;go_wp2;go_ret;exact ⟨none,0,rfl,J0.ibuf_nil _,Below.refl _ _⟩
 | some p=>
  have b0:=J0.ibuf_made w (Nat.le_refl _);have l0:=K0.below_new w (.cells #[] 3);have r0:=hR.below l0;clear hR;go_enter func111,ntmps111
  go_wp2_with (at_builtin;refine Q1.append_rows rfl (.tmp 5) (.tmp 6) rfl b0 _ _ zs (by rfl) (by rfl) r0 (by omega) l0.size ?_;intro a1 c1 w1 b1 l1)
  go_ret;exact ⟨a1,c1,by simp,by simpa using b1,l0.trans l1⟩
end D0
namespace D1
variable {w W W' : World} {B : Nat} {a : Option Addr}
theorem cells6 {x0 x1 x2 x3 x4 x5:Value} (h:K0.Blk B [x0,x1,x2,x3,x4,x5] W):Ce W B 0 x0/\Ce W B 1 x1/\Ce W B 2 x2/\Ce W B 3 x3/\Ce W B 4 x4/\Ce W B 5 x5:=⟨h.cell 0 (by simp),h.cell 1 (by simp),h.cell 2 (by simp),h.cell 3 (by simp),h.cell 4 (by simp),h.cell 5 (by simp)⟩
theorem free6 {x0 x1 x2 x3 x4 x5:Value} (h:K0.Blk B [x0,x1,x2,x3,x4,x5] W):W.frozen? ⟨B,0,none⟩=false/\W.frozen? ⟨B,1,none⟩=false/\W.frozen? ⟨B,2,none⟩=false/\W.frozen? ⟨B,3,none⟩=false/\W.frozen? ⟨B,4,none⟩=false/\W.frozen? ⟨B,5,none⟩=false:=⟨h.free 0 (by simp),h.free 1 (by simp),h.free 2 (by simp),h.free 3 (by simp),h.free 4 (by simp),h.free 5 (by simp)⟩
abbrev W6 (W:World) (B:Nat) (y0 y1 y2 y3 y4 y5:Value):World:=((((((W.setCell ⟨B,0,none⟩ y0).setCell ⟨B,1,none⟩ y1).setCell ⟨B,2,none⟩ y2).setCell ⟨B,3,none⟩ y3).setCell ⟨B,4,none⟩ y4).setCell ⟨B,5,none⟩ y5)
theorem put6 {x0 x1 x2 x3 x4 x5:Value} (h:K0.Blk B [x0,x1,x2,x3,x4,x5] W) (y0 y1 y2 y3 y4 y5:Value):K0.Blk B [y0,y1,y2,y3,y4,y5] (W6 W B y0 y1 y2 y3 y4 y5):=((((((h.set 0 y0).set 1 y1).set 2 y2).set 3 y3).set 4 y4).set 5 y5)
theorem bel6 {b:Nat} (h:Below b w W) (hb:b<=B) (y0 y1 y2 y3 y4 y5:Value):Below b w (W6 W B y0 y1 y2 y3 y4 y5):=((((((h.setCell (p:=⟨B,0,none⟩) hb y0).setCell (p:=⟨B,1,none⟩) hb y1).setCell (p:=⟨B,2,none⟩) hb y2).setCell (p:=⟨B,3,none⟩) hb y3).setCell (p:=⟨B,4,none⟩) hb y4).setCell (p:=⟨B,5,none⟩) hb y5)
theorem own6 {base:Nat} {zs:List Int} (h:J0.Own base W a zs) (hB:B<base) (y0 y1 y2 y3 y4 y5:Value):J0.Own base (W6 W B y0 y1 y2 y3 y4 y5) a zs:=((((((h.set hB 0 y0).set hB 1 y1).set hB 2 y2).set hB 3 y3).set hB 4 y4).set hB 5 y5)
theorem ownE6 {base:Nat} {es:List T0.Ent} (h:V1.OwnE base W a es) (hB:B<base) (y0 y1 y2 y3 y4 y5:Value):V1.OwnE base (W6 W B y0 y1 y2 y3 y4 y5) a es:=(N5.ownE_set (N5.ownE_set (N5.ownE_set (N5.ownE_set (N5.ownE_set (N5.ownE_set h hB 0 y0) hB 1 y1) hB 2 y2) hB 3 y3) hB 4 y4) hB 5 y5)
abbrev nv (k o t:Int) (a:Option Addr) (n c:Nat) (x:ByteArray) (ae:Option Addr) (ne ce:Nat):Value:=.agg #[.int .i64 k,.int .i64 o,.int .i64 t,.slice a n c,.string x,.slice ae ne ce]
abbrev nvs (k o t:Int) (a:Option Addr) (n c:Nat) (x:ByteArray) (ae:Option Addr) (ne ce:Nat):List Value:=[.int .i64 k,.int .i64 o,.int .i64 t,.slice a n c,.string x,.slice ae ne ce]
def data (mem:ByteArray) (i:Int):ByteArray:=(O0.joined mem (G0.gZ (O0.recd mem i)) (G0.gZ (O0.recd mem i)).length).extract 0 (G0.gS (O0.recd mem i)).toNat
def nodeOk (mem:ByteArray) (i:Int):Bool:=G0.isI (O0.recd mem i) && (!decide (G0.gK (O0.recd mem i)=2) || V0.isD (data mem i))
def nodeE (mem:ByteArray) (i:Int):List T0.Ent:=if G0.gK (O0.recd mem i)=2 then V0.dE (data mem i) else []
def Ans (mem:ByteArray) (i:Int) (w:World) (e:Ending) (w':World):Prop:=
 ∃ (k o t:Int) (a:Option Addr) (n c:Nat) (x:ByteArray) (ae:Option Addr) (ne ce:Nat),e=.returned (.tuple #[nv k o t a n c x ae ne ce,.bool (nodeOk mem i)])/\Bq w w'/\
  (nodeOk mem i=true->k=G0.gK (O0.recd mem i)/\o=G0.gO (O0.recd mem i)/\n=(G0.gZ (O0.recd mem i)).length/\n<=c/\J0.Own w.heap.size w' a (G0.gZ (O0.recd mem i))/\ne=(nodeE mem i).length/\ne<=ce/\V1.OwnE w.heap.size w' ae (nodeE mem i))
theorem ans_no {mem:ByteArray} {i:Int} {w w':World} {k o t:Int} {a:Option Addr} {n c:Nat} {x:ByteArray} {ae:Option Addr} {ne ce:Nat} (h:nodeOk mem i=false) (hb:Bq w w'):Ans mem i w (.returned (.tuple #[nv k o t a n c x ae ne ce,.bool false])) w':=
 ⟨k,o,t,a,n,c,x,ae,ne,ce,by rw[h],hb,fun h'=>by rw[h] at h';cases h'⟩
theorem ans_yes {mem:ByteArray} {i:Int} {w w':World} {t:Int} {a:Option Addr} {c:Nat} {x:ByteArray} {ae:Option Addr} {ce:Nat} (h:nodeOk mem i=true) (hb:Bq w w') (hc:(G0.gZ (O0.recd mem i)).length<=c) (ho:J0.Own w.heap.size w' a (G0.gZ (O0.recd mem i))) (hce:(nodeE mem i).length<=ce) (hoe:V1.OwnE w.heap.size w' ae (nodeE mem i)) :
  Ans mem i w (.returned (.tuple #[nv (G0.gK (O0.recd mem i)) (G0.gO (O0.recd mem i)) t a (G0.gZ (O0.recd mem i)).length c x ae (nodeE mem i).length ce,.bool true])) w':=
 ⟨_,_,t,a,_,c,x,ae,_,ce,by rw[h],hb,fun _=>⟨rfl,rfl,rfl,hc,ho,rfl,hce,hoe⟩⟩
structure ND (w:World) (k o t:Int) (a:Option Addr) (n c B:Nat) (W:World):Prop where
 res:K0.Blk w.heap.size (nvs 0 0 0 none 0 0 ⟨#[]⟩ none 0 0) W
 nb:K0.Blk B (I0.vals k o t a n c) W
 bel:Bq w W
theorem ND.below {k o t:Int} {n c:Nat} (h:ND w k o t a n c B W) (hb:Bq W W'):ND w k o t a n c B W':=⟨h.res.below hb,h.nb.below hb,h.bel.trans (hb.mono h.bel.size)⟩
abbrev w00 (w:World):World:=w.alloc (.cells #[.int .i64 0,.int .i64 0,.int .i64 0,.slice none 0 0,.string ⟨#[]⟩,.slice none 0 0] 215)
theorem nd_new {k o t:Int} {n c:Nat} (hb:Bq (w00 w) W):ND w k o t a n c W.heap.size (W.alloc (.cells (Iq k o t a n c) 96)):=
 ⟨((K0.blk_new (nvs 0 0 0 none 0 0 ⟨#[]⟩ none 0 0) w 215).below hb).alloc _,K0.blk_new (I0.vals k o t a n c) W 96,((K0.below_new w _).trans (hb.mono (K0.below_new w _).size)).alloc (Nat.le_trans (K0.below_new w _).size hb.size) _⟩
theorem node_cases (mem:ByteArray) (i:Int) :
  (G0.isI (O0.recd mem i)=false/\nodeOk mem i=false)\/(G0.isI (O0.recd mem i)=true/\(G0.gK (O0.recd mem i) != 2)=true/\nodeOk mem i=true/\nodeE mem i=[])\/
  (G0.isI (O0.recd mem i)=true/\(G0.gK (O0.recd mem i) != 2)=false/\nodeOk mem i=V0.isD (data mem i)/\nodeE mem i=V0.dE (data mem i)):=by
 unfold nodeOk nodeE
 cases hI:G0.isI (O0.recd mem i) with
 | false=>exact Or.inl ⟨rfl,Bool.false_and _⟩
 | true=>
  right
  by_cases h2:G0.gK (O0.recd mem i)=2
  ·right
   exact ⟨rfl,by simpa using h2,by rw[decide_eq_true h2,Bool.true_and,Bool.not_true,Bool.false_or],by rw[if_pos h2]⟩
  ·left
   exact ⟨rfl,by simpa using h2,by rw[decide_eq_false h2,Bool.not_false,Bool.true_or,Bool.true_and],by rw[if_neg h2]⟩
theorem data_le (mem:ByteArray) (i:Int) (hm:mem.size=768):(data mem i).size<=281474976710656:=by
 unfold data;rw[ByteArray.size_extract]
 cases hI:G0.isI (O0.recd mem i) with
 | true=>
  have hg:=O0.got hI;rw[O0.joined_size hm hg.2.2.2.1 _ (Nat.le_refl _)];have:=hg.2.1;omega
 | false=>
  rw[(G0.g_no hI).2.2.2];have:(O0.joined mem [] ([]:List Int).length).size=0:=rfl;omega
theorem readNode (mem:ByteArray) (i:Int) (w:World) (hm:mem.size=768):Calls prog 169 #[.string mem,Iv i] w (Ans mem i w):=by
 have hms:mem.size<=281474976710656:=by omega
 have hrs:=O0.recd_size mem i hms
 have hpt:Hid (∀ W,Calls prog 124 #[.string mem,Iv (L1.recAt i),Iv 16] W (Rb (.string (O0.recd mem i)) W)):=fun W=>B2.impl_Part _ _ _ _ hms
 have hG:Hid (∀ W,Calls prog 197 #[.string (O0.recd mem i)] W (G3.Ans (O0.recd mem i) W)):=fun W=>G3.impl_GetInode _ W hrs
 have hA:Hid (∀ W e w',G3.Ans (O0.recd mem i) W e w'->∃ a c,e=.returned (.tuple #[I0.val (G0.gK (O0.recd mem i)) (G0.gO (O0.recd mem i)) (G0.gS (O0.recd mem i)) a (G0.gZ (O0.recd mem i)).length c,.bool (G0.isI (O0.recd mem i))])/\J0.Own W.heap.size w' a (G0.gZ (O0.recd mem i))/\(G0.gZ (O0.recd mem i)).length<=c/\Bq W w'):=fun W e w' h=>h
 have hgot:=fun h=>O0.got (s:=O0.recd mem i) h
 have HN:Hid (∀ k o t a n c x ae ne ce w',nodeOk mem i=false->Bq w w'->Ans mem i w (.returned (.tuple #[nv k o t a n c x ae ne ce,.bool false])) w'):=fun k o t a n c x ae ne ce w' h hb=>ans_no h hb
 have HY:Hid (∀ t a c x ae ce w',nodeOk mem i=true->Bq w w'->(G0.gZ (O0.recd mem i)).length<=c->J0.Own w.heap.size w' a (G0.gZ (O0.recd mem i))->(nodeE mem i).length<=ce->V1.OwnE w.heap.size w' ae (nodeE mem i)->Ans mem i w (.returned (.tuple #[nv (G0.gK (O0.recd mem i)) (G0.gO (O0.recd mem i)) t a (G0.gZ (O0.recd mem i)).length c x ae (nodeE mem i).length ce,.bool true])) w'):=fun t a c x ae ce w' h hb hc ho hce hoe=>ans_yes h hb hc ho hce hoe
 have hcase:=node_cases mem i;have hdat:data mem i=(O0.joined mem (G0.gZ (O0.recd mem i)) (G0.gZ (O0.recd mem i)).length).extract 0 (G0.gS (O0.recd mem i)).toNat:=rfl;obtain ⟨R,hR⟩:∃ R,Ans mem i w=R:=⟨_,rfl⟩;rw[hR] at HN HY ⊢;obtain ⟨Q,hQ⟩:∃ Q,O0.recd mem i=Q:=⟨_,rfl⟩;rw[hQ] at hpt hG hA hgot HY hcase hdat;obtain ⟨D,hD⟩:∃ D,data mem i=D:=⟨_,rfl⟩;rw[hD] at hcase hdat;obtain ⟨K,hK⟩:∃ K,G0.gK Q=K:=⟨_,rfl⟩;obtain ⟨O,hO⟩:∃ O,G0.gO Q=O:=⟨_,rfl⟩;obtain ⟨S,hS⟩:∃ S,G0.gS Q=S:=⟨_,rfl⟩;obtain ⟨Z,hZ⟩:∃ Z,G0.gZ Q=Z:=⟨_,rfl⟩;rw[hK] at hcase;rw[hK,hO,hZ] at HY;rw[hK,hO,hS,hZ] at hA;rw[hS,hZ] at hdat;rw[hK,hS,hZ] at hgot
 have hgd:Hid (∀ W,Calls prog 198 #[.string D] W (V1.Ans D W)):=fun W=>V2.impl_GetDir _ _ (by rw[<- hD];exact data_le mem i hm)
 have HD:Hid (∀ W e w',V1.Ans D W e w'->∃ a c,e=.returned (.tuple #[.slice a (V0.dE D).length c,.bool (V0.isD D)])/\V1.OwnE W.heap.size w' a (V0.dE D)/\(V0.dE D).length<=c/\Bq W w'):=fun W e w' h=>h
 clear hR hQ hK hO hS hZ hrs hD
 rcases hcase with ⟨gI,hp⟩ | ⟨gI,g2,hp,hE⟩ | ⟨gI,g2,hp,hE⟩
 ·rw[gI] at hA
  clear gI hgot hgd;go_enter func169,ntmps169
  go_wp2_with (first
   | (go_at_call 123;refine (L1.impl_RecAt _ _).mono ?_;rintro e wq ⟨rfl,rfl⟩)
   | (go_at_call 124;refine (hpt.out _).mono ?_;rintro e w1 ⟨rfl,b1⟩)
   | (go_at_call 197;refine (hG.out _).mono ?_;intro e w2 hans;obtain ⟨a,c,rfl,ho,hc,b2⟩:=hA.out _ _ _ hans;clear hans;have p2:=nd_new (k:=K) (o:=O) (t:=S) (a:=a) (n:=Z.length) (c:=c) (b1.trans (b2.mono b1.size));have y0:=p2.nb.c0;have y1:=p2.nb.c1;have y2:=p2.nb.c2;have y3:=p2.nb.c3;obtain ⟨i0,i1,i2,i3,i4,i5⟩:=cells6 p2.res;obtain ⟨j0,j1,j2,j3,j4,j5⟩:=free6 p2.res))
  have q:=put6 p2.res (Iv 0) (Iv 0) (Iv 0) (.slice none 0 0) (.string ⟨#[]⟩) (.slice none 0 0);obtain ⟨u0,u1,u2,u3,u4,u5⟩:=cells6 q;exact bodyPost_ret (v:=.tuple #[nv 0 0 0 none 0 0 ⟨#[]⟩ none 0 0,.bool false]) (by simp[results,results169,go_sem,u0,u1,u2,u3,u4,u5]) rfl (HN.out _ _ _ _ _ _ _ _ _ _ _ hp (bel6 p2.bel (Nat.le_refl _) (Iv 0) (Iv 0) (Iv 0) (.slice none 0 0) (.string ⟨#[]⟩) (.slice none 0 0)))
 ·obtain ⟨⟨s0,s1⟩,zl,s2,hpk,-⟩:=hgot gI
  rw[gI] at hA;rw[hE] at HY;clear gI hgot hgd hE
  have hds:Hid (∀ W c a,P0.Row W a Z->Calls prog 158 #[.string mem,I0.val K O S a Z.length c] W (Rb (.string D) W)):=fun W c a h=>by rw[hdat];exact O1.dataOf mem K O S a c Z W hm hpk zl s0 s2 h
  clear hdat;go_enter func169,ntmps169
  go_wp2_with (first
   | (go_at_call 123;refine (L1.impl_RecAt _ _).mono ?_;rintro e wq ⟨rfl,rfl⟩)
   | (go_at_call 124;refine (hpt.out _).mono ?_;rintro e w1 ⟨rfl,b1⟩)
   | (go_at_call 197;refine (hG.out _).mono ?_;intro e w2 hans;obtain ⟨a,c,rfl,ho,hc,b2⟩:=hA.out _ _ _ hans;clear hans;have p2:=nd_new (k:=K) (o:=O) (t:=S) (a:=a) (n:=Z.length) (c:=c) (b1.trans (b2.mono b1.size));have y0:=p2.nb.c0;have y1:=p2.nb.c1;have y2:=p2.nb.c2;have y3:=p2.nb.c3;have r2:=ho.row.alloc (.cells (Iq K O S a Z.length c) 96)))
  have bd:Bq (w2.alloc (.cells (Iq K O S a Z.length c) 96)) (w2.alloc (.cells (Iq K O S a Z.length c) 96)).drew:=(Below.refl _ _).drew;have p3:=p2.below bd;have r3:=r2.below bd;have o3:=(ho.alloc (.cells (Iq K O S a Z.length c) 96)).below bd;have hbz:=b1.size;clear bd
  go_region_with ((go_at_call 158;refine (hds.out _ _ _ r3).mono ?_;rintro e w4 ⟨rfl,b4⟩;have p4:=p3.below b4;have o4:=o3.below b4;have z0:=p4.nb.c0;have z1:=p4.nb.c1;have z2:=p4.nb.c2;have z3:=p4.nb.c3;obtain ⟨i0,i1,i2,i3,i4,i5⟩:=cells6 p4.res;obtain ⟨j0,j1,j2,j3,j4,j5⟩:=free6 p4.res))
  all_goals
   have q:=put6 p4.res (Iv K) (Iv O) (Iv S) (.slice a Z.length c) (.string D) (.slice none 0 0);obtain ⟨u0,u1,u2,u3,u4,u5⟩:=cells6 q;go_wp2;refine bodyPost_ret (v:=.tuple #[nv K O S a Z.length c D none 0 0,.bool true]) (by simp[results,results169,go_sem,u0,u1,u2,u3,u4,u5]) rfl (HY.out _ _ _ _ _ _ _ hp (bel6 p4.bel (Nat.le_refl _) _ _ _ _ _ _) hc ?_ (Nat.le_refl _) (Or.inl rfl));exact (own6 o4 (by simp at hbz;omega) _ _ _ _ _ _).mono (by simp at hbz;omega)
 ·obtain ⟨⟨s0,s1⟩,zl,s2,hpk,-⟩:=hgot gI
  rw[gI] at hA;rw[hE] at HY;have HP:Hid (nodeOk mem i=V0.isD D):=hp;clear gI hgot hE hp
  have hds:Hid (∀ W c a,P0.Row W a Z->Calls prog 158 #[.string mem,I0.val K O S a Z.length c] W (Rb (.string D) W)):=fun W c a h=>by rw[hdat];exact O1.dataOf mem K O S a c Z W hm hpk zl s0 s2 h
  clear hdat;go_enter func169,ntmps169
  go_wp2_with (first
   | (go_at_call 123;refine (L1.impl_RecAt _ _).mono ?_;rintro e wq ⟨rfl,rfl⟩)
   | (go_at_call 124;refine (hpt.out _).mono ?_;rintro e w1 ⟨rfl,b1⟩)
   | (go_at_call 197;refine (hG.out _).mono ?_;intro e w2 hans;obtain ⟨a,c,rfl,ho,hc,b2⟩:=hA.out _ _ _ hans;clear hans;have p2:=nd_new (k:=K) (o:=O) (t:=S) (a:=a) (n:=Z.length) (c:=c) (b1.trans (b2.mono b1.size));have y0:=p2.nb.c0;have y1:=p2.nb.c1;have y2:=p2.nb.c2;have y3:=p2.nb.c3;have r2:=ho.row.alloc (.cells (Iq K O S a Z.length c) 96);have o2:=ho.alloc (.cells (Iq K O S a Z.length c) 96))
   | (go_at_call 158;refine (hds.out _ _ _ r2).mono ?_;rintro e w3 ⟨rfl,b3⟩;have p3:=p2.below b3;have o3:=o2.below b3)
   | (go_at_call 198;refine (hgd.out _).mono ?_;intro e w4 hans;obtain ⟨ae,ce,rfl,hoe,hce,b4⟩:=HD.out _ _ _ hans;clear hans;have p4:=p3.below b4;have o4:=o3.below b4;have z0:=p4.nb.c0;have z1:=p4.nb.c1;have z2:=p4.nb.c2;have z3:=p4.nb.c3;obtain ⟨i0,i1,i2,i3,i4,i5⟩:=cells6 p4.res;obtain ⟨j0,j1,j2,j3,j4,j5⟩:=free6 p4.res))
  have q:=put6 p4.res (Iv K) (Iv O) (Iv S) (.slice a Z.length c) (.string ⟨#[]⟩) (.slice ae (V0.dE D).length ce);obtain ⟨u0,u1,u2,u3,u4,u5⟩:=cells6 q;have hbl:=bel6 p4.bel (Nat.le_refl _) (Iv K) (Iv O) (Iv S) (.slice a Z.length c) (.string ⟨#[]⟩) (.slice ae (V0.dE D).length ce);have hbz:=b1.size;have hp3:=p3.res.lt;refine bodyPost_ret (v:=.tuple #[nv K O S a Z.length c ⟨#[]⟩ ae (V0.dE D).length ce,.bool (V0.isD D)]) (by simp[results,results169,go_sem,u0,u1,u2,u3,u4,u5]) rfl ?_
  cases hI:V0.isD D with
  | false=>exact HN.out _ _ _ _ _ _ _ _ _ _ _ (HP.out.trans hI) hbl
  | true=>
   refine HY.out _ _ _ _ _ _ _ (HP.out.trans hI) hbl hc ?_ hce ?_
   ·exact (own6 o4 (by simp at hbz;omega) _ _ _ _ _ _).mono (by simp at hbz;omega)
   ·exact (ownE6 hoe hp3 _ _ _ _ _ _).mono (Nat.le_of_lt hp3)
end D1
end Go.Proofs.YtlejhfnjmkdobaaGreatDoor
