/- Joined texts. -/
import Derived.Test.YtlejhfnjmkdobaaGreatDoorJtM
set_option linter.unusedVariables false
set_option linter.unusedSimpArgs false
set_option maxRecDepth 10000
set_option maxHeartbeats 16000000
namespace Go.Proofs.YtlejhfnjmkdobaaGreatDoor
open ChangeShapes WideShapes ChangeAt RowKit
open Go.Proofs.Tryz
namespace D1
variable {w W W' : World} {B : Nat} {a : Option Addr}
def nodeD (mem:ByteArray) (i:Int):ByteArray:=if G0.gK (O0.recd mem i)=2 then ⟨#[]⟩ else data mem i
def Ans2 (mem:ByteArray) (i:Int) (w:World) (e:Ending) (w':World):Prop:=
 ∃ (k o t:Int) (a:Option Addr) (n c:Nat) (x:ByteArray) (ae:Option Addr) (ne ce:Nat),e=.returned (.tuple #[nv k o t a n c x ae ne ce,.bool (nodeOk mem i)])/\Bq w w'/\
  (nodeOk mem i=true->k=G0.gK (O0.recd mem i)/\o=G0.gO (O0.recd mem i)/\n=(G0.gZ (O0.recd mem i)).length/\n<=c/\J0.Own w.heap.size w' a (G0.gZ (O0.recd mem i))/\ne=(nodeE mem i).length/\ne<=ce/\V1.OwnE w.heap.size w' ae (nodeE mem i)/\x=nodeD mem i)
theorem ans2_no {mem:ByteArray} {i:Int} {w w':World} {k o t:Int} {a:Option Addr} {n c:Nat} {x:ByteArray} {ae:Option Addr} {ne ce:Nat} (h:nodeOk mem i=false) (hb:Bq w w'):Ans2 mem i w (.returned (.tuple #[nv k o t a n c x ae ne ce,.bool false])) w':=
 ⟨k,o,t,a,n,c,x,ae,ne,ce,by rw[h],hb,fun h'=>by rw[h] at h';cases h'⟩
theorem ans2_yes {mem:ByteArray} {i:Int} {w w':World} {t:Int} {a:Option Addr} {c:Nat} {x:ByteArray} {ae:Option Addr} {ce:Nat} (h:nodeOk mem i=true) (hb:Bq w w') (hc:(G0.gZ (O0.recd mem i)).length<=c) (ho:J0.Own w.heap.size w' a (G0.gZ (O0.recd mem i))) (hce:(nodeE mem i).length<=ce) (hoe:V1.OwnE w.heap.size w' ae (nodeE mem i)) (hx:x=nodeD mem i) :
  Ans2 mem i w (.returned (.tuple #[nv (G0.gK (O0.recd mem i)) (G0.gO (O0.recd mem i)) t a (G0.gZ (O0.recd mem i)).length c x ae (nodeE mem i).length ce,.bool true])) w':=
 ⟨_,_,t,a,_,c,x,ae,_,ce,by rw[h],hb,fun _=>⟨rfl,rfl,rfl,hc,ho,rfl,hce,hoe,hx⟩⟩
theorem node_data (mem:ByteArray) (i:Int):((G0.gK (O0.recd mem i) != 2)=true->nodeD mem i=data mem i)/\((G0.gK (O0.recd mem i) != 2)=false->nodeD mem i=⟨#[]⟩):=by
 unfold nodeD;refine ⟨fun h=>if_neg (by simpa using h),fun h=>if_pos (by simpa using h)⟩
theorem readNode2 (mem:ByteArray) (i:Int) (w:World) (hm:mem.size=768):Calls prog 169 #[.string mem,Iv i] w (Ans2 mem i w):=by
 have hms:mem.size<=281474976710656:=by omega
 have hrs:=O0.recd_size mem i hms
 have hpt:Hid (∀ W,Calls prog 124 #[.string mem,Iv (L1.recAt i),Iv 16] W (Rb (.string (O0.recd mem i)) W)):=fun W=>B2.impl_Part _ _ _ _ hms
 have hG:Hid (∀ W,Calls prog 197 #[.string (O0.recd mem i)] W (G3.Ans (O0.recd mem i) W)):=fun W=>G3.impl_GetInode _ W hrs
 have hA:Hid (∀ W e w',G3.Ans (O0.recd mem i) W e w'->∃ a c,e=.returned (.tuple #[I0.val (G0.gK (O0.recd mem i)) (G0.gO (O0.recd mem i)) (G0.gS (O0.recd mem i)) a (G0.gZ (O0.recd mem i)).length c,.bool (G0.isI (O0.recd mem i))])/\J0.Own W.heap.size w' a (G0.gZ (O0.recd mem i))/\(G0.gZ (O0.recd mem i)).length<=c/\Bq W w'):=fun W e w' h=>h
 have hgot:=fun h=>O0.got (s:=O0.recd mem i) h
 have HN:Hid (∀ k o t a n c x ae ne ce w',nodeOk mem i=false->Bq w w'->Ans2 mem i w (.returned (.tuple #[nv k o t a n c x ae ne ce,.bool false])) w'):=fun k o t a n c x ae ne ce w' h hb=>ans2_no h hb
 have HY:Hid (∀ t a c x ae ce w',nodeOk mem i=true->Bq w w'->(G0.gZ (O0.recd mem i)).length<=c->J0.Own w.heap.size w' a (G0.gZ (O0.recd mem i))->(nodeE mem i).length<=ce->V1.OwnE w.heap.size w' ae (nodeE mem i)->x=nodeD mem i->Ans2 mem i w (.returned (.tuple #[nv (G0.gK (O0.recd mem i)) (G0.gO (O0.recd mem i)) t a (G0.gZ (O0.recd mem i)).length c x ae (nodeE mem i).length ce,.bool true])) w'):=fun t a c x ae ce w' h hb hc ho hce hoe hx=>ans2_yes h hb hc ho hce hoe hx
 have hcase:=node_cases mem i;obtain ⟨hdA,hdB⟩:=node_data mem i;have hdat:data mem i=(O0.joined mem (G0.gZ (O0.recd mem i)) (G0.gZ (O0.recd mem i)).length).extract 0 (G0.gS (O0.recd mem i)).toNat:=rfl;obtain ⟨R,hR⟩:∃ R,Ans2 mem i w=R:=⟨_,rfl⟩;rw[hR] at HN HY ⊢;obtain ⟨Q,hQ⟩:∃ Q,O0.recd mem i=Q:=⟨_,rfl⟩;rw[hQ] at hpt hG hA hgot HY hcase hdat hdA hdB;obtain ⟨D,hD⟩:∃ D,data mem i=D:=⟨_,rfl⟩;rw[hD] at hcase hdat hdA;obtain ⟨K,hK⟩:∃ K,G0.gK Q=K:=⟨_,rfl⟩;obtain ⟨O,hO⟩:∃ O,G0.gO Q=O:=⟨_,rfl⟩;obtain ⟨S,hS⟩:∃ S,G0.gS Q=S:=⟨_,rfl⟩;obtain ⟨Z,hZ⟩:∃ Z,G0.gZ Q=Z:=⟨_,rfl⟩;rw[hK] at hcase hdA hdB;rw[hK,hO,hZ] at HY;rw[hK,hO,hS,hZ] at hA;rw[hS,hZ] at hdat;rw[hK,hS,hZ] at hgot
 have hgd:Hid (∀ W,Calls prog 198 #[.string D] W (V1.Ans D W)):=fun W=>V2.impl_GetDir _ _ (by rw[<- hD];exact data_le mem i hm)
 have HD:Hid (∀ W e w',V1.Ans D W e w'->∃ a c,e=.returned (.tuple #[.slice a (V0.dE D).length c,.bool (V0.isD D)])/\V1.OwnE W.heap.size w' a (V0.dE D)/\(V0.dE D).length<=c/\Bq W w'):=fun W e w' h=>h
 clear hR hQ hK hO hS hZ hrs hD;have HA:Hid ((K != 2)=true->nodeD mem i=D):=hdA;have HBB:Hid ((K != 2)=false->nodeD mem i=⟨#[]⟩):=hdB;clear hdA hdB
 rcases hcase with ⟨gI,hp⟩ | ⟨gI,g2,hp,hE⟩ | ⟨gI,g2,hp,hE⟩
 ·rw[gI] at hA
  clear gI hgot hgd;go_enter func169,ntmps169
  go_wp2_with (first
   | (go_at_call 123;refine (L1.impl_RecAt _ _).mono ?_;rintro e wq ⟨rfl,rfl⟩)
   | (go_at_call 124;refine (hpt.out _).mono ?_;rintro e w1 ⟨rfl,b1⟩)
   | (go_at_call 197;refine (hG.out _).mono ?_;intro e w2 hans;obtain ⟨a,c,rfl,ho,hc,b2⟩:=hA.out _ _ _ hans;clear hans;have p2:=nd_new (k:=K) (o:=O) (t:=S) (a:=a) (n:=Z.length) (c:=c) (b1.trans (b2.mono b1.size));have y0:=p2.nb.c0;have y1:=p2.nb.c1;have y2:=p2.nb.c2;have y3:=p2.nb.c3;obtain ⟨i0,i1,i2,i3,i4,i5⟩:=cells6 p2.res;obtain ⟨j0,j1,j2,j3,j4,j5⟩:=free6 p2.res))
  have q:=put6 p2.res (Iv 0) (Iv 0) (Iv 0) (.slice none 0 0) (.string ⟨#[]⟩) (.slice none 0 0);obtain ⟨u0,u1,u2,u3,u4,u5⟩:=cells6 q;exact bodyPost_ret (v:=.tuple #[nv 0 0 0 none 0 0 ⟨#[]⟩ none 0 0,.bool false]) (by simp[results,results169,go_sem,u0,u1,u2,u3,u4,u5]) rfl (HN.out _ _ _ _ _ _ _ _ _ _ _ hp (bel6 p2.bel (Nat.le_refl _) (Iv 0) (Iv 0) (Iv 0) (.slice none 0 0) (.string ⟨#[]⟩) (.slice none 0 0)))
 ·obtain ⟨⟨s0,s1⟩,zl,s2,hpk,-⟩:=hgot gI
  rw[gI] at hA;rw[hE] at HY;clear gI hgot hgd hE
  have hds:Hid (∀ W c a,P0.Row W a Z->Calls prog 158 #[.string mem,I0.val K O S a Z.length c] W (Rb (.string D) W)):=fun W c a h=>by rw[hdat];exact O1.dataOf mem K O S a c Z W hm hpk zl s0 s2 h
  clear hdat;go_enter func169,ntmps169
  go_wp2_with (first
   | (go_at_call 123;refine (L1.impl_RecAt _ _).mono ?_;rintro e wq ⟨rfl,rfl⟩)
   | (go_at_call 124;refine (hpt.out _).mono ?_;rintro e w1 ⟨rfl,b1⟩)
   | (go_at_call 197;refine (hG.out _).mono ?_;intro e w2 hans;obtain ⟨a,c,rfl,ho,hc,b2⟩:=hA.out _ _ _ hans;clear hans;have p2:=nd_new (k:=K) (o:=O) (t:=S) (a:=a) (n:=Z.length) (c:=c) (b1.trans (b2.mono b1.size));have y0:=p2.nb.c0;have y1:=p2.nb.c1;have y2:=p2.nb.c2;have y3:=p2.nb.c3;have r2:=ho.row.alloc (.cells (Iq K O S a Z.length c) 96)))
  have bd:Bq (w2.alloc (.cells (Iq K O S a Z.length c) 96)) (w2.alloc (.cells (Iq K O S a Z.length c) 96)).drew:=(Below.refl _ _).drew;have p3:=p2.below bd;have r3:=r2.below bd;have o3:=(ho.alloc (.cells (Iq K O S a Z.length c) 96)).below bd;have hbz:=b1.size;clear bd
  go_region_with ((go_at_call 158;refine (hds.out _ _ _ r3).mono ?_;rintro e w4 ⟨rfl,b4⟩;have p4:=p3.below b4;have o4:=o3.below b4;have z0:=p4.nb.c0;have z1:=p4.nb.c1;have z2:=p4.nb.c2;have z3:=p4.nb.c3;obtain ⟨i0,i1,i2,i3,i4,i5⟩:=cells6 p4.res;obtain ⟨j0,j1,j2,j3,j4,j5⟩:=free6 p4.res))
  all_goals
   have q:=put6 p4.res (Iv K) (Iv O) (Iv S) (.slice a Z.length c) (.string D) (.slice none 0 0);obtain ⟨u0,u1,u2,u3,u4,u5⟩:=cells6 q;go_wp2;refine bodyPost_ret (v:=.tuple #[nv K O S a Z.length c D none 0 0,.bool true]) (by simp[results,results169,go_sem,u0,u1,u2,u3,u4,u5]) rfl (HY.out _ _ _ _ _ _ _ hp (bel6 p4.bel (Nat.le_refl _) _ _ _ _ _ _) hc ?_ (Nat.le_refl _) (Or.inl rfl) (HA.out g2).symm);exact (own6 o4 (by simp at hbz;omega) _ _ _ _ _ _).mono (by simp at hbz;omega)
 ·obtain ⟨⟨s0,s1⟩,zl,s2,hpk,-⟩:=hgot gI
  rw[gI] at hA;rw[hE] at HY;have HP:Hid (nodeOk mem i=V0.isD D):=hp;clear gI hgot hE hp
  have hds:Hid (∀ W c a,P0.Row W a Z->Calls prog 158 #[.string mem,I0.val K O S a Z.length c] W (Rb (.string D) W)):=fun W c a h=>by rw[hdat];exact O1.dataOf mem K O S a c Z W hm hpk zl s0 s2 h
  clear hdat;go_enter func169,ntmps169
  go_wp2_with (first
   | (go_at_call 123;refine (L1.impl_RecAt _ _).mono ?_;rintro e wq ⟨rfl,rfl⟩)
   | (go_at_call 124;refine (hpt.out _).mono ?_;rintro e w1 ⟨rfl,b1⟩)
   | (go_at_call 197;refine (hG.out _).mono ?_;intro e w2 hans;obtain ⟨a,c,rfl,ho,hc,b2⟩:=hA.out _ _ _ hans;clear hans;have p2:=nd_new (k:=K) (o:=O) (t:=S) (a:=a) (n:=Z.length) (c:=c) (b1.trans (b2.mono b1.size));have y0:=p2.nb.c0;have y1:=p2.nb.c1;have y2:=p2.nb.c2;have y3:=p2.nb.c3;have r2:=ho.row.alloc (.cells (Iq K O S a Z.length c) 96);have o2:=ho.alloc (.cells (Iq K O S a Z.length c) 96))
   | (go_at_call 158;refine (hds.out _ _ _ r2).mono ?_;rintro e w3 ⟨rfl,b3⟩;have p3:=p2.below b3;have o3:=o2.below b3)
   | (go_at_call 198;refine (hgd.out _).mono ?_;intro e w4 hans;obtain ⟨ae,ce,rfl,hoe,hce,b4⟩:=HD.out _ _ _ hans;clear hans;have p4:=p3.below b4;have o4:=o3.below b4;have z0:=p4.nb.c0;have z1:=p4.nb.c1;have z2:=p4.nb.c2;have z3:=p4.nb.c3;obtain ⟨i0,i1,i2,i3,i4,i5⟩:=cells6 p4.res;obtain ⟨j0,j1,j2,j3,j4,j5⟩:=free6 p4.res))
  have q:=put6 p4.res (Iv K) (Iv O) (Iv S) (.slice a Z.length c) (.string ⟨#[]⟩) (.slice ae (V0.dE D).length ce);obtain ⟨u0,u1,u2,u3,u4,u5⟩:=cells6 q;have hbl:=bel6 p4.bel (Nat.le_refl _) (Iv K) (Iv O) (Iv S) (.slice a Z.length c) (.string ⟨#[]⟩) (.slice ae (V0.dE D).length ce);have hbz:=b1.size;have hp3:=p3.res.lt;refine bodyPost_ret (v:=.tuple #[nv K O S a Z.length c ⟨#[]⟩ ae (V0.dE D).length ce,.bool (V0.isD D)]) (by simp[results,results169,go_sem,u0,u1,u2,u3,u4,u5]) rfl ?_
  cases hI:V0.isD D with
  | false=>exact HN.out _ _ _ _ _ _ _ _ _ _ _ (HP.out.trans hI) hbl
  | true=>
   refine HY.out _ _ _ _ _ _ _ (HP.out.trans hI) hbl hc ?_ hce ?_ (HBB.out g2).symm
   ·exact (own6 o4 (by simp at hbz;omega) _ _ _ _ _ _).mono (by simp at hbz;omega)
   ·exact (ownE6 hoe hp3 _ _ _ _ _ _).mono (Nat.le_of_lt hp3)
end D1
end Go.Proofs.YtlejhfnjmkdobaaGreatDoor
