/- Joined texts. -/
import Derived.Test.YtlejhfnjmkdobaaGreatDoorJtW
import Derived.Test.YtlejhfnjmkdobaaGreatDoorJtX
set_option linter.unusedVariables false
set_option linter.unusedSimpArgs false
set_option maxRecDepth 10000
set_option maxHeartbeats 16000000
namespace Go.Proofs.YtlejhfnjmkdobaaGreatDoor
open ChangeShapes WideShapes ChangeAt RowKit
open Go.Proofs.Tryz
namespace LI
open N0 (Ln)
open N1 (Sl val vals Lists LB lb_new)
open N4 (put8 other8 bel8)
open LF (Btw OwnIn)
open LH (HL lob)
open J0 (IBuf Own)
variable {w W W' : World} {d : Ln} {s : Sl} {x4 x6 x7 : Value} {b : Nat}
abbrev zo:Obj:=.cells #[.int .i64 0,.int .i64 0,.int .i64 0,.string ⟨#[]⟩,.slice none 0 0,.string ⟨#[]⟩,.slice none 0 0,.slice none 0 0] 46
structure Cf (w:World) (d:Ln) (x4 x6 x7:Value) (W:World):Prop where
 box:K0.Blk w.heap.size [.int .i64 d.ino,.int .i64 d.cl,.int .i64 d.un,.string d.rc,x4,.string d.sav,x6,x7] W
 res:K0.Blk (w.heap.size+1) N4.zero8 W
 bel:Bq w W
theorem Cf.keep (h:Cf w d x4 x6 x7 W) (hb:Below b W W') (hB:w.heap.size+2<=b):Cf w d x4 x6 x7 W':=
 ⟨J0.blk_keep h.box hb (by omega),J0.blk_keep h.res hb (by omega),h.bel.trans (hb.mono (by omega))⟩
theorem Cf.below (h:Cf w d x4 x6 x7 W) (hb:Bq W W'):Cf w d x4 x6 x7 W':=⟨h.box.below hb,h.res.below hb,h.bel.trans (hb.mono h.bel.size)⟩
theorem Cf.drew (h:Cf w d x4 x6 x7 W):Cf w d x4 x6 x7 W.drew:=h.below ((Below.refl _ _).drew)
theorem Cf.lt (h:Cf w d x4 x6 x7 W):w.heap.size+2<=W.heap.size:=h.res.lt
theorem Cf.set4 (h:Cf w d x4 x6 x7 W) (v:Value):Cf w d v x6 x7 (W.setCell ⟨w.heap.size,4,none⟩ v):=⟨h.box.set 4 v,h.res.setOther (by omega) 4 v,h.bel.setCell (p:=⟨w.heap.size,4,none⟩) (Nat.le_refl _) v⟩
theorem Cf.set6 (h:Cf w d x4 x6 x7 W) (v:Value):Cf w d x4 v x7 (W.setCell ⟨w.heap.size,6,none⟩ v):=⟨h.box.set 6 v,h.res.setOther (by omega) 6 v,h.bel.setCell (p:=⟨w.heap.size,6,none⟩) (Nat.le_refl _) v⟩
theorem Cf.set7 (h:Cf w d x4 x6 x7 W) (v:Value):Cf w d x4 x6 v (W.setCell ⟨w.heap.size,7,none⟩ v):=⟨h.box.set 7 v,h.res.setOther (by omega) 7 v,h.bel.setCell (p:=⟨w.heap.size,7,none⟩) (Nat.le_refl _) v⟩
theorem Cf.set3 (h:Cf w d x4 x6 x7 W):Cf w d x4 x6 x7 (W.setCell ⟨w.heap.size,3,none⟩ (.string d.rc)):=⟨h.box.set 3 (.string d.rc),h.res.setOther (by omega) 3 _,h.bel.setCell (p:=⟨w.heap.size,3,none⟩) (Nat.le_refl _) _⟩
theorem Cf.set5 (h:Cf w d x4 x6 x7 W):Cf w d x4 x6 x7 (W.setCell ⟨w.heap.size,5,none⟩ (.string d.sav)):=⟨h.box.set 5 (.string d.sav),h.res.setOther (by omega) 5 _,h.bel.setCell (p:=⟨w.heap.size,5,none⟩) (Nat.le_refl _) _⟩
theorem cf_new (w:World) (d:Ln) (s:Sl):Cf w d (.slice s.a1 d.pg.length s.c1) (.slice s.a2 d.po.length s.c2) (.slice s.a3 d.fr.length s.c3) ((w.alloc (lob d s)).alloc zo):=
 ⟨(K0.blk_new (vals d s) w 46).alloc _,K0.blk_at N4.zero8 _ 46 (by simp),((Below.refl _ _).alloc (Nat.le_refl _) _).alloc (by simp) _⟩
theorem keepIn {lo hi b:Nat} {a:Option Addr} {zs:List Int} (h:OwnIn lo hi W a zs) (hb:Below b W W') (hx:hi<=b):OwnIn lo hi W' a zs:=h.imp id fun ⟨g,e,h1,h2,hk⟩=>⟨g,e,h1,h2,J0.blk_keep hk hb (by omega)⟩
def Ans (d:Ln) (w:World) (e:Ending) (w':World):Prop:=∃ s' m1 m2 hi,e=.returned (val d s')/\HL w.heap.size m1 m2 hi s' d.pg d.po d.fr w'/\hi<=w'.heap.size/\Bq w w'
theorem fin8 {a1 a2 a3:Option Addr} {c1 c2 c3 m1 m2 hi:Nat} (h:Cf w d (.slice a1 d.pg.length c1) (.slice a2 d.po.length c2) (.slice a3 d.fr.length c3) W) (hl:HL (w.heap.size+2) m1 m2 hi ⟨a1,c1,a2,c2,a3,c3⟩ d.pg d.po d.fr W) (hh:hi<=W.heap.size) (W':World)
  (hW:(((((((W.setCell ⟨w.heap.size+1,0,none⟩ (Iv d.ino)).setCell ⟨w.heap.size+1,1,none⟩ (Iv d.cl)).setCell ⟨w.heap.size+1,2,none⟩ (Iv d.un)).setCell ⟨w.heap.size+1,3,none⟩ (.string d.rc)).setCell ⟨w.heap.size+1,4,none⟩ (.slice a1 d.pg.length c1)).setCell ⟨w.heap.size+1,5,none⟩ (.string d.sav)).setCell ⟨w.heap.size+1,6,none⟩ (.slice a2 d.po.length c2)).setCell ⟨w.heap.size+1,7,none⟩ (.slice a3 d.fr.length c3)=W') :
  K0.Blk (w.heap.size+1) (vals d ⟨a1,c1,a2,c2,a3,c3⟩) W'/\Ans d w (.returned (val d ⟨a1,c1,a2,c2,a3,c3⟩)) W':=by
 have q:=put8 (y0:=Iv d.ino) (y1:=Iv d.cl) (y2:=Iv d.un) (y3:=.string d.rc) (y4:=.slice a1 d.pg.length c1) (y5:=.string d.sav) (y6:=.slice a2 d.po.length c2) (y7:=.slice a3 d.fr.length c3) h.res;have hlt:=h.res.lt
 have t:Btw (w.heap.size+1) (w.heap.size+2) W W':=by
  rw[<- hW];exact ((((((((Btw.refl _ _ W).set (p:=⟨w.heap.size+1,0,none⟩) (Nat.le_refl _) (Nat.lt_succ_self _) _).set (p:=⟨w.heap.size+1,1,none⟩) (Nat.le_refl _) (Nat.lt_succ_self _) _).set (p:=⟨w.heap.size+1,2,none⟩) (Nat.le_refl _) (Nat.lt_succ_self _) _).set (p:=⟨w.heap.size+1,3,none⟩) (Nat.le_refl _) (Nat.lt_succ_self _) _).set (p:=⟨w.heap.size+1,4,none⟩) (Nat.le_refl _) (Nat.lt_succ_self _) _).set (p:=⟨w.heap.size+1,5,none⟩) (Nat.le_refl _) (Nat.lt_succ_self _) _).set (p:=⟨w.heap.size+1,6,none⟩) (Nat.le_refl _) (Nat.lt_succ_self _) _).set (p:=⟨w.heap.size+1,7,none⟩) (Nat.le_refl _) (Nat.lt_succ_self _) _
 rw[hW] at q;have hl':=hl.btw t (Or.inr (Nat.le_refl _));exact ⟨q,_,m1,m2,hi,rfl,⟨hl'.p1.mono (by omega) (Nat.le_refl _),hl'.p2,hl'.p3,by have:=hl'.le;omega⟩,Nat.le_trans hh t.size,h.bel.trans (t.below (by omega) (by omega))⟩
theorem spec_copy (d:Ln) (s:Sl) (w:World) (hp:d.pg.length<=1048576) (ho:d.po.length<=1048576) (hf:d.fr.length<=1048576) (hR:Lists w d s) :
  Calls prog 29 #[val d s] w (Ans d w):=by
 have t0:=cf_new w d s
 have HL0:Hid (∀ W,Bq w W->Lists W d s):=fun W hb=>hR.below hb
 obtain ⟨W0,hW0⟩:∃ W0,(w.alloc (lob d s)).alloc zo=W0:=⟨_,rfl⟩;rw[hW0] at t0;have z0:=t0.lt;have t0a:=t0.below (K0.below_new W0 (.cells #[] 3));have l0a:=K0.below_new W0 (.cells #[] 3);have i0:=J0.ibuf_made W0 (Nat.le_refl _);have r0:=(HL0.out _ t0a.bel).r1;have y4:=t0a.box.cell 4 (by simp);simp only[List.getElem_cons_zero,List.getElem_cons_succ] at y4;clear hR;go_enter func29,ntmps29
 go_wp2_with (first
  | (at_builtin;have q2:=o2;refine Q1.append_rows rfl (.tmp 13) (.tmp 15) rfl i2 s.a3 s.c3 d.fr (by rfl) (by rfl) r2 (by omega) (by simp) ?_;intro a3 c3 w3 b3 l3;rw[Nat.zero_add] at b3;rw[List.nil_append] at b3;simp only[Nat.zero_add];have t3:=t2a.keep l3 z2;have o3:=(LF.own_in b3.own).set (B:=w.heap.size) (by omega) 7 (.slice a3 d.fr.length c3);have y7':=t3.box.cell 7 (by simp);have f7:=t3.box.free 7 (by simp);simp only[List.getElem_cons_zero,List.getElem_cons_succ] at y7';have g1:=(keepIn v12a l3 (by omega)).set (B:=w.heap.size) (by omega) 7 (.slice a3 d.fr.length c3);have g2:=(keepIn v2a l3 (by omega)).set (B:=w.heap.size) (by omega) 7 (.slice a3 d.fr.length c3);have u3:=t3.set7 (.slice a3 d.fr.length c3);clear y7;have e0:=u3.box.cell 0 (by simp);have e1:=u3.box.cell 1 (by simp);have e2:=u3.box.cell 2 (by simp);have e3:=u3.box.cell 3 (by simp);have e4:=u3.box.cell 4 (by simp);have e5:=u3.box.cell 5 (by simp);have e6:=u3.box.cell 6 (by simp);have e7:=u3.box.cell 7 (by simp);simp only[List.getElem_cons_zero,List.getElem_cons_succ] at e0 e1 e2 e3 e4 e5 e6 e7;have j0:=u3.res.cell 0 (by simp);have j1:=u3.res.cell 1 (by simp);have j2:=u3.res.cell 2 (by simp);have j3:=u3.res.cell 3 (by simp);have j4:=u3.res.cell 4 (by simp);have j5:=u3.res.cell 5 (by simp);have j6:=u3.res.cell 6 (by simp);have j7:=u3.res.cell 7 (by simp);simp only[List.getElem_cons_zero,List.getElem_cons_succ] at j0 j1 j2 j3 j4 j5 j6 j7;have n0:=u3.res.free 0 (by simp);have n1:=u3.res.free 1 (by simp);have n2:=u3.res.free 2 (by simp);have n3:=u3.res.free 3 (by simp);have n4:=u3.res.free 4 (by simp);have n5:=u3.res.free 5 (by simp);have n6:=u3.res.free 6 (by simp);have n7:=u3.res.free 7 (by simp))
  | (at_builtin;have q1:=o1;refine Q1.append_rows rfl (.tmp 8) (.tmp 10) rfl i1 s.a2 s.c2 d.po (by rfl) (by rfl) r1 (by omega) (by simp) ?_;intro a2 c2 w2 b2 l2;rw[Nat.zero_add] at b2;rw[List.nil_append] at b2;simp only[Nat.zero_add];have t2:=t1a.keep l2 z1;have o2:=(LF.own_in b2.own).set (B:=w.heap.size) (by omega) 6 (.slice a2 d.po.length c2);have y6':=t2.box.cell 6 (by simp);have f6:=t2.box.free 6 (by simp);simp only[List.getElem_cons_zero,List.getElem_cons_succ] at y6';have v12:=(keepIn v1a l2 (Nat.le_refl _)).set (B:=w.heap.size) (by omega) 6 (.slice a2 d.po.length c2);have u2:=t2.set6 (.slice a2 d.po.length c2);clear y6;have l2a:=K0.below_new (w2.setCell ⟨w.heap.size,6,none⟩ (.slice a2 d.po.length c2)) (.cells #[] 3);have t2a:=u2.below l2a;have v12a:=v12.below l2a;have v2a:=o2.below l2a;have i2:=J0.ibuf_made (w2.setCell ⟨w.heap.size,6,none⟩ (.slice a2 d.po.length c2)) (Nat.le_refl _);have z2:=t2.lt;have r2:=(HL0.out _ t2a.bel).r3;have y7:=t2a.box.cell 7 (by simp);simp only[List.getElem_cons_zero,List.getElem_cons_succ] at y7;have hs2:(w2.setCell ⟨w.heap.size,6,none⟩ (.slice a2 d.po.length c2)).heap.size=w2.heap.size:=(by simp);rw[hs2] at i2;clear hs2;have hs12:w1.heap.size<=w2.heap.size:=(by have:=l2.size;simp at this;omega))
  | (at_builtin;refine Q1.append_rows rfl (.tmp 3) (.tmp 5) rfl i0 s.a1 s.c1 d.pg (by rfl) (by rfl) r0 (by omega) l0a.size ?_;intro a1 c1 w1 b1 l1;rw[Nat.zero_add] at b1;rw[List.nil_append] at b1;simp only[Nat.zero_add];have t1:=t0a.keep l1 z0;have o1:=(LF.own_in b1.own).set (B:=w.heap.size) (by omega) 4 (.slice a1 d.pg.length c1);have y4':=t1.box.cell 4 (by simp);have f4:=t1.box.free 4 (by simp);simp only[List.getElem_cons_zero,List.getElem_cons_succ] at y4';have u1:=t1.set4 (.slice a1 d.pg.length c1);clear y4;have l1a:=K0.below_new (w1.setCell ⟨w.heap.size,4,none⟩ (.slice a1 d.pg.length c1)) (.cells #[] 3);have t1a:=u1.below l1a;have v1a:=o1.below l1a;have i1:=J0.ibuf_made (w1.setCell ⟨w.heap.size,4,none⟩ (.slice a1 d.pg.length c1)) (Nat.le_refl _);have z1:=t1.lt;have r1:=(HL0.out _ t1a.bel).r2;have y6:=t1a.box.cell 6 (by simp);simp only[List.getElem_cons_zero,List.getElem_cons_succ] at y6;have hs1:(w1.setCell ⟨w.heap.size,4,none⟩ (.slice a1 d.pg.length c1)).heap.size=w1.heap.size:=(by simp);rw[hs1] at i1;clear hs1))
 have hs23:w2.heap.size<=w3.heap.size:=by have:=l3.size;simp at this;omega
 obtain ⟨q,ha⟩:=fin8 (m1:=w1.heap.size) (m2:=w2.heap.size) (hi:=w3.heap.size) u3 ⟨g1.mono (by omega) (Nat.le_refl _),g2,o3,by omega,by omega,by omega⟩ (by simp) _ rfl;have v0:=q.cell 0 (by simp);have v1:=q.cell 1 (by simp);have v2:=q.cell 2 (by simp);have v3:=q.cell 3 (by simp);have v4:=q.cell 4 (by simp);have v5:=q.cell 5 (by simp);have v6:=q.cell 6 (by simp);have v7:=q.cell 7 (by simp);simp only[List.getElem_cons_zero,List.getElem_cons_succ] at v0 v1 v2 v3 v4 v5 v6 v7;exact bodyPost_ret (v:=val d ⟨a1,c1,a2,c2,a3,c3⟩) (by simp[results,results29,go_sem,v0,v1,v2,v3,v4,v5,v6,v7]) rfl ha
theorem impl_copy (d:Ln) (s:Sl) (w:World) (hp:d.pg.length<=1048576) (ho:d.po.length<=1048576) (hf:d.fr.length<=1048576) (hr:d.rc.size<=281474976710656) (hs:d.sav.size<=281474976710656) (hR:Lists w d s) :
  Calls prog 82 #[val d s] w (Ans d w):=by
 have t0:=(cf_new w d s).drew
 have HL0:Hid (∀ W,Bq w W->Lists W d s):=fun W hb=>hR.below hb
 have HC:Hid (∀ (x:ByteArray) W,x.size<=281474976710656->Cf w d (.slice s.a1 d.pg.length s.c1) (.slice s.a2 d.po.length s.c2) (.slice s.a3 d.fr.length s.c3) W->Calls prog 110 #[.string x] W fun e w'=>e=.returned (.string x)/\Cf w d (.slice s.a1 d.pg.length s.c1) (.slice s.a2 d.po.length s.c2) (.slice s.a3 d.fr.length s.c3) w'):=fun x W hx hc=>(B2.clone_any x W hx).mono fun _ _ ⟨he,hb⟩=>⟨he,hc.below hb⟩
 clear hR;go_enter func82,ntmps82;go_wp2;obtain ⟨W0,hW0⟩:∃ W0,(w.alloc (lob d s)).alloc zo=W0:=⟨_,rfl⟩;rw[hW0] at t0 ⊢
 have HS:Hid (∀ {x4 x6 x7:Value} W,Cf w d x4 x6 x7 W->Ce W w.heap.size 3 (.string d.rc)/\Ce W w.heap.size 5 (.string d.sav)):=fun W h=>⟨h.box.cell 3 (by simp),h.box.cell 5 (by simp)⟩
 have s0:=HS.out _ t0
 go_region_held3 (fun W=>Ce W w.heap.size 3 (.string d.rc)/\Ce W w.heap.size 5 (.string d.sav)) (assumption) ((first
  | (go_at_call 110;have t1':=t1;refine (HC.out _ _ (by omega) t1).mono ?_;rintro e w2 ⟨rfl,t2⟩;have s2:=HS.out _ t2;have f3:=t2.box.free 3 (by simp);have f5:=t2.box.free 5 (by simp);have t3:=t2.set3.set5;have s2a:=HS.out _ t2.set3;have s2b:=HS.out _ t3)
  | (go_at_call 110;refine (HC.out _ _ (by omega) t0).mono ?_;rintro e w1 ⟨rfl,t1⟩;have s1:=HS.out _ t1)))
 obtain ⟨W3,hW3⟩:∃ W3,(w2.setCell ⟨w.heap.size,3,none⟩ (.string d.rc)).setCell ⟨w.heap.size,5,none⟩ (.string d.sav)=W3:=⟨_,rfl⟩;rw[hW3] at t3 ⊢;clear s2b s2a s2 f3 f5 t2 t1' s1 t1 s0 t0 hW0 hW3 HC HS
 have HC:Hid (∀ (a:Option Addr) (c:Nat) (zs:List Int) W,zs.length<=1048576->P0.Row W a zs->Cf w d (.slice s.a1 d.pg.length s.c1) (.slice s.a2 d.po.length s.c2) (.slice s.a3 d.fr.length s.c3) W->Calls prog 111 #[.slice a zs.length c] W fun e w'=>∃ a' c',e=.returned (.slice a' zs.length c')/\OwnIn W.heap.size w'.heap.size w' a' zs/\Bq W w'/\Cf w d (.slice s.a1 d.pg.length s.c1) (.slice s.a2 d.po.length s.c2) (.slice s.a3 d.fr.length s.c3) w'):=fun a c zs W hn hr hc=>(LF.clone a c zs W hn hr).mono fun _ _ ⟨a',c',he,ho,hb⟩=>⟨a',c',he,LF.own_in ho,hb,hc.below hb⟩
 have HS:Hid (∀ W,Cf w d (.slice s.a1 d.pg.length s.c1) (.slice s.a2 d.po.length s.c2) (.slice s.a3 d.fr.length s.c3) W->Ce W w.heap.size 4 (.slice s.a1 d.pg.length s.c1)/\Ce W w.heap.size 6 (.slice s.a2 d.po.length s.c2)/\Ce W w.heap.size 7 (.slice s.a3 d.fr.length s.c3)):=fun W h=>⟨h.box.cell 4 (by simp),h.box.cell 6 (by simp),h.box.cell 7 (by simp)⟩
 have t4:=t3.drew;have z4:=t4.lt;have s4:=HS.out _ t4;go_wp2;refine AT.region (n:=10) (S:=fun W=>Ce W w.heap.size 4 (.slice s.a1 d.pg.length s.c1)/\Ce W w.heap.size 6 (.slice s.a2 d.po.length s.c2)/\Ce W w.heap.size 7 (.slice s.a3 d.fr.length s.c3)) (by kernel_rfl) ?_;refine BU.r 0 (Pv w.heap.size 4) s4 ?_;refine BU.s 1 (.slice s.a1 d.pg.length s.c1) s4 ?_;refine BU.r 3 (Pv w.heap.size 6) s4 ?_;refine BU.s 4 (.slice s.a2 d.po.length s.c2) s4 ?_;refine BU.r 6 (Pv w.heap.size 7) s4 ?_;refine BU.s 7 (.slice s.a3 d.fr.length s.c3) s4 ?_;refine AT.call1 (i:=2) (by kernel_rfl) rfl (by rfl) (.tmp 12) _ rfl (.slice s.a1 d.pg.length s.c1) (by rfl) (enters_of func111 (by kernel_rfl) rfl) ((HC.out s.a1 s.c1 d.pg _ hp (HL0.out _ t4.bel).r1 t4).mono ?_);rintro e w5 ⟨a1,c1,rfl,o1,b1,t5⟩;have s5:=HS.out _ t5;refine ⟨_,rfl,s5,?_⟩;simp only[BZ.z,Act.put,Nat.reduceAdd];refine BU.r 9 (Pv w.heap.size 4) s5 ?_;refine AT.call1 (i:=5) (by kernel_rfl) rfl (by rfl) (.tmp 15) _ rfl (.slice s.a2 d.po.length s.c2) (by rfl) (enters_of func111 (by kernel_rfl) rfl) ((HC.out s.a2 s.c2 d.po _ ho (HL0.out _ t5.bel).r2 t5).mono ?_);rintro e w6 ⟨a2,c2,rfl,o2,b2,t6⟩;have s6:=HS.out _ t6;have o12:=o1.below b2;refine ⟨_,rfl,s6,?_⟩;simp only[BZ.z,Act.put,Nat.reduceAdd]
 refine AT.call1 (i:=8) (by kernel_rfl) rfl (by rfl) (.tmp 18) _ rfl (.slice s.a3 d.fr.length s.c3) (by rfl) (enters_of func111 (by kernel_rfl) rfl) ((HC.out s.a3 s.c3 d.fr _ hf (HL0.out _ t6.bel).r3 t6).mono ?_);rintro e w7 ⟨a3,c3,rfl,o3,b3,t7⟩;have s7:=HS.out _ t7;have g1:=o12.below b3;have g2:=o2.below b3;refine ⟨_,rfl,s7,?_⟩;simp only[BZ.z,Act.put,Nat.reduceAdd];have y4:=t7.box.free 4 (by simp);have y6:=t7.box.free 6 (by simp);have y7:=t7.box.free 7 (by simp);obtain ⟨p4,p6,p7⟩:=s7;refine AT.store (i:=10) (w':=(w7.setCell ⟨w.heap.size,4,none⟩ (.slice a1 d.pg.length c1))) (by kernel_rfl) rfl (by decide) (by rfl) ?_ ?_
 ·go_simp
 simp only[BZ.z,Act.put,Nat.reduceAdd];refine AT.plain (i:=11) (w':=(w7.setCell ⟨w.heap.size,4,none⟩ (.slice a1 d.pg.length c1))) (u:=Pv w.heap.size 6) (by kernel_rfl) rfl (by decide) (by rfl) (by rfl) ?_;simp only[BZ.z,Act.put,Nat.reduceAdd];refine AT.store (i:=12) (w':=((w7.setCell ⟨w.heap.size,4,none⟩ (.slice a1 d.pg.length c1)).setCell ⟨w.heap.size,6,none⟩ (.slice a2 d.po.length c2))) (by kernel_rfl) rfl (by decide) (by rfl) ?_ ?_
 ·go_simp
 simp only[BZ.z,Act.put,Nat.reduceAdd];refine AT.plain (i:=13) (w':=((w7.setCell ⟨w.heap.size,4,none⟩ (.slice a1 d.pg.length c1)).setCell ⟨w.heap.size,6,none⟩ (.slice a2 d.po.length c2))) (u:=Pv w.heap.size 7) (by kernel_rfl) rfl (by decide) (by rfl) (by rfl) ?_;simp only[BZ.z,Act.put,Nat.reduceAdd];refine AT.store (i:=14) (w':=(((w7.setCell ⟨w.heap.size,4,none⟩ (.slice a1 d.pg.length c1)).setCell ⟨w.heap.size,6,none⟩ (.slice a2 d.po.length c2)).setCell ⟨w.heap.size,7,none⟩ (.slice a3 d.fr.length c3))) (by kernel_rfl) rfl (by decide) (by rfl) ?_ ?_
 ·go_simp
 simp only[BZ.z,Act.put,Nat.reduceAdd];refine AT.done (by kernel_rfl) ?_ _;have u:=((t7.set4 (.slice a1 d.pg.length c1)).set6 (.slice a2 d.po.length c2)).set7 (.slice a3 d.fr.length c3);have x1:=((g1.set (B:=w.heap.size) (by omega) 4 (.slice a1 d.pg.length c1)).set (B:=w.heap.size) (by omega) 6 (.slice a2 d.po.length c2)).set (B:=w.heap.size) (by omega) 7 (.slice a3 d.fr.length c3);have x2:=((g2.set (B:=w.heap.size) (by have:=t5.lt;omega) 4 (.slice a1 d.pg.length c1)).set (B:=w.heap.size) (by have:=t5.lt;omega) 6 (.slice a2 d.po.length c2)).set (B:=w.heap.size) (by have:=t5.lt;omega) 7 (.slice a3 d.fr.length c3);have x3:=((o3.set (B:=w.heap.size) (by have:=t6.lt;omega) 4 (.slice a1 d.pg.length c1)).set (B:=w.heap.size) (by have:=t6.lt;omega) 6 (.slice a2 d.po.length c2)).set (B:=w.heap.size) (by have:=t6.lt;omega) 7 (.slice a3 d.fr.length c3)
 have hh:((((w7.setCell ⟨w.heap.size,4,none⟩ (.slice a1 d.pg.length c1)).setCell ⟨w.heap.size,6,none⟩ (.slice a2 d.po.length c2)).setCell ⟨w.heap.size,7,none⟩ (.slice a3 d.fr.length c3))).heap.size=w7.heap.size:=by simp
 obtain ⟨W7,hW7⟩:∃ W7,(((w7.setCell ⟨w.heap.size,4,none⟩ (.slice a1 d.pg.length c1)).setCell ⟨w.heap.size,6,none⟩ (.slice a2 d.po.length c2)).setCell ⟨w.heap.size,7,none⟩ (.slice a3 d.fr.length c3))=W7:=⟨_,rfl⟩;rw[hW7] at u x1 x2 x3 hh ⊢;have e0:=u.box.cell 0 (by simp);have e1:=u.box.cell 1 (by simp);have e2:=u.box.cell 2 (by simp);have e3:=u.box.cell 3 (by simp);have e4:=u.box.cell 4 (by simp);have e5:=u.box.cell 5 (by simp);have e6:=u.box.cell 6 (by simp);have e7:=u.box.cell 7 (by simp);have j0:=u.res.cell 0 (by simp);have j1:=u.res.cell 1 (by simp);have j2:=u.res.cell 2 (by simp);have j3:=u.res.cell 3 (by simp);have j4:=u.res.cell 4 (by simp);have j5:=u.res.cell 5 (by simp);have j6:=u.res.cell 6 (by simp);have j7:=u.res.cell 7 (by simp);have n0:=u.res.free 0 (by simp);have n1:=u.res.free 1 (by simp);have n2:=u.res.free 2 (by simp);have n3:=u.res.free 3 (by simp);have n4:=u.res.free 4 (by simp);have n5:=u.res.free 5 (by simp);have n6:=u.res.free 6 (by simp);have n7:=u.res.free 7 (by simp);simp only[List.getElem_cons_zero,List.getElem_cons_succ] at e0 e1 e2 e3 e4 e5 e6 e7 j0 j1 j2 j3 j4 j5 j6 j7;have hz5:=t5.lt;have hs12:=b2.size;have hs23:=b3.size;obtain ⟨q,ha⟩:=fin8 (m1:=w5.heap.size) (m2:=w6.heap.size) (hi:=w7.heap.size) u ⟨x1.mono z4 (Nat.le_refl _),x2,x3,hz5,hs12,hs23⟩ (by omega) _ rfl;have v0:=q.cell 0 (by simp);have v1:=q.cell 1 (by simp);have v2:=q.cell 2 (by simp)
 have v3:=q.cell 3 (by simp);have v4:=q.cell 4 (by simp);have v5:=q.cell 5 (by simp);have v6:=q.cell 6 (by simp);have v7:=q.cell 7 (by simp);simp only[List.getElem_cons_zero,List.getElem_cons_succ] at v0 v1 v2 v3 v4 v5 v6 v7;have HV:Hid (_/\_/\_/\_/\_/\_/\_/\_):=⟨v0,v1,v2,v3,v4,v5,v6,v7⟩;clear v0 v1 v2 v3 v4 v5 v6 v7 hW7 hh q x1 x2 x3 u;go_wp2;obtain ⟨v0,v1,v2,v3,v4,v5,v6,v7⟩:=HV.out;exact bodyPost_ret (v:=val d ⟨a1,c1,a2,c2,a3,c3⟩) (by simp[results,results82,go_sem,v0,v1,v2,v3,v4,v5,v6,v7]) rfl ha
end LI
namespace LJ
open N0 (Ln)
open N1 (Sl val vals Lists LB lb_new)
open N4 (put8)
open Z0 (dat Row Lns Kp kval kvals dz sz0)
open LF (Btw OwnIn)
open LH (HL lob)
open LI (zo)
variable {w W W' : World} {k : Kp} {a : Option Addr} {c : Nat}
structure Lf (w:World) (k:Kp) (a:Option Addr) (c:Nat) (W:World):Prop where
 box:K0.Blk w.heap.size (kvals k a c) W
 res:K0.Blk (w.heap.size+1) N4.zero8 W
 bel:Bq w W
theorem Lf.below (h:Lf w k a c W) (hb:Bq W W'):Lf w k a c W':=⟨h.box.below hb,h.res.below hb,h.bel.trans (hb.mono h.bel.size)⟩
end LJ
namespace KC
open N0 (Ln)
open N1 (Sl val vals Lists LB lb_new)
open Z0 (dat Row Lns Kp kval kvals dz sz0 At)
open Z2 (LAt put setL blk_setL blk_otherL bel_setL put_len put_get lat_other put_other at_of)
open LF (Btw OwnIn)
open LH (HL lob)
theorem W0b.below {w W W':World} {row:Option Nat} (h:Bq w W) (hg:W.grownBy W' row) (hr:∀ g,row=some g->w.heap.size<=g):Bq w W':=F0.below_grown h hg hr h.size
def flat:List Ln->(Nat->Sl)->List Value
 | [],_=>[]
 | d :: r,ss=>vals d (ss 0)++flat r (fun j=>ss (j+1))
theorem flat_len:∀ (ds:List Ln) (ss:Nat->Sl),(flat ds ss).length=ds.length*8
 | [],_=>rfl
 | d :: r,ss=>by simp[flat,flat_len r];omega
theorem flat_at:∀ (ds:List Ln) (ss:Nat->Sl) (j:Nat),j<ds.length->LAt (flat ds ss) (j*8) (dat ds j) (ss j)
 | [],_,j,h=>by simp at h
 | d :: r,ss,0,_=>⟨rfl,rfl,rfl,rfl,rfl,rfl,rfl,rfl⟩
 | d :: r,ss,j+1,h=>by
  have ih:=flat_at r (fun j=>ss (j+1)) j (by simpa using h);unfold LAt at ih ⊢
  have e:∀ x,(flat (d :: r) ss)[(j+1)*8+x]? = (flat r (fun j=>ss (j+1)))[j*8+x]?:=fun x=>by
   rw[flat,List.getElem?_append_right (by simp;omega)]
   congr 1
   simp;omega
  have e0:=e 0;simp only[Nat.add_zero] at e0;rw[e0,e 1,e 2,e 3,e 4,e 5,e 6,e 7];exact ih
theorem flat_one:∀ (ds:List Ln) (ss:Nat->Sl),∀ u ∈ flat ds ss,u.oneCell'=true
 | [],_,u,h=>by cases h
 | d :: r,ss,u,h=>by
  rw[flat,List.mem_append] at h
  rcases h with h | h
  ·simp at h
   rcases h with rfl | rfl | rfl | rfl | rfl | rfl | rfl | rfl <;> rfl
  ·exact flat_one r _ u h
theorem row_cells {W:World} {b off:Nat} {ds:List Ln} {ss:Nat->Sl} (hc:∀ j,j<ds.length->At W b (off+j*8) (dat ds j) (ss j)) (i:Nat) (u:Value) (h:(flat ds ss)[i]? = some u):W.cell? ⟨b,off+i,none⟩=some u:=by
 have hi:i<ds.length*8:=by
  have:=(List.getElem?_eq_some_iff.1 h).1
  rwa [flat_len] at this
 have hj:i / 8<ds.length:=by omega
 obtain ⟨f0,f1,f2,f3,f4,f5,f6,f7⟩:=flat_at ds ss (i / 8) hj;obtain ⟨c0,c1,c2,c3,c4,c5,c6,c7⟩:=hc (i / 8) hj
 rcases (show i=i / 8*8\/i=i / 8*8+1\/i=i / 8*8+2\/i=i / 8*8+3\/i=i / 8*8+4\/i=i / 8*8+5\/i=i / 8*8+6\/i=i / 8*8+7 by omega) with e | e | e | e | e | e | e | e
 ·rw[e,f0] at h
  rw[e,<- h];exact c0
 ·rw[e,f1] at h
  rw[e,<- h];exact c1
 ·rw[e,f2] at h
  rw[e,<- h];exact c2
 ·rw[e,f3] at h
  rw[e,<- h];exact c3
 ·rw[e,f4] at h
  rw[e,<- h];exact c4
 ·rw[e,f5] at h
  rw[e,<- h];exact c5
 ·rw[e,f6] at h
  rw[e,<- h];exact c6
 ·rw[e,f7] at h
  rw[e,<- h];exact c7
theorem blk_of_owns {W:World} {base n g cap:Nat} {e:TypeId} {vs:List Value} (h:W.ownsRow base e 8 (Sv g n cap) n vs) (hl:vs.length=n*8):base<=g/\K0.Blk g vs W:=by
 rcases h.2 with ⟨h0,_⟩ | ⟨g',cap',cur,hv,hg,hc,hle,hm,hs,ht⟩
 ·cases h0
 ·obtain ⟨rfl,rfl⟩:g=g'/\cap=cap':=by simpa using hv
  refine ⟨hg,fun j hj=>?_,fun j hj=>?_,(Array.getElem?_eq_some_iff.1 hc).1⟩
  ·have hcell:W.cell? ⟨g,j,none⟩=cur[j]?:=by
    unfold World.cell?;rw[hc];simp
   have e1:(cur.toList.take (n*8))[j]? = vs[j]?:=by rw[ht]
   rw[List.getElem?_take_of_lt (by omega)] at e1;rw[hcell,<- Array.getElem?_toList,e1,List.getElem?_eq_getElem hj]
  ·unfold World.frozen?
   rw[hc];simp
theorem owns_cap {W:World} {base n g cap:Nat} {e:TypeId} {vs:List Value} (h:W.ownsRow base e 8 (Sv g n cap) n vs):n<=cap/\cap<=maxLen:=by
 rcases h.2 with ⟨h0,_⟩ | ⟨g',cap',cur,hv,hg,hc,hle,hm,hs,ht⟩
 ·cases h0
 ·obtain ⟨rfl,rfl⟩:g=g'/\cap=cap':=by simpa using hv
  exact ⟨hle,hm⟩
def CA (ds:List Ln) (ss:Nat->Sl) (w:World) (e:Ending) (w':World):Prop:=∃ a' c',e=.returned (.slice a' ds.length c')/\(ds=[]\/∃ g,a'=some ⟨g,0,none⟩/\w.heap.size<=g/\K0.Blk g (flat ds ss) w')/\Bq w w'/\ds.length<=c'/\c'<=maxLen
theorem clone (a:Option Addr) (c:Nat) (ds:List Ln) (ss:Nat->Sl) (w:World) (hn:ds.length<=1048576) (hR:Row w a ds ss) :
  Calls prog 52 #[.slice a ds.length c] w (CA ds ss w):=by
 have qn:∀ (w:World) (a:Option Addr) (n c n' c':Nat),(binOp .eql 29 (.slice a n c) (.slice none n' c')).run prog w=.ok (.bool a.isNone) w:=fun w a n c n' c'=>Lib.run_eql_slice_nil w _ _ a n c n' c' underlying29
 cases a with
 | none=>
  have h0:ds=[]:=by
   rcases hR with h | ⟨b,off,h,_⟩
   ·exact h
   ·cases h
  subst h0;go_enter func52,ntmps52;go_wp2;go_ret;exact ⟨none,0,rfl,Or.inl rfl,Below.refl _ _,Nat.le_refl _,Nat.zero_le _⟩
 | some p=>
  obtain ⟨i0,hi,hz0,hz1,hz2⟩:=info_parts Z2.infoL;have l0:=K0.below_new w (.cells #[] 46);have o0:(w.alloc (.cells #[] 46)).ownsRow w.heap.size 46 8 (Sv w.heap.size 0 0) 0 []:=World.ownsRow_made w #[] 0 (Nat.le_refl _) (Nat.zero_le _) rfl;have r0:=hR.below l0
  by_cases hd:ds=[]
  ·subst hd
   have hrun:=Q1.run_append_none (P:=prog) (w.alloc (.cells #[] 46)) 29 29 46 i0 underlying29 hi (some ⟨w.heap.size,0,none⟩) 0 0 (Nat.le_refl _) (some p) c;clear hR r0 o0;go_enter func52,ntmps52
   go_wp2_with (at_builtin;refine Lib.wpList_append_run _ rfl (.tmp 5) (.tmp 6) 29 29 rfl _ _ (by rfl) (by rfl) _ _ hrun ?_)
   go_ret;exact ⟨_,_,rfl,Or.inl rfl,l0,Nat.zero_le _,Nat.zero_le _⟩
  ·obtain ⟨b,off,hp,hlt,hc⟩:∃ b off,p=⟨b,off,none⟩/\b<(w.alloc (.cells #[] 46)).heap.size/\∀ j,j<ds.length->At (w.alloc (.cells #[] 46)) b (off+j*8) (dat ds j) (ss j):=by
    rcases r0 with h | ⟨b,off,h,hl,hc⟩
    ·exact absurd h hd
    ·exact ⟨b,off,Option.some.inj h,hl,hc⟩
   subst hp;have hm:0<ds.length:=List.length_pos_iff.2 hd;clear hR r0;go_enter func52,ntmps52
   go_wp2_with (at_builtin;refine wpList_append_lies _ rfl (.tmp 5) (.tmp 6) 29 rfl w.heap.size 46 i0 (.agg Z2.zero8) 8 128 underlying29 hi hz0 hz1 hz2 rfl (by omega) _ 0 _ (by rfl) o0 ⟨b,off,none⟩ ds.length c (flat ds ss) (by rfl) (flat_len ds ss) (fun j u hj=>by rw[B0.add_off];exact row_cells hc j u hj) (flat_one ds ss) hm (by unfold maxLen;omega) (by omega) l0.size _ rfl ?_;intro g cap' w1 ho' hg' hl' hlt';rw[List.nil_append,Nat.zero_add] at ho';simp only[Nat.zero_add])
   go_ret;obtain ⟨hg1,hk1⟩:=blk_of_owns ho' (flat_len ds ss);exact ⟨_,cap',rfl,Or.inr ⟨g,rfl,hg1,hk1⟩,W0b.below l0 hg' (fun k hk=>by simp[Value.ownBlock] at hk;omega),(owns_cap ho').1,(owns_cap ho').2⟩
end KC
namespace KD
open N0 (Ln)
open N1 (Sl val vals Lists LB lb_new)
open Z0 (dat Row Lns Kp kval kvals dz sz0 At)
open Z2 (LAt put setL blk_setL blk_otherL bel_setL put_len put_get lat_other put_other at_of)
open LF (Btw OwnIn)
open LH (HL lob)
open KC (flat flat_len flat_at CA)
structure Lp (g:Nat) (b:Nat->Nat) (ds:List Ln) (s0 ss:Nat->Sl) (k:Nat) (L:List Value) (W:World):Prop where
 len:L.length=ds.length*8
 blk:K0.Blk g L W
 new:∀ j,j<k->LAt L (j*8) (dat ds j) (ss j)
 old:∀ j,k<=j->j<ds.length->LAt L (j*8) (dat ds j) (s0 j)
 sub:∀ j,j<k->∃ m1 m2,HL (b j) m1 m2 (b (j+1)) (ss j) (dat ds j).pg (dat ds j).po (dat ds j).fr W
 gb:g<b 0
 hi:b k<=W.heap.size
variable {g k : Nat} {b : Nat → Nat} {ds : List Ln} {s0 ss : Nat → Sl} {L : List Value} {w W W' : World}
theorem Lp.below (h:Lp g b ds s0 ss k L W) (hb:Bq W W'):Lp g b ds s0 ss k L W':=
 ⟨h.len,h.blk.below hb,h.new,h.old,fun j hj=>by obtain ⟨m1,m2,q⟩:=h.sub j hj;exact ⟨m1,m2,q.below hb⟩,h.gb,Nat.le_trans h.hi hb.size⟩
theorem b_le (h:Lp g b ds s0 ss k L W):∀ j,j<=k->b 0<=b j
 | 0,_=>Nat.le_refl _
 | j+1,hj=>by
  have:=b_le h j (by omega);obtain ⟨m1,m2,q⟩:=h.sub j (by omega);have:=q.le;omega
theorem setL_btw (W:World) (g o:Nat) (d:Ln) (s:Sl):Btw g (g+1) W (setL W g o d s):=by
 unfold setL;exact ((((((((Btw.refl _ _ W).set (p:=⟨g,o,none⟩) (Nat.le_refl _) (Nat.lt_succ_self _) _).set (p:=⟨g,o+1,none⟩) (Nat.le_refl _) (Nat.lt_succ_self _) _).set (p:=⟨g,o+2,none⟩) (Nat.le_refl _) (Nat.lt_succ_self _) _).set (p:=⟨g,o+3,none⟩) (Nat.le_refl _) (Nat.lt_succ_self _) _).set (p:=⟨g,o+4,none⟩) (Nat.le_refl _) (Nat.lt_succ_self _) _).set (p:=⟨g,o+5,none⟩) (Nat.le_refl _) (Nat.lt_succ_self _) _).set (p:=⟨g,o+6,none⟩) (Nat.le_refl _) (Nat.lt_succ_self _) _).set (p:=⟨g,o+7,none⟩) (Nat.le_refl _) (Nat.lt_succ_self _) _
theorem lat_other2 {L:List Value} {o x:Nat} {d e:Ln} {s t:Sl} (hx:x+7<o\/o+7<x) (h:LAt L x e t):LAt (put L o d s) x e t:=by
 unfold LAt at h ⊢;obtain ⟨h0,h1,h2,h3,h4,h5,h6,h7⟩:=h;exact ⟨(put_other (by omega)).trans h0,(put_other (by omega)).trans h1,(put_other (by omega)).trans h2,(put_other (by omega)).trans h3,(put_other (by omega)).trans h4,(put_other (by omega)).trans h5,(put_other (by omega)).trans h6,(put_other (by omega)).trans h7⟩
theorem Lp.step {lo m1 m2 hi:Nat} {q:Sl} (h:Lp g b ds s0 ss k L W) (hk:k<ds.length) (hl:HL lo m1 m2 hi q (dat ds k).pg (dat ds k).po (dat ds k).fr W) (hlo:b k<=lo) (hh:hi<=W.heap.size) :
  Lp g (fun j=>if j<=k then b j else hi) ds s0 (fun j=>if j=k then q else ss j) (k+1) (put L (k*8) (dat ds k) q) (setL W g (k*8) (dat ds k) q):=by
 have hlen:=h.len;have ht:=setL_btw W g (k*8) (dat ds k) q;have hgb:=h.gb;refine ⟨by rw[put_len];exact hlen,blk_setL h.blk,fun j hj=>?_,fun j hj hj2=>?_,fun j hj=>?_,?_,?_⟩
 ·by_cases e:j=k
  ·subst e
   have:=put_get L (j*8) (dat ds j) q (by omega)
   simpa using this
  ·have:=lat_other2 (o:=k*8) (d:=dat ds k) (s:=q) (Or.inl (by omega)) (h.new j (by omega))
   simpa [e] using this
 ·exact lat_other2 (Or.inr (by omega)) (h.old j (by omega) hj2)
 ·by_cases e:j=k
  ·subst e
   have hb0:=b_le h j (Nat.le_refl _);have hle:=hl.le;have h1:HL (b j) m1 m2 hi q (dat ds j).pg (dat ds j).po (dat ds j).fr W:=⟨hl.p1.mono hlo (Nat.le_refl _),hl.p2,hl.p3,by omega⟩;refine ⟨m1,m2,?_⟩;have h2:=h1.btw ht (Or.inr (by omega))
   have e2:¬ j+1<=j:=by omega
   simpa [e2] using h2
  ·obtain ⟨n1,n2,hq⟩:=h.sub j (by omega)
   have hb0:=b_le h j (by omega);refine ⟨n1,n2,?_⟩;have h2:=hq.btw ht (Or.inr (by omega))
   have e1:j<=k:=by omega
   have e2:j+1<=k:=by omega
   simpa [e,e1,e2] using h2
 ·simpa using hgb
 ·have e:¬ k+1<=k:=by omega
  simp only[e,if_false];exact Nat.le_trans hh ht.size
structure AC (g:Nat) (b:Nat->Nat) (ds:List Ln) (ss:Nat->Sl) (L:List Value) (W:World):Prop where
 len:L.length=ds.length*8
 blk:K0.Blk g L W
 at_:∀ j,j<ds.length->LAt L (j*8) (dat ds j) (ss j)
 sub:∀ j,j<ds.length->∃ m1 m2,HL (b j) m1 m2 (b (j+1)) (ss j) (dat ds j).pg (dat ds j).po (dat ds j).fr W
 gb:g<b 0
 hi:b ds.length<=W.heap.size
theorem AC.below (h:AC g b ds ss L W) (hb:Bq W W'):AC g b ds ss L W':=
 ⟨h.len,h.blk.below hb,h.at_,fun j hj=>by obtain ⟨m1,m2,q⟩:=h.sub j hj;exact ⟨m1,m2,q.below hb⟩,h.gb,Nat.le_trans h.hi hb.size⟩
theorem ac_of (h:Lp g b ds s0 ss ds.length L W):AC g b ds ss L W:=⟨h.len,h.blk,h.new,h.sub,h.gb,h.hi⟩
theorem AC.lns (h:AC g b ds ss L W):Lns W (some ⟨g,0,none⟩) ds ss:=by
 refine ⟨Or.inr ⟨g,0,rfl,h.blk.lt,fun j hj=>?_⟩,fun j hj=>?_⟩
 ·rw[Nat.zero_add]
  exact at_of h.blk (h.at_ j hj)
 ·obtain ⟨m1,m2,q⟩:=h.sub j hj
  exact q.lists
def Own (lo:Nat) (a:Option Addr) (ds:List Ln) (W:World):Prop:=ds=[]\/∃ g b ss L,a=some ⟨g,0,none⟩/\lo<=g/\AC g b ds ss L W
theorem Own.below {lo:Nat} {a:Option Addr} (h:Own lo a ds W) (hb:Bq W W'):Own lo a ds W':=h.imp id fun ⟨g,b,ss,L,e,h1,h2⟩=>⟨g,b,ss,L,e,h1,h2.below hb⟩
theorem Own.lns {lo:Nat} {a:Option Addr} (h:Own lo a ds W):∃ ss,Lns W a ds ss:=by
 rcases h with rfl | ⟨g,b,ss,L,rfl,h1,h2⟩
 ·exact ⟨fun _=>sz0,Or.inl rfl,fun j hj=>by simp at hj⟩
 ·exact ⟨ss,h2.lns⟩
theorem Own.set {lo B:Nat} {a:Option Addr} (h:Own lo a ds W) (hB:B<lo) (j:Nat) (v:Value):Own lo a ds (W.setCell ⟨B,j,none⟩ v):=by
 rcases h with h | ⟨g,b,ss,L,e,h1,h2⟩
 ·exact Or.inl h
 ·have ht:Btw B (B+1) W (W.setCell ⟨B,j,none⟩ v):=(Btw.refl _ _ W).set (p:=⟨B,j,none⟩) (Nat.le_refl _) (Nat.lt_succ_self _) v
  have hgb:=h2.gb
  have hb0:∀ i,i<=ds.length->b 0<=b i:=fun i=>by
   induction i with
   | zero=>intro _;exact Nat.le_refl _
   | succ i ih=>
    intro hi;have:=ih (by omega);obtain ⟨m1,m2,q⟩:=h2.sub i (by omega);have:=q.le;omega
  refine Or.inr ⟨g,b,ss,L,e,h1,h2.len,h2.blk.setOther (by omega) j v,h2.at_,fun i hi=>?_,hgb,Nat.le_trans h2.hi ht.size⟩;obtain ⟨m1,m2,q⟩:=h2.sub i hi;have:=hb0 i (by omega);exact ⟨m1,m2,q.btw ht (Or.inr (by omega))⟩
def KA (k:Kp) (w:World) (e:Ending) (w':World):Prop:=∃ a' c',e=.returned (kval k a' c')/\Own w.heap.size a' k.ds w'/\Bq w w'
def KA2 (k:Kp) (w:World) (e:Ending) (w':World):Prop:=∃ a' c',e=.returned (kval k a' c')/\Own w.heap.size a' k.ds w'/\Bq w w'/\k.ds.length<=c'/\c'<=maxLen
def Small (ds:List Ln):Prop:=∀ j,j<ds.length->(dat ds j).pg.length<=1048576/\(dat ds j).po.length<=1048576/\(dat ds j).fr.length<=1048576/\(dat ds j).rc.size<=1048576/\(dat ds j).sav.size<=1048576
abbrev zk:Obj:=.cells #[.string ⟨#[]⟩,.string ⟨#[]⟩,.slice none 0 0,.int .i64 0] 31
abbrev kob (k:Kp) (a:Option Addr) (c:Nat):Obj:=.cells #[.string k.mem,.string k.dur,.slice a k.ds.length c,.int .i64 k.ck] 31
structure Bx (w:World) (k:Kp) (a:Option Addr) (c:Nat) (W:World):Prop where
 box:K0.Blk w.heap.size (kvals k a c) W
 res:K0.Blk (w.heap.size+1) Z3.zero4 W
 bel:Bq w W
variable {K : Kp} {a : Option Addr} {c : Nat}
theorem Bx.below (h:Bx w K a c W) (hb:Bq W W'):Bx w K a c W':=⟨h.box.below hb,h.res.below hb,h.bel.trans (hb.mono h.bel.size)⟩
theorem Bx.keep {B:Nat} (h:Bx w K a c W) (hb:Below B W W') (hB:w.heap.size+2<=B):Bx w K a c W':=
 ⟨J0.blk_keep h.box hb (by omega),J0.blk_keep h.res hb (by omega),h.bel.trans (hb.mono (by omega))⟩
theorem bx_new (w:World) (k:Kp) (a:Option Addr) (c:Nat):Bx w k a c ((w.alloc (kob k a c)).alloc zk):=
 ⟨(K0.blk_new (kvals k a c) w 31).alloc _,K0.blk_at Z3.zero4 _ 31 (by simp),((Below.refl _ _).alloc (Nat.le_refl _) _).alloc (by simp) _⟩
theorem keeperCopy2 (k:Kp) (a:Option Addr) (c:Nat) (s0:Nat->Sl) (w:World) (hm:k.mem.size<=281474976710656) (hd:k.dur.size<=281474976710656) (hn:k.ds.length<=1048576) (hz:Small k.ds) (hR:Lns w a k.ds s0) :
  Calls prog 51 #[kval k a c] w (KA2 k w):=by
 have t0:=bx_new w k a c;have c2:=t0.box.c2
 have HR0:Hid (∀ W,Bq w W->Lns W a k.ds s0):=fun W hb=>hR.below hb
 have hcl:=KC.clone a c k.ds s0 _ hn (HR0.out _ t0.bel).row;obtain ⟨W0,hW0⟩:∃ W0,(w.alloc (kob k a c)).alloc zk=W0:=⟨_,rfl⟩;rw[hW0] at t0 c2 hcl;have hlt0:=t0.res.lt;clear hR;have HZ:Hid (Small k.ds):=hz;clear hz;go_enter func51,ntmps51
 go_wp2_with (go_at_call 52;refine hcl.mono ?_;rintro e w1 ⟨a1,c1,rfl,h1,b1,hcap,hcm⟩;have t1:=t0.below b1)
 have H1:Hid (k.ds=[]\/∃ g b ss L,a1=some ⟨g,0,none⟩/\W0.heap.size<=g/\Lp g b k.ds s0 ss 0 L w1):=by
  rcases h1 with h | ⟨g,e,hg,hk⟩
  ·exact Or.inl h
  ·exact Or.inr ⟨g,fun _=>w1.heap.size,s0,flat k.ds s0,e,hg,flat_len _ _,hk,fun j hj=>absurd hj (Nat.not_lt_zero _),fun j _ hj=>flat_at _ _ j hj,fun j hj=>absurd hj (Nat.not_lt_zero _),hk.lt,Nat.le_refl _⟩
 clear h1 t0 c2 hcl
 go_loopw [11] (fun i w'=>∃ j:Nat,j<=k.ds.length/\i=Iv j/\Bx w k a c w'/\Hid (k.ds=[]\/∃ g b ss L,a1=some ⟨g,0,none⟩/\W0.heap.size<=g/\Lp g b k.ds s0 ss j L w')) (fun i _=>k.ds.length-(intOf i).toNat)
 case atStart=>exact ⟨0,Nat.zero_le _,rfl,t1,H1⟩
 case round=>
  obtain ⟨j,hj,rfl,hbx,HL⟩:=hrel;clear H1 t1
  by_cases hlt:j<k.ds.length
  ·obtain ⟨g,b,ss,L,rfl,hg,hLp⟩:∃ g b ss L,a1=some ⟨g,0,none⟩/\W0.heap.size<=g/\Lp g b k.ds s0 ss j L wr:=by
    rcases HL.out with h | h
    ·rw[h] at hlt;simp at hlt
    ·exact h
   clear HL;obtain ⟨y0,y1,y2,y3,y4,y5,y6,y7⟩:=at_of hLp.blk (hLp.old j (Nat.le_refl _) hlt);obtain ⟨z1,z2,z3,z4,z5⟩:=HZ.out j hlt;have ls:=(HR0.out _ (hbx.bel.trans ((K0.below_new wr (lob (dat k.ds j) (s0 j))).mono hbx.bel.size))).sub j hlt
   have HS:Hid (∀ lo m1 m2 hi q W,Lp g b k.ds s0 ss j L W->HL lo m1 m2 hi q (dat k.ds j).pg (dat k.ds j).po (dat k.ds j).fr W->b j<=lo->hi<=W.heap.size->Lp g (fun i=>if i<=j then b i else hi) k.ds s0 (fun i=>if i=j then q else ss i) (j+1) (put L (j*8) (dat k.ds j) q) (setL W g (j*8) (dat k.ds j) q)):=fun lo m1 m2 hi q W h1 h2 h3 h4=>h1.step hlt h2 h3 h4
   have e1:(0:Int)<=(j:Int):=by omega
   have e2:(j:Int)<(k.ds.length:Int):=by omega
   have hlen:=hLp.len;have hbj:=hLp.hi;obtain ⟨d,ed⟩:∃ d,dat k.ds j=d:=⟨_,rfl⟩;obtain ⟨s,es⟩:∃ s,s0 j=s:=⟨_,rfl⟩;rw[ed,es] at ls;rw[ed] at y0 y1 y2 y3 y4 y5 y6 y7 z1 z2 z3 z4 z5 HS;rw[es] at y4 y6 y7;have nb:=K0.below_new wr (lob d s);have hcp:=LI.impl_copy d s _ z1 z2 z3 (by omega) (by omega) ls;clear ed es HR0 HZ ls
   go_wp2_with (go_at_call 82;refine hcp.mono ?_;rintro e w2 ⟨q,m1,m2,hi,rfl,hl,hh,b2⟩;have L2:=(hLp.below nb).below b2;have B2:=(hbx.below nb).below b2;have m2b:=L2.blk;obtain ⟨x0,q0⟩:∃ x,Ce w2 g (j*8) x:=⟨_,m2b.cell (j*8) (by omega)⟩;have f0:=m2b.free (j*8) (by omega);obtain ⟨x1,q1⟩:∃ x,Ce w2 g (j*8+1) x:=⟨_,m2b.cell (j*8+1) (by omega)⟩;have f1:=m2b.free (j*8+1) (by omega);obtain ⟨x2,q2⟩:∃ x,Ce w2 g (j*8+2) x:=⟨_,m2b.cell (j*8+2) (by omega)⟩;have f2:=m2b.free (j*8+2) (by omega);obtain ⟨x3,q3⟩:∃ x,Ce w2 g (j*8+3) x:=⟨_,m2b.cell (j*8+3) (by omega)⟩;have f3:=m2b.free (j*8+3) (by omega);obtain ⟨x4,q4⟩:∃ x,Ce w2 g (j*8+4) x:=⟨_,m2b.cell (j*8+4) (by omega)⟩;have f4:=m2b.free (j*8+4) (by omega);obtain ⟨x5,q5⟩:∃ x,Ce w2 g (j*8+5) x:=⟨_,m2b.cell (j*8+5) (by omega)⟩;have f5:=m2b.free (j*8+5) (by omega);obtain ⟨x6,q6⟩:∃ x,Ce w2 g (j*8+6) x:=⟨_,m2b.cell (j*8+6) (by omega)⟩;have f6:=m2b.free (j*8+6) (by omega);obtain ⟨x7,q7⟩:∃ x,Ce w2 g (j*8+7) x:=⟨_,m2b.cell (j*8+7) (by omega)⟩;have f7:=m2b.free (j*8+7) (by omega))
   go_roundw
   case rel=>exact ⟨j+1,by omega,by go_num,B2.keep ((setL_btw w2 g (j*8) d q).below (b:=g) (Nat.le_refl _) (Nat.le_of_lt m2b.lt)) (by omega),Or.inr ⟨g,_,_,_,rfl,hg,HS.out _ m1 m2 hi q w2 L2 hl (Nat.le_trans hbj nb.size) hh⟩⟩
   case measure=>simp[intOf];omega
  ·obtain rfl:j=k.ds.length:=by omega
   have HO:Hid (Own (w.heap.size+2) a1 k.ds wr):=by
    rcases HL.out with h | ⟨g,b,ss,L,e,hg,h⟩
    ·exact Or.inl h
    ·exact Or.inr ⟨g,b,ss,L,e,by omega,ac_of h⟩
   clear HL HR0 HZ;have dx:=hbx.below ((Below.refl _ _).drew)
   have HD:Hid (∀ W,_):=fun W=>D2.devCopy k.mem k.dur W hm hd
   have HO2:Hid (∀ W,Bq wr.drew W->Own (w.heap.size+2) a1 k.ds W):=fun W hb=>(HO.out.below ((Below.refl _ _).drew)).below hb
   have HS:Hid (∀ W,Bx w k a c W->Ce W w.heap.size 0 (.string k.mem)/\Ce W w.heap.size 1 (.string k.dur)/\Ce W w.heap.size 3 (Iv k.ck)):=fun W h=>⟨h.box.c0,h.box.c1,h.box.c3⟩
   have s0':=HS.out _ dx;go_wp2
   go_region_held3 (fun W=>Ce W w.heap.size 0 (.string k.mem)/\Ce W w.heap.size 1 (.string k.dur)/\Ce W w.heap.size 3 (Iv k.ck)) (assumption) ((go_at_call 83;refine (HD.out _).mono ?_;rintro e w2 ⟨rfl,b2⟩;have B2:=dx.below b2;have s2:=HS.out _ B2;have O2:=HO2.out _ b2;have r0:=B2.res.c0;have r1:=B2.res.c1;have r2:=B2.res.c2;have r3:=B2.res.c3;have f0:=B2.res.f0;have f1:=B2.res.f1;have f2:=B2.res.f2;have f3:=B2.res.f3;have s2b:((((w2.setCell ⟨w.heap.size+1,0,none⟩ (.string k.mem)).setCell ⟨w.heap.size+1,1,none⟩ (.string k.dur)).setCell ⟨w.heap.size+1,2,none⟩ (.slice a1 k.ds.length c1)).setCell ⟨w.heap.size+1,3,none⟩ (Iv k.ck)).cell? ⟨w.heap.size,0,none⟩=some (.string k.mem)/\((((w2.setCell ⟨w.heap.size+1,0,none⟩ (.string k.mem)).setCell ⟨w.heap.size+1,1,none⟩ (.string k.dur)).setCell ⟨w.heap.size+1,2,none⟩ (.slice a1 k.ds.length c1)).setCell ⟨w.heap.size+1,3,none⟩ (Iv k.ck)).cell? ⟨w.heap.size,1,none⟩=some (.string k.dur)/\((((w2.setCell ⟨w.heap.size+1,0,none⟩ (.string k.mem)).setCell ⟨w.heap.size+1,1,none⟩ (.string k.dur)).setCell ⟨w.heap.size+1,2,none⟩ (.slice a1 k.ds.length c1)).setCell ⟨w.heap.size+1,3,none⟩ (Iv k.ck)).cell? ⟨w.heap.size,3,none⟩=some (Iv k.ck):=(by have hb:=(((B2.box.setOther (B':=w.heap.size+1) (by omega) 0 (.string k.mem)).setOther (B':=w.heap.size+1) (by omega) 1 (.string k.dur)).setOther (B':=w.heap.size+1) (by omega) 2 (.slice a1 k.ds.length c1)).setOther (B':=w.heap.size+1) (by omega) 3 (Iv k.ck);exact ⟨hb.c0,hb.c1,hb.c3⟩)))
   all_goals
    go_wp2;have q:=B2.res.put4 (.string k.mem) (.string k.dur) (.slice a1 k.ds.length c1) (Iv k.ck);have v0:=q.c0;have v1:=q.c1;have v2:=q.c2;have v3:=q.c3;have O3:=(((O2.set (B:=w.heap.size+1) (by omega) 0 (.string k.mem)).set (B:=w.heap.size+1) (by omega) 1 (.string k.dur)).set (B:=w.heap.size+1) (by omega) 2 (.slice a1 k.ds.length c1)).set (B:=w.heap.size+1) (by omega) 3 (Iv k.ck);refine bodyPost_ret (v:=kval k a1 c1) (by simp[results,results51,go_sem,v0,v1,v2,v3]) rfl ⟨a1,c1,rfl,?_,?_,hcap,hcm⟩
    ·exact O3.imp id fun ⟨g,b,ss,L,e,h1,h2⟩=>⟨g,b,ss,L,e,by omega,h2⟩
    ·exact (((B2.bel.setCell (p:=⟨w.heap.size+1,0,none⟩) (Nat.le_succ _) _).setCell (p:=⟨w.heap.size+1,1,none⟩) (Nat.le_succ _) _).setCell (p:=⟨w.heap.size+1,2,none⟩) (Nat.le_succ _) _).setCell (p:=⟨w.heap.size+1,3,none⟩) (Nat.le_succ _) _
theorem keeperCopy (k:Kp) (a:Option Addr) (c:Nat) (s0:Nat->Sl) (w:World) (hm:k.mem.size<=281474976710656) (hd:k.dur.size<=281474976710656) (hn:k.ds.length<=1048576) (hz:Small k.ds) (hR:Lns w a k.ds s0) :
  Calls prog 51 #[kval k a c] w (KA k w):=(keeperCopy2 k a c s0 w hm hd hn hz hR).mono fun e w' ⟨a',c',h1,h2,h3,_⟩=>⟨a',c',h1,h2,h3⟩
end KD
end Go.Proofs.YtlejhfnjmkdobaaGreatDoor
