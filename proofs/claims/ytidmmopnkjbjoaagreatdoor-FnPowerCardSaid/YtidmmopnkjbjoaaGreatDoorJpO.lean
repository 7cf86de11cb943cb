/- Joined texts. -/
import Derived.Test.YtidmmopnkjbjoaaGreatDoorJpN
set_option linter.unusedVariables false
set_option linter.unusedSimpArgs false
set_option maxRecDepth 10000
set_option maxHeartbeats 16000000
namespace Go.Proofs.YtidmmopnkjbjoaaGreatDoor
open ChangeShapes WideShapes ChangeAt RowKit
open Go.Proofs.Tryz
section
variable {g hi : Nat} {ds : List ak} {P : Nat → Ja} {L : List Value} {w W W' : World} {d : ak} {s : aA}
structure gy (lo m1 m2 hi:Nat) (s:aA) (z1 z2 z3:List Int) (W:World):Prop where
 p1:jb lo m1 W s.a1 z1
 p2:jb m1 m2 W s.a2 z2
 p3:jb m2 hi W s.a3 z3
 le:lo<=m1/\m1<=m2/\m2<=hi
variable {lo m1 m2 lo' hi' : Nat} {z1 z2 z3 : List Int}
theorem gy.below (h:gy lo m1 m2 hi s z1 z2 z3 W) (hb:aj W W'):gy lo m1 m2 hi s z1 z2 z3 W':=⟨h.p1.below hb,h.p2.below hb,h.p3.below hb,h.le⟩
theorem gy.wh (h:gy lo m1 m2 hi s z1 z2 z3 W) (hb:jH lo' hi' W W') (hx:hi<=lo'\/hi'<=lo):gy lo m1 m2 hi s z1 z2 z3 W':=⟨h.p1.wh hb (by have:=h.le;omega),h.p2.wh hb (by have:=h.le;omega),h.p3.wh hb (by have:=h.le;omega),h.le⟩
theorem gy.lists (h:gy lo m1 m2 hi s d.pg d.po d.fr W):dq W d s:=⟨h.p1.row,h.p2.row,h.p3.row⟩
abbrev vp (d:ak) (s:aA):Obj:=.cells #[.int .i64 d.ino,.int .i64 d.cl,.int .i64 d.un,.string d.rc,.slice s.a1 d.pg.length s.c1,.string d.aH,.slice s.a2 d.po.length s.c2,.slice s.a3 d.fr.length s.c3] 49
end
section
variable {w W W' : World} {d : ak} {s : aA} {x4 x6 x7 : Value} {b : Nat}
abbrev Jf:Obj:=.cells #[.int .i64 0,.int .i64 0,.int .i64 0,.string ⟨#[]⟩,.slice none 0 0,.string ⟨#[]⟩,.slice none 0 0,.slice none 0 0] 49
structure eX (w:World) (d:ak) (x4 x6 x7:Value) (W:World):Prop where
 box:av w.heap.size [.int .i64 d.ino,.int .i64 d.cl,.int .i64 d.un,.string d.rc,x4,.string d.aH,x6,x7] W
 res:av (w.heap.size+1) Pj W
 ah:aj w W
theorem eX.keep (h:eX w d x4 x6 x7 W) (hb:Below b W W') (hB:w.heap.size+2<=b):eX w d x4 x6 x7 W':=⟨fQ h.box hb (by omega),fQ h.res hb (by omega),h.ah.trans (hb.mono (by omega))⟩
theorem eX.below (h:eX w d x4 x6 x7 W) (hb:aj W W'):eX w d x4 x6 x7 W':=⟨h.box.below hb,h.res.below hb,h.ah.trans (hb.mono h.ah.size)⟩
theorem eX.drew (h:eX w d x4 x6 x7 W):eX w d x4 x6 x7 W.drew:=h.below ((aK _ _).drew)
theorem eX.lt (h:eX w d x4 x6 x7 W):w.heap.size+2<=W.heap.size:=h.res.lt
theorem eX.VY (h:eX w d x4 x6 x7 W) (v:Value):eX w d v x6 x7 (W.setCell ⟨w.heap.size,4,none⟩ v):=⟨h.box.set 4 v,h.res.aR (by omega) 4 v,h.ah.setCell (p:=⟨w.heap.size,4,none⟩) (aq _) v⟩
theorem eX.Vc (h:eX w d x4 x6 x7 W) (v:Value):eX w d x4 v x7 (W.setCell ⟨w.heap.size,6,none⟩ v):=⟨h.box.set 6 v,h.res.aR (by omega) 6 v,h.ah.setCell (p:=⟨w.heap.size,6,none⟩) (aq _) v⟩
theorem eX.Ve (h:eX w d x4 x6 x7 W) (v:Value):eX w d x4 x6 v (W.setCell ⟨w.heap.size,7,none⟩ v):=⟨h.box.set 7 v,h.res.aR (by omega) 7 v,h.ah.setCell (p:=⟨w.heap.size,7,none⟩) (aq _) v⟩
theorem eX.V4 (h:eX w d x4 x6 x7 W):eX w d x4 x6 x7 (W.setCell ⟨w.heap.size,3,none⟩ (.string d.rc)):=⟨h.box.set 3 (.string d.rc),h.res.aR (by omega) 3 _,h.ah.setCell (p:=⟨w.heap.size,3,none⟩) (aq _) _⟩
theorem eX.aih (h:eX w d x4 x6 x7 W):eX w d x4 x6 x7 (W.setCell ⟨w.heap.size,5,none⟩ (.string d.aH)):=⟨h.box.set 5 (.string d.aH),h.res.aR (by omega) 5 _,h.ah.setCell (p:=⟨w.heap.size,5,none⟩) (aq _) _⟩
theorem Qu (w:World) (d:ak) (s:aA):eX w d (.slice s.a1 d.pg.length s.c1) (.slice s.a2 d.po.length s.c2) (.slice s.a3 d.fr.length s.c3) ((w.alloc (vp d s)).alloc Jf):=⟨(bu (eI d s) w 49).alloc _,gH Pj _ 49 (by simp),((aK _ _).alloc (aq _) _).alloc (by simp) _⟩
theorem Jg {lo hi b:Nat} {a:Option Addr} {zs:List Int} (h:jb lo hi W a zs) (hb:Below b W W') (hx:hi<=b):jb lo hi W' a zs:=h.imp id fun ⟨g,e,h1,h2,hk⟩=>⟨g,e,h1,h2,fQ hk hb (by omega)⟩
def Fo (d:ak) (w:World) (e:Ending) (w':World):Prop:=∃ s' m1 m2 hi,e=.returned (bH d s')/\gy w.heap.size m1 m2 hi s' d.pg d.po d.fr w'/\hi<=w'.heap.size/\aj w w'
theorem Qv {a1 a2 a3:Option Addr} {c1 c2 c3 m1 m2 hi:Nat} (h:eX w d (.slice a1 d.pg.length c1) (.slice a2 d.po.length c2) (.slice a3 d.fr.length c3) W) (hl:gy (w.heap.size+2) m1 m2 hi ⟨a1,c1,a2,c2,a3,c3⟩ d.pg d.po d.fr W) (hh:hi<=W.heap.size) (W':World) (hW:(((((((W.setCell ⟨w.heap.size+1,0,none⟩ (ad d.ino)).setCell ⟨w.heap.size+1,1,none⟩ (ad d.cl)).setCell ⟨w.heap.size+1,2,none⟩ (ad d.un)).setCell ⟨w.heap.size+1,3,none⟩ (.string d.rc)).setCell ⟨w.heap.size+1,4,none⟩ (.slice a1 d.pg.length c1)).setCell ⟨w.heap.size+1,5,none⟩ (.string d.aH)).setCell ⟨w.heap.size+1,6,none⟩ (.slice a2 d.po.length c2)).setCell ⟨w.heap.size+1,7,none⟩ (.slice a3 d.fr.length c3)=W'):av (w.heap.size+1) (eI d ⟨a1,c1,a2,c2,a3,c3⟩) W'/\Fo d w (.returned (bH d ⟨a1,c1,a2,c2,a3,c3⟩)) W':=by
 have q:=me (y0:=ad d.ino) (y1:=ad d.cl) (y2:=ad d.un) (y3:=.string d.rc) (y4:=.slice a1 d.pg.length c1) (y5:=.string d.aH) (y6:=.slice a2 d.po.length c2) (y7:=.slice a3 d.fr.length c3) h.res;have hlt:=h.res.lt;have t:jH (w.heap.size+1) (w.heap.size+2) W W':=by rw[<- hW];exact ((((((((jH.refl _ _ W).set (p:=⟨w.heap.size+1,0,none⟩) (aq _) (gn _) _).set (p:=⟨w.heap.size+1,1,none⟩) (aq _) (gn _) _).set (p:=⟨w.heap.size+1,2,none⟩) (aq _) (gn _) _).set (p:=⟨w.heap.size+1,3,none⟩) (aq _) (gn _) _).set (p:=⟨w.heap.size+1,4,none⟩) (aq _) (gn _) _).set (p:=⟨w.heap.size+1,5,none⟩) (aq _) (gn _) _).set (p:=⟨w.heap.size+1,6,none⟩) (aq _) (gn _) _).set (p:=⟨w.heap.size+1,7,none⟩) (aq _) (gn _) _
 rw[hW] at q;have hl':=hl.wh t (Or.inr (aq _));exact ⟨q,_,m1,m2,hi,rfl,⟨hl'.p1.mono (by omega) (aq _),hl'.p2,hl'.p3,by have:=hl'.le;omega⟩,bt hh t.size,h.ah.trans (t.below (by omega) (by omega))⟩
theorem aa6 (d:ak) (s:aA) (w:World) (hp:d.pg.length<=1048576) (ho:d.po.length<=1048576) (hf:d.fr.length<=1048576) (hR:dq w d s):Calls prog 68 #[bH d s] w (Fo d w):=by
 have t0:=Qu w d s;have nO:Hid (∀ W,aj w W->dq W d s):=fun W hb=>hR.below hb;obtain ⟨W0,hW0⟩:∃ W0,(w.alloc (vp d s)).alloc Jf=W0:=⟨_,rfl⟩;rw[hW0] at t0;have z0:=t0.lt;have Ll:=t0.below (aB W0 (.cells #[] 3));have l0a:=aB W0 (.cells #[] 3);have i0:=fq W0 (aq _);have r0:=(nO.out _ Ll.ah).r1;have y4:=Ll.box.cell 4 (by simp);simp only[eQ,fP] at y4;clear hR;go_enter func68,ntmps68;go_wp2_with (first
  | (at_builtin;have q2:=o2;refine pP rfl (.tmp 13) (.tmp 15) rfl i2 s.a3 s.c3 d.fr (by rfl) (by rfl) r2 (by omega) (by simp) ?_;intro a3 c3 w3 b3 l3;rw[cR] at b3;rw[iX] at b3;simp only[cR];have t3:=Lz.keep l3 z2;have o3:=(Fi b3.own).set (B:=w.heap.size) (by omega) 7 (.slice a3 d.fr.length c3);have y7':=t3.box.cell 7 (by simp);have f7:=t3.box.free 7 (by simp);simp only[eQ,fP] at y7';have g1:=(Jg agZ l3 (by omega)).set (B:=w.heap.size) (by omega) 7 (.slice a3 d.fr.length c3);have g2:=(Jg v2a l3 (by omega)).set (B:=w.heap.size) (by omega) 7 (.slice a3 d.fr.length c3);have u3:=t3.Ve (.slice a3 d.fr.length c3);clear y7;have e0:=u3.box.cell 0 (by simp);have e1:=u3.box.cell 1 (by simp);have e2:=u3.box.cell 2 (by simp);have e3:=u3.box.cell 3 (by simp);have e4:=u3.box.cell 4 (by simp);have e5:=u3.box.cell 5 (by simp);have e6:=u3.box.cell 6 (by simp);have e7:=u3.box.cell 7 (by simp);simp only[eQ,fP] at e0 e1 e2 e3 e4 e5 e6 e7;have j0:=u3.res.cell 0 (by simp);have j1:=u3.res.cell 1 (by simp);have j2:=u3.res.cell 2 (by simp);have j3:=u3.res.cell 3 (by simp);have j4:=u3.res.cell 4 (by simp);have j5:=u3.res.cell 5 (by simp);have j6:=u3.res.cell 6 (by simp);have j7:=u3.res.cell 7 (by simp);simp only[eQ,fP] at j0 j1 j2 j3 j4 j5 j6 j7;have n0:=u3.res.free 0 (by simp);have n1:=u3.res.free 1 (by simp);have n2:=u3.res.free 2 (by simp);have n3:=u3.res.free 3 (by simp);have n4:=u3.res.free 4 (by simp);have n5:=u3.res.free 5 (by simp);have n6:=u3.res.free 6 (by simp);have n7:=u3.res.free 7 (by simp))
  | (at_builtin;have q1:=o1;refine pP rfl (.tmp 8) (.tmp 10) rfl i1 s.a2 s.c2 d.po (by rfl) (by rfl) r1 (by omega) (by simp) ?_;intro a2 c2 w2 b2 l2;rw[cR] at b2;rw[iX] at b2;simp only[cR];have t2:=KR.keep l2 z1;have o2:=(Fi b2.own).set (B:=w.heap.size) (by omega) 6 (.slice a2 d.po.length c2);have y6':=t2.box.cell 6 (by simp);have f6:=t2.box.free 6 (by simp);simp only[eQ,fP] at y6';have v12:=(Jg v1a l2 (aq _)).set (B:=w.heap.size) (by omega) 6 (.slice a2 d.po.length c2);have u2:=t2.Vc (.slice a2 d.po.length c2);clear y6;have LV:=aB (w2.setCell ⟨w.heap.size,6,none⟩ (.slice a2 d.po.length c2)) (.cells #[] 3);have Lz:=u2.below LV;have agZ:=v12.below LV;have v2a:=o2.below LV;have i2:=fq (w2.setCell ⟨w.heap.size,6,none⟩ (.slice a2 d.po.length c2)) (aq _);have z2:=t2.lt;have r2:=(nO.out _ Lz.ah).r3;have y7:=Lz.box.cell 7 (by simp);simp only[eQ,fP] at y7;have hs2:(w2.setCell ⟨w.heap.size,6,none⟩ (.slice a2 d.po.length c2)).heap.size=w2.heap.size:=(by simp);rw[hs2] at i2;clear hs2;have UT:w1.heap.size<=w2.heap.size:=(by have:=l2.size;simp at this;omega))
  | (at_builtin;refine pP rfl (.tmp 3) (.tmp 5) rfl i0 s.a1 s.c1 d.pg (by rfl) (by rfl) r0 (by omega) l0a.size ?_;intro a1 c1 w1 b1 l1;rw[cR] at b1;rw[iX] at b1;simp only[cR];have t1:=Ll.keep l1 z0;have o1:=(Fi b1.own).set (B:=w.heap.size) (by omega) 4 (.slice a1 d.pg.length c1);have y4':=t1.box.cell 4 (by simp);have f4:=t1.box.free 4 (by simp);simp only[eQ,fP] at y4';have u1:=t1.VY (.slice a1 d.pg.length c1);clear y4;have Wl:=aB (w1.setCell ⟨w.heap.size,4,none⟩ (.slice a1 d.pg.length c1)) (.cells #[] 3);have KR:=u1.below Wl;have v1a:=o1.below Wl;have i1:=fq (w1.setCell ⟨w.heap.size,4,none⟩ (.slice a1 d.pg.length c1)) (aq _);have z1:=t1.lt;have r1:=(nO.out _ KR.ah).r2;have y6:=KR.box.cell 6 (by simp);simp only[eQ,fP] at y6;have hs1:(w1.setCell ⟨w.heap.size,4,none⟩ (.slice a1 d.pg.length c1)).heap.size=w1.heap.size:=(by simp);rw[hs1] at i1;clear hs1))
 have UQ:w2.heap.size<=w3.heap.size:=by have:=l3.size;simp at this;omega
 obtain ⟨q,ha⟩:=Qv (m1:=w1.heap.size) (m2:=w2.heap.size) (hi:=w3.heap.size) u3 ⟨g1.mono (by omega) (aq _),g2,o3,by omega,by omega,by omega⟩ (by simp) _ rfl;have v0:=q.cell 0 (by simp);have v1:=q.cell 1 (by simp);have v2:=q.cell 2 (by simp);have v3:=q.cell 3 (by simp);have v4:=q.cell 4 (by simp);have v5:=q.cell 5 (by simp);have v6:=q.cell 6 (by simp);have v7:=q.cell 7 (by simp);simp only[eQ,fP] at v0 v1 v2 v3 v4 v5 v6 v7;exact bL (v:=bH d ⟨a1,c1,a2,c2,a3,c3⟩) (by simp[results,results68,go_sem,v0,v1,v2,v3,v4,v5,v6,v7]) rfl ha
theorem aa7 (d:ak) (s:aA) (w:World) (hp:d.pg.length<=1048576) (ho:d.po.length<=1048576) (hf:d.fr.length<=1048576) (hr:d.rc.size<=281474976710656) (hs:d.aH.size<=281474976710656) (hR:dq w d s):Calls prog 127 #[bH d s] w (Fo d w):=by
 have t0:=(Qu w d s).drew;have nO:Hid (∀ W,aj w W->dq W d s):=fun W hb=>hR.below hb;have HC:Hid (∀ (x:ByteArray) W,x.size<=281474976710656->eX w d (.slice s.a1 d.pg.length s.c1) (.slice s.a2 d.po.length s.c2) (.slice s.a3 d.fr.length s.c3) W->Calls prog 50 #[.string x] W fun e w'=>e=.returned (.string x)/\eX w d (.slice s.a1 d.pg.length s.c1) (.slice s.a2 d.po.length s.c2) (.slice s.a3 d.fr.length s.c3) w'):=fun x W hx hc=>(yS x W hx).mono fun _ _ ⟨he,hb⟩=>⟨he,hc.below hb⟩;clear hR;go_enter func127,ntmps127;go_wp2;obtain ⟨W0,hW0⟩:∃ W0,(w.alloc (vp d s)).alloc Jf=W0:=⟨_,rfl⟩;rw[hW0] at t0 ⊢;have HS:Hid (∀ {x4 x6 x7:Value} W,eX w d x4 x6 x7 W->af W w.heap.size 3 (.string d.rc)/\af W w.heap.size 5 (.string d.aH)):=fun W h=>⟨h.box.cell 3 (by simp),h.box.cell 5 (by simp)⟩;have s0:=HS.out _ t0;go_region_held3 (fun W=>af W w.heap.size 3 (.string d.rc)/\af W w.heap.size 5 (.string d.aH)) (assumption) ((first
  | (go_at_call 50;have t1':=t1;refine (HC.out _ _ (by omega) t1).mono ?_;rintro e w2 ⟨rfl,t2⟩;have s2:=HS.out _ t2;have f3:=t2.box.free 3 (by simp);have f5:=t2.box.free 5 (by simp);have t3:=t2.V4.aih;have s2a:=HS.out _ t2.V4;have Vo:=HS.out _ t3)
  | (go_at_call 50;refine (HC.out _ _ (by omega) t0).mono ?_;rintro e w1 ⟨rfl,t1⟩;have s1:=HS.out _ t1)))
 obtain ⟨W3,hW3⟩:∃ W3,(w2.setCell ⟨w.heap.size,3,none⟩ (.string d.rc)).setCell ⟨w.heap.size,5,none⟩ (.string d.aH)=W3:=⟨_,rfl⟩;rw[hW3] at t3 ⊢;clear Vo s2a s2 f3 f5 t2 t1' s1 t1 s0 t0 hW0 hW3 HC HS;have HC:Hid (∀ (a:Option Addr) (c:Nat) (zs:List Int) W,zs.length<=1048576->aI W a zs->eX w d (.slice s.a1 d.pg.length s.c1) (.slice s.a2 d.po.length s.c2) (.slice s.a3 d.fr.length s.c3) W->Calls prog 94 #[.slice a zs.length c] W fun e w'=>∃ a' c',e=.returned (.slice a' zs.length c')/\jb W.heap.size w'.heap.size w' a' zs/\aj W w'/\eX w d (.slice s.a1 d.pg.length s.c1) (.slice s.a2 d.po.length s.c2) (.slice s.a3 d.fr.length s.c3) w'):=fun a c zs W hn hr hc=>(aaU a c zs W hn hr).mono fun _ _ ⟨a',c',he,ho,hb⟩=>⟨a',c',he,Fi ho,hb,hc.below hb⟩;have HS:Hid (∀ W,eX w d (.slice s.a1 d.pg.length s.c1) (.slice s.a2 d.po.length s.c2) (.slice s.a3 d.fr.length s.c3) W->af W w.heap.size 4 (.slice s.a1 d.pg.length s.c1)/\af W w.heap.size 6 (.slice s.a2 d.po.length s.c2)/\af W w.heap.size 7 (.slice s.a3 d.fr.length s.c3)):=fun W h=>⟨h.box.cell 4 (by simp),h.box.cell 6 (by simp),h.box.cell 7 (by simp)⟩;have t4:=t3.drew;have z4:=t4.lt;have s4:=HS.out _ t4;go_wp2;refine BL (n:=10) (S:=fun W=>af W w.heap.size 4 (.slice s.a1 d.pg.length s.c1)/\af W w.heap.size 6 (.slice s.a2 d.po.length s.c2)/\af W w.heap.size 7 (.slice s.a3 d.fr.length s.c3)) (by kernel_rfl) ?_;refine jY 0 (aD w.heap.size 4) s4 ?_;refine sH 1 (.slice s.a1 d.pg.length s.c1) s4 ?_;refine jY 3 (aD w.heap.size 6) s4 ?_;refine sH 4 (.slice s.a2 d.po.length s.c2) s4 ?_;refine jY 6 (aD w.heap.size 7) s4 ?_;refine sH 7 (.slice s.a3 d.fr.length s.c3) s4 ?_;refine zp (i:=2) (by kernel_rfl) rfl (by rfl) (.tmp 12) _ rfl (.slice s.a1 d.pg.length s.c1) (by rfl) (bh func94 (by kernel_rfl) rfl) ((HC.out s.a1 s.c1 d.pg _ hp (nO.out _ t4.ah).r1 t4).mono ?_);rintro e w5 ⟨a1,c1,rfl,o1,b1,t5⟩;have s5:=HS.out _ t5;refine ⟨_,rfl,s5,?_⟩;simp only[ao,Act.put,Nat.reduceAdd];refine jY 9 (aD w.heap.size 4) s5 ?_;refine zp (i:=5) (by kernel_rfl) rfl (by rfl) (.tmp 15) _ rfl (.slice s.a2 d.po.length s.c2) (by rfl) (bh func94 (by kernel_rfl) rfl) ((HC.out s.a2 s.c2 d.po _ ho (nO.out _ t5.ah).r2 t5).mono ?_);rintro e w6 ⟨a2,c2,rfl,o2,b2,t6⟩;have s6:=HS.out _ t6;have o12:=o1.below b2;refine ⟨_,rfl,s6,?_⟩;simp only[ao,Act.put,Nat.reduceAdd]
 refine zp (i:=8) (by kernel_rfl) rfl (by rfl) (.tmp 18) _ rfl (.slice s.a3 d.fr.length s.c3) (by rfl) (bh func94 (by kernel_rfl) rfl) ((HC.out s.a3 s.c3 d.fr _ hf (nO.out _ t6.ah).r3 t6).mono ?_);rintro e w7 ⟨a3,c3,rfl,o3,b3,t7⟩;have s7:=HS.out _ t7;have g1:=o12.below b3;have g2:=o2.below b3;refine ⟨_,rfl,s7,?_⟩;simp only[ao,Act.put,Nat.reduceAdd];have y4:=t7.box.free 4 (by simp);have y6:=t7.box.free 6 (by simp);have y7:=t7.box.free 7 (by simp);obtain ⟨p4,p6,p7⟩:=s7;refine wZ (i:=10) (w':=(w7.setCell ⟨w.heap.size,4,none⟩ (.slice a1 d.pg.length c1))) (by kernel_rfl) rfl (by decide) (by rfl) ?_ ?_;·go_simp
 simp only[ao,Act.put,Nat.reduceAdd];refine PI (i:=11) (w':=(w7.setCell ⟨w.heap.size,4,none⟩ (.slice a1 d.pg.length c1))) (u:=aD w.heap.size 6) (by kernel_rfl) rfl (by decide) (by rfl) (by rfl) ?_;simp only[ao,Act.put,Nat.reduceAdd];refine wZ (i:=12) (w':=((w7.setCell ⟨w.heap.size,4,none⟩ (.slice a1 d.pg.length c1)).setCell ⟨w.heap.size,6,none⟩ (.slice a2 d.po.length c2))) (by kernel_rfl) rfl (by decide) (by rfl) ?_ ?_;·go_simp
 simp only[ao,Act.put,Nat.reduceAdd];refine PI (i:=13) (w':=((w7.setCell ⟨w.heap.size,4,none⟩ (.slice a1 d.pg.length c1)).setCell ⟨w.heap.size,6,none⟩ (.slice a2 d.po.length c2))) (u:=aD w.heap.size 7) (by kernel_rfl) rfl (by decide) (by rfl) (by rfl) ?_;simp only[ao,Act.put,Nat.reduceAdd];refine wZ (i:=14) (w':=(((w7.setCell ⟨w.heap.size,4,none⟩ (.slice a1 d.pg.length c1)).setCell ⟨w.heap.size,6,none⟩ (.slice a2 d.po.length c2)).setCell ⟨w.heap.size,7,none⟩ (.slice a3 d.fr.length c3))) (by kernel_rfl) rfl (by decide) (by rfl) ?_ ?_;·go_simp
 simp only[ao,Act.put,Nat.reduceAdd];refine BK (by kernel_rfl) ?_ _;have u:=((t7.VY (.slice a1 d.pg.length c1)).Vc (.slice a2 d.po.length c2)).Ve (.slice a3 d.fr.length c3);have x1:=((g1.set (B:=w.heap.size) (by omega) 4 (.slice a1 d.pg.length c1)).set (B:=w.heap.size) (by omega) 6 (.slice a2 d.po.length c2)).set (B:=w.heap.size) (by omega) 7 (.slice a3 d.fr.length c3);have x2:=((g2.set (B:=w.heap.size) (by have:=t5.lt;omega) 4 (.slice a1 d.pg.length c1)).set (B:=w.heap.size) (by have:=t5.lt;omega) 6 (.slice a2 d.po.length c2)).set (B:=w.heap.size) (by have:=t5.lt;omega) 7 (.slice a3 d.fr.length c3);have x3:=((o3.set (B:=w.heap.size) (by have:=t6.lt;omega) 4 (.slice a1 d.pg.length c1)).set (B:=w.heap.size) (by have:=t6.lt;omega) 6 (.slice a2 d.po.length c2)).set (B:=w.heap.size) (by have:=t6.lt;omega) 7 (.slice a3 d.fr.length c3);have hh:((((w7.setCell ⟨w.heap.size,4,none⟩ (.slice a1 d.pg.length c1)).setCell ⟨w.heap.size,6,none⟩ (.slice a2 d.po.length c2)).setCell ⟨w.heap.size,7,none⟩ (.slice a3 d.fr.length c3))).heap.size=w7.heap.size:=by simp
 obtain ⟨W7,yx⟩:∃ W7,(((w7.setCell ⟨w.heap.size,4,none⟩ (.slice a1 d.pg.length c1)).setCell ⟨w.heap.size,6,none⟩ (.slice a2 d.po.length c2)).setCell ⟨w.heap.size,7,none⟩ (.slice a3 d.fr.length c3))=W7:=⟨_,rfl⟩;rw[yx] at u x1 x2 x3 hh ⊢;have e0:=u.box.cell 0 (by simp);have e1:=u.box.cell 1 (by simp);have e2:=u.box.cell 2 (by simp);have e3:=u.box.cell 3 (by simp);have e4:=u.box.cell 4 (by simp);have e5:=u.box.cell 5 (by simp);have e6:=u.box.cell 6 (by simp);have e7:=u.box.cell 7 (by simp);have j0:=u.res.cell 0 (by simp);have j1:=u.res.cell 1 (by simp);have j2:=u.res.cell 2 (by simp);have j3:=u.res.cell 3 (by simp);have j4:=u.res.cell 4 (by simp);have j5:=u.res.cell 5 (by simp);have j6:=u.res.cell 6 (by simp);have j7:=u.res.cell 7 (by simp);have n0:=u.res.free 0 (by simp);have n1:=u.res.free 1 (by simp);have n2:=u.res.free 2 (by simp);have n3:=u.res.free 3 (by simp);have n4:=u.res.free 4 (by simp);have n5:=u.res.free 5 (by simp);have n6:=u.res.free 6 (by simp);have n7:=u.res.free 7 (by simp);simp only[eQ,fP] at e0 e1 e2 e3 e4 e5 e6 e7 j0 j1 j2 j3 j4 j5 j6 j7;have Gw:=t5.lt;have UT:=b2.size;have UQ:=b3.size;obtain ⟨q,ha⟩:=Qv (m1:=w5.heap.size) (m2:=w6.heap.size) (hi:=w7.heap.size) u ⟨x1.mono z4 (aq _),x2,x3,Gw,UT,UQ⟩ (by omega) _ rfl;have v0:=q.cell 0 (by simp);have v1:=q.cell 1 (by simp);have v2:=q.cell 2 (by simp);have v3:=q.cell 3 (by simp);have v4:=q.cell 4 (by simp);have v5:=q.cell 5 (by simp);have v6:=q.cell 6 (by simp);have v7:=q.cell 7 (by simp);simp only[eQ,fP] at v0 v1 v2 v3 v4 v5 v6 v7;have HV:Hid (_/\_/\_/\_/\_/\_/\_/\_):=⟨v0,v1,v2,v3,v4,v5,v6,v7⟩;clear v0 v1 v2 v3 v4 v5 v6 v7 yx hh q x1 x2 x3 u;go_wp2;obtain ⟨v0,v1,v2,v3,v4,v5,v6,v7⟩:=HV.out;exact bL (v:=bH d ⟨a1,c1,a2,c2,a3,c3⟩) (by simp[results,results127,go_sem,v0,v1,v2,v3,v4,v5,v6,v7]) rfl ha
end
theorem W0b.below {w W W':World} {row:Option Nat} (h:aj w W) (hg:W.grownBy W' row) (hr:∀ g,row=some g->w.heap.size<=g):aj w W':=lY h hg hr h.size
def cX:List ak->(Nat->aA)->List Value
 | [],_=>[]
 | d :: r,ss=>eI d (ss 0)++cX r (fun j=>ss (j+1))
theorem ou:∀ (ds:List ak) (ss:Nat->aA),(cX ds ss).length=ds.length*8
 | [],_=>rfl
 | d :: r,ss=>by simp[cX,ou r];omega
theorem zD:∀ (ds:List ak) (ss:Nat->aA) (j:Nat),j<ds.length->mM (cX ds ss) (j*8) (au ds j) (ss j)
 | [],_,j,h=>by simp at h
 | d :: r,ss,0,_=>⟨rfl,rfl,rfl,rfl,rfl,rfl,rfl,rfl⟩
 | d :: r,ss,j+1,h=>by
  have ih:=zD r (fun j=>ss (j+1)) j (by simpa using h);unfold mM at ih ⊢;have e:∀ x,(cX (d :: r) ss)[(j+1)*8+x]? = (cX r (fun j=>ss (j+1)))[j*8+x]?:=fun x=>by rw[cX,ng (by simp;omega)];congr 1;simp;omega
  have e0:=e 0;simp only[mZ] at e0;rw[e0,e 1,e 2,e 3,e 4,e 5,e 6,e 7];exact ih
theorem zE:∀ (ds:List ak) (ss:Nat->aA),∀ u ∈ cX ds ss,u.oneCell'=true
 | [],_,u,h=>by cases h
 | d :: r,ss,u,h=>by
  rw[cX,gP] at h;rcases h with h | h
  ·simp at h;rcases h with rfl | rfl | rfl | rfl | rfl | rfl | rfl | rfl <;> rfl
  ·exact zE r _ u h
theorem Fp {W:World} {b off:Nat} {ds:List ak} {ss:Nat->aA} (hc:∀ j,j<ds.length->mg W b (off+j*8) (au ds j) (ss j)) (i:Nat) (u:Value) (h:(cX ds ss)[i]? = some u):W.cell? ⟨b,off+i,none⟩=some u:=by
 have hi:i<ds.length*8:=by have:=(pI.1 h).1;rwa [ou] at this
 have hj:i / 8<ds.length:=by omega
 obtain ⟨f0,f1,f2,f3,f4,f5,f6,f7⟩:=zD ds ss (i / 8) hj;obtain ⟨c0,c1,c2,c3,c4,c5,c6,c7⟩:=hc (i / 8) hj;rcases (show i=i / 8*8\/i=i / 8*8+1\/i=i / 8*8+2\/i=i / 8*8+3\/i=i / 8*8+4\/i=i / 8*8+5\/i=i / 8*8+6\/i=i / 8*8+7 by omega) with e | e | e | e | e | e | e | e
 ·rw[e,f0] at h;rw[e,<- h];exact c0
 ·rw[e,f1] at h;rw[e,<- h];exact c1
 ·rw[e,f2] at h;rw[e,<- h];exact c2
 ·rw[e,f3] at h;rw[e,<- h];exact c3
 ·rw[e,f4] at h;rw[e,<- h];exact c4
 ·rw[e,f5] at h;rw[e,<- h];exact c5
 ·rw[e,f6] at h;rw[e,<- h];exact c6
 rw[e,f7] at h;rw[e,<- h];exact c7
theorem Fq {W:World} {base n g cap:Nat} {e:TypeId} {vs:List Value} (h:W.ownsRow base e 8 (bg g n cap) n vs) (hl:vs.length=n*8):base<=g/\av g vs W:=by
 rcases h.2 with ⟨h0,_⟩ | ⟨g',cap',cur,hv,hg,hc,hle,hm,hs,ht⟩;·cases h0
 obtain ⟨rfl,rfl⟩:g=g'/\cap=cap':=by simpa using hv
 refine ⟨hg,fun j hj=>?_,fun j hj=>?_,(mY.1 hc).1⟩
 ·have hcell:W.cell? ⟨g,j,none⟩=cur[j]?:=by
   unfold World.cell?;rw[hc];simp
  have e1:(cur.toList.take (n*8))[j]? = vs[j]?:=by rw[ht]
  rw[AW (by omega)] at e1;rw[hcell,<- Hq,e1,gD hj]
 unfold World.frozen?;rw[hc];simp
theorem Qw {W:World} {base n g cap:Nat} {e:TypeId} {vs:List Value} (h:W.ownsRow base e 8 (bg g n cap) n vs):n<=cap/\cap<=maxLen:=by
 rcases h.2 with ⟨h0,_⟩ | ⟨g',cap',cur,hv,hg,hc,hle,hm,hs,ht⟩;·cases h0
 obtain ⟨rfl,rfl⟩:g=g'/\cap=cap':=by simpa using hv
 exact ⟨hle,hm⟩
def aa8 (ds:List ak) (ss:Nat->aA) (w:World) (e:Ending) (w':World):Prop:=∃ a' c',e=.returned (.slice a' ds.length c')/\(ds=[]\/∃ g,a'=some ⟨g,0,none⟩/\w.heap.size<=g/\av g (cX ds ss) w')/\aj w w'/\ds.length<=c'/\c'<=maxLen/\(ds=[]->w'.ownsRow w.heap.size 49 8 (.slice a' 0 c') 0 [])
theorem aa9 (a:Option Addr) (c:Nat) (ds:List ak) (ss:Nat->aA) (w:World) (hn:ds.length<=1048576) (hR:xi w a ds ss):Calls prog 126 #[.slice a ds.length c] w (aa8 ds ss w):=by
 have qn:∀ (w:World) (a:Option Addr) (n c n' c':Nat),(binOp .eql 26 (.slice a n c) (.slice none n' c')).run prog w=.ok (.bool a.isNone) w:=fun w a n c n' c'=>Xh w _ _ a n c n' c' underlying26;cases a with
 | none=>
  have h0:ds=[]:=by
   rcases hR with h | ⟨b,off,h,_⟩;·exact h
   cases h
  subst h0;go_enter func126,ntmps126;go_wp2;go_ret;exact ⟨none,0,rfl,Or.inl rfl,aK _ _,aq _,aS _,fun _=>⟨rfl,Or.inl ⟨rfl,rfl⟩⟩⟩
 | some p=>
  obtain ⟨i0,hi,hz0,hz1,hz2⟩:=iW Fg;have l0:=aB w (.cells #[] 49);have o0:(w.alloc (.cells #[] 49)).ownsRow w.heap.size 49 8 (bg w.heap.size 0 0) 0 []:=tu w #[] 0 (aq _) (aS _) rfl;have r0:=hR.below l0;by_cases hd:ds=[]
  ·subst hd;have hrun:=yZ (P:=prog) (w.alloc (.cells #[] 49)) 26 26 49 i0 underlying26 hi (some ⟨w.heap.size,0,none⟩) 0 0 (aq _) (some p) c;have HO:Hid ((w.alloc (.cells #[] 49)).ownsRow w.heap.size 49 8 (bg w.heap.size 0 0) 0 []):=o0;clear hR r0 o0;go_enter func126,ntmps126;go_wp2_with (at_builtin;refine Hw _ rfl (.tmp 5) (.tmp 6) 26 26 rfl _ _ (by rfl) (by rfl) _ _ hrun ?_);go_ret;exact ⟨_,_,rfl,Or.inl rfl,l0,aS _,aS _,fun _=>HO.out⟩
  ·obtain ⟨b,off,hp,hlt,hc⟩:∃ b off,p=⟨b,off,none⟩/\b<(w.alloc (.cells #[] 49)).heap.size/\∀ j,j<ds.length->mg (w.alloc (.cells #[] 49)) b (off+j*8) (au ds j) (ss j):=by
    rcases r0 with h | ⟨b,off,h,hl,hc⟩;·exact absurd h hd
    exact ⟨b,off,jT h,hl,hc⟩
   subst hp;have hm:0<ds.length:=Nu.2 hd;clear hR r0;go_enter func126,ntmps126;go_wp2_with (at_builtin;refine rY _ rfl (.tmp 5) (.tmp 6) 26 rfl w.heap.size 49 i0 (.agg Ff) 8 128 underlying26 hi hz0 hz1 hz2 rfl (by omega) _ 0 _ (by rfl) o0 ⟨b,off,none⟩ ds.length c (cX ds ss) (by rfl) (ou ds ss) (fun j u hj=>by rw[nT];exact Fp hc j u hj) (zE ds ss) hm (by unfold maxLen;omega) (by omega) l0.size _ rfl ?_;intro g cap' w1 ho' hg' hl' hlt';rw[iX,cR] at ho';simp only[cR]);go_ret;obtain ⟨hg1,hk1⟩:=Fq ho' (ou ds ss);exact ⟨_,cap',rfl,Or.inr ⟨g,rfl,hg1,hk1⟩,W0b.below l0 hg' (fun k hk=>by simp[Value.ownBlock] at hk;omega),(Qw ho').1,(Qw ho').2,fun x=>absurd x hd⟩
section
structure ov (g:Nat) (b:Nat->Nat) (ds:List ak) (s0 ss:Nat->aA) (k:Nat) (L:List Value) (W:World):Prop where
 len:L.length=ds.length*8
 iT:av g L W
 new:∀ j,j<k->mM L (j*8) (au ds j) (ss j)
 Mh:∀ j,k<=j->j<ds.length->mM L (j*8) (au ds j) (s0 j)
 sub:∀ j,j<k->∃ m1 m2,gy (b j) m1 m2 (b (j+1)) (ss j) (au ds j).pg (au ds j).po (au ds j).fr W
 gb:g<b 0
 hi:b k<=W.heap.size
variable {g k : Nat} {b : Nat → Nat} {ds : List ak} {s0 ss : Nat → aA} {L : List Value} {w W W' : World}
theorem ov.below (h:ov g b ds s0 ss k L W) (hb:aj W W'):ov g b ds s0 ss k L W':=⟨h.len,h.iT.below hb,h.new,h.Mh,fun j hj=>by obtain ⟨m1,m2,q⟩:=h.sub j hj;exact ⟨m1,m2,q.below hb⟩,h.gb,bt h.hi hb.size⟩
theorem Jh (h:ov g b ds s0 ss k L W):∀ j,j<=k->b 0<=b j
 | 0,_=>aq _
 | j+1,hj=>by have:=Jh h j (by omega);obtain ⟨m1,m2,q⟩:=h.sub j (by omega);have:=q.le;omega
theorem Qx (W:World) (g o:Nat) (d:ak) (s:aA):jH g (g+1) W (jG W g o d s):=by unfold jG;exact ((((((((jH.refl _ _ W).set (p:=⟨g,o,none⟩) (aq _) (gn _) _).set (p:=⟨g,o+1,none⟩) (aq _) (gn _) _).set (p:=⟨g,o+2,none⟩) (aq _) (gn _) _).set (p:=⟨g,o+3,none⟩) (aq _) (gn _) _).set (p:=⟨g,o+4,none⟩) (aq _) (gn _) _).set (p:=⟨g,o+5,none⟩) (aq _) (gn _) _).set (p:=⟨g,o+6,none⟩) (aq _) (gn _) _).set (p:=⟨g,o+7,none⟩) (aq _) (gn _) _
theorem Qy {L:List Value} {o x:Nat} {d e:ak} {s t:aA} (hx:x+7<o\/o+7<x) (h:mM L x e t):mM (sI L o d s) x e t:=by unfold mM at h ⊢;obtain ⟨h0,h1,h2,h3,h4,h5,h6,h7⟩:=h;exact ⟨(vn (by omega)).trans h0,(vn (by omega)).trans h1,(vn (by omega)).trans h2,(vn (by omega)).trans h3,(vn (by omega)).trans h4,(vn (by omega)).trans h5,(vn (by omega)).trans h6,(vn (by omega)).trans h7⟩
theorem ov.step {lo m1 m2 hi:Nat} {q:aA} (h:ov g b ds s0 ss k L W) (hk:k<ds.length) (hl:gy lo m1 m2 hi q (au ds k).pg (au ds k).po (au ds k).fr W) (hlo:b k<=lo) (hh:hi<=W.heap.size):ov g (fun j=>if j<=k then b j else hi) ds s0 (fun j=>if j=k then q else ss j) (k+1) (sI L (k*8) (au ds k) q) (jG W g (k*8) (au ds k) q):=by
 have hlen:=h.len;have ht:=Qx W g (k*8) (au ds k) q;have hgb:=h.gb;refine ⟨by rw[aaA];exact hlen,aaC h.iT,fun j hj=>?_,fun j hj hj2=>?_,fun j hj=>?_,?_,?_⟩
 ·by_cases e:j=k
  ·subst e;have:=aaB L (j*8) (au ds j) q (by omega);simpa using this
  have:=Qy (o:=k*8) (d:=au ds k) (s:=q) (Or.inl (by omega)) (h.new j (by omega));simpa [e] using this
 ·exact Qy (Or.inr (by omega)) (h.Mh j (by omega) hj2)
 ·by_cases e:j=k
  ·subst e;have hb0:=Jh h j (aq _);have hle:=hl.le;have h1:gy (b j) m1 m2 hi q (au ds j).pg (au ds j).po (au ds j).fr W:=⟨hl.p1.mono hlo (aq _),hl.p2,hl.p3,by omega⟩;refine ⟨m1,m2,?_⟩;have h2:=h1.wh ht (Or.inr (by omega));have e2:¬ j+1<=j:=by omega
   simpa [e2] using h2
  obtain ⟨n1,n2,hq⟩:=h.sub j (by omega);have hb0:=Jh h j (by omega);refine ⟨n1,n2,?_⟩;have h2:=hq.wh ht (Or.inr (by omega));have e1:j<=k:=by omega
  have e2:j+1<=k:=by omega
  simpa [e,e1,e2] using h2
 ·simpa using hgb
 have e:¬ k+1<=k:=by omega
 simp only[e,if_false];exact bt hh ht.size
structure xo (g:Nat) (b:Nat->Nat) (ds:List ak) (ss:Nat->aA) (L:List Value) (W:World):Prop where
 len:L.length=ds.length*8
 iT:av g L W
 at_:∀ j,j<ds.length->mM L (j*8) (au ds j) (ss j)
 sub:∀ j,j<ds.length->∃ m1 m2,gy (b j) m1 m2 (b (j+1)) (ss j) (au ds j).pg (au ds j).po (au ds j).fr W
 gb:g<b 0
 hi:b ds.length<=W.heap.size
theorem xo.below (h:xo g b ds ss L W) (hb:aj W W'):xo g b ds ss L W':=⟨h.len,h.iT.below hb,h.at_,fun j hj=>by obtain ⟨m1,m2,q⟩:=h.sub j hj;exact ⟨m1,m2,q.below hb⟩,h.gb,bt h.hi hb.size⟩
theorem aba (h:ov g b ds s0 ss ds.length L W):xo g b ds ss L W:=⟨h.len,h.iT,h.new,h.sub,h.gb,h.hi⟩
theorem xo.eN (h:xo g b ds ss L W):aZ W (some ⟨g,0,none⟩) ds ss:=by
 refine ⟨Or.inr ⟨g,0,rfl,h.iT.lt,fun j hj=>?_⟩,fun j hj=>?_⟩
 ·rw[cR];exact BW h.iT (h.at_ j hj)
 obtain ⟨m1,m2,q⟩:=h.sub j hj;exact q.lists
def fS (lo:Nat) (a:Option Addr) (ds:List ak) (W:World):Prop:=ds=[]\/∃ g b ss L,a=some ⟨g,0,none⟩/\lo<=g/\xo g b ds ss L W
theorem fS.below {lo:Nat} {a:Option Addr} (h:fS lo a ds W) (hb:aj W W'):fS lo a ds W':=h.imp id fun ⟨g,b,ss,L,e,h1,h2⟩=>⟨g,b,ss,L,e,h1,h2.below hb⟩
theorem fS.eN {lo:Nat} {a:Option Addr} (h:fS lo a ds W):∃ ss,aZ W a ds ss:=by
 rcases h with rfl | ⟨g,b,ss,L,rfl,h1,h2⟩;·exact ⟨fun _=>Qi,Or.inl rfl,fun j hj=>by simp at hj⟩
 exact ⟨ss,h2.eN⟩
theorem fS.set {lo B:Nat} {a:Option Addr} (h:fS lo a ds W) (hB:B<lo) (j:Nat) (v:Value):fS lo a ds (W.setCell ⟨B,j,none⟩ v):=by
 rcases h with h | ⟨g,b,ss,L,e,h1,h2⟩;·exact Or.inl h
 have ht:jH B (B+1) W (W.setCell ⟨B,j,none⟩ v):=(jH.refl _ _ W).set (p:=⟨B,j,none⟩) (aq _) (gn _) v;have hgb:=h2.gb;have hb0:∀ i,i<=ds.length->b 0<=b i:=fun i=>by
  induction i with
  | zero=>intro _;exact aq _
  | succ i ih=>
   intro hi;have:=ih (by omega);obtain ⟨m1,m2,q⟩:=h2.sub i (by omega);have:=q.le;omega
 refine Or.inr ⟨g,b,ss,L,e,h1,h2.len,h2.iT.aR (by omega) j v,h2.at_,fun i hi=>?_,hgb,bt h2.hi ht.size⟩;obtain ⟨m1,m2,q⟩:=h2.sub i hi;have:=hb0 i (by omega);exact ⟨m1,m2,q.wh ht (Or.inr (by omega))⟩
def pX (k:aL) (w:World) (e:Ending) (w':World):Prop:=∃ a' c',e=.returned (aU k a' c')/\fS w.heap.size a' k.ds w'/\aj w w'
def abb (k:aL) (w:World) (e:Ending) (w':World):Prop:=∃ a' c',e=.returned (aU k a' c')/\fS w.heap.size a' k.ds w'/\aj w w'/\k.ds.length<=c'/\c'<=maxLen
def lp (lo:Nat) (a:Option Addr) (c:Nat) (W:World):Prop:=W.ownsRow lo 49 8 (.slice a 0 c) 0 []
theorem lp.below {lo c:Nat} {a:Option Addr} {W W':World} (h:lp lo a c W) (hb:aj W W'):lp lo a c W':=uO h hb
theorem lp.set {lo c B:Nat} {a:Option Addr} {W:World} (h:lp lo a c W) (hB:B<lo) (j:Nat) (v:Value):lp lo a c (W.setCell ⟨B,j,none⟩ v):=H7 h (a:=⟨B,j,none⟩) hB v
theorem lp.mono {lo lo' c:Nat} {a:Option Addr} {W:World} (h:lp lo a c W) (hl:lo'<=lo):lp lo' a c W:=⟨h.1,h.2.imp id fun ⟨g,c,cur,hv,hg,r⟩=>⟨g,c,cur,hv,bt hl hg,r⟩⟩
def abc (k:aL) (w:World) (e:Ending) (w':World):Prop:=∃ a' c',e=.returned (aU k a' c')/\fS w.heap.size a' k.ds w'/\aj w w'/\k.ds.length<=c'/\c'<=maxLen/\(k.ds=[]->lp w.heap.size a' c' w')
def xp (ds:List ak):Prop:=∀ j,j<ds.length->(au ds j).pg.length<=1048576/\(au ds j).po.length<=1048576/\(au ds j).fr.length<=1048576/\(au ds j).rc.size<=1048576/\(au ds j).aH.size<=1048576
abbrev df:Obj:=.cells #[.string ⟨#[]⟩,.string ⟨#[]⟩,.slice none 0 0,.int .i64 0] 28
abbrev cJ (k:aL) (a:Option Addr) (c:Nat):Obj:=.cells #[.string k.mem,.string k.ay,.slice a k.ds.length c,.int .i64 k.ck] 28
structure tR (w:World) (k:aL) (a:Option Addr) (c:Nat) (W:World):Prop where
 box:av w.heap.size (cU k a c) W
 res:av (w.heap.size+1) gV W
 ah:aj w W
variable {K : aL} {a : Option Addr} {c : Nat}
theorem tR.below (h:tR w K a c W) (hb:aj W W'):tR w K a c W':=⟨h.box.below hb,h.res.below hb,h.ah.trans (hb.mono h.ah.size)⟩
theorem tR.keep {B:Nat} (h:tR w K a c W) (hb:Below B W W') (hB:w.heap.size+2<=B):tR w K a c W':=⟨fQ h.box hb (by omega),fQ h.res hb (by omega),h.ah.trans (hb.mono (by omega))⟩
theorem abd (w:World) (k:aL) (a:Option Addr) (c:Nat):tR w k a c ((w.alloc (cJ k a c)).alloc df):=⟨(bu (cU k a c) w 28).alloc _,gH gV _ 28 (by simp),((aK _ _).alloc (aq _) _).alloc (by simp) _⟩
theorem abe (k:aL) (a:Option Addr) (c:Nat) (s0:Nat->aA) (w:World) (hm:k.mem.size<=281474976710656) (hd:k.ay.size<=281474976710656) (hn:k.ds.length<=1048576) (hz:xp k.ds) (hR:aZ w a k.ds s0):Calls prog 64 #[aU k a c] w (abc k w):=by
 have t0:=abd w k a c;have c2:=t0.box.c2;have tc:Hid (∀ W,aj w W->aZ W a k.ds s0):=fun W hb=>hR.below hb;have hcl:=aa9 a c k.ds s0 _ hn (tc.out _ t0.ah).row;obtain ⟨W0,hW0⟩:∃ W0,(w.alloc (cJ k a c)).alloc df=W0:=⟨_,rfl⟩;rw[hW0] at t0 c2 hcl;have fW:=t0.res.lt;clear hR;have HZ:Hid (xp k.ds):=hz;clear hz;go_enter func64,ntmps64;go_wp2_with (go_at_call 126;refine hcl.mono ?_;rintro e w1 ⟨a1,c1,rfl,h1,b1,hcap,hcm,hc0⟩;have t1:=t0.below b1);have H1:Hid ((k.ds=[]/\lp (w.heap.size+2) a1 c1 w1)\/(k.ds ≠ []/\∃ g b ss L,a1=some ⟨g,0,none⟩/\W0.heap.size<=g/\ov g b k.ds s0 ss 0 L w1)):=by
  by_cases h0:k.ds=[];·exact Or.inl ⟨h0,lp.mono (hc0 h0) fW⟩
  rcases h1 with h | ⟨g,e,hg,hk⟩;·exact absurd h h0
  exact Or.inr ⟨h0,g,fun _=>w1.heap.size,s0,cX k.ds s0,e,hg,ou _ _,hk,fun j hj=>absurd hj (tF _),fun j _ hj=>zD _ _ j hj,fun j hj=>absurd hj (tF _),hk.lt,aq _⟩
 clear h1 t0 c2 hcl hc0;go_loopw [11] (fun i w'=>∃ j:Nat,j<=k.ds.length/\i=ad j/\tR w k a c w'/\Hid ((k.ds=[]/\lp (w.heap.size+2) a1 c1 w')\/(k.ds ≠ []/\∃ g b ss L,a1=some ⟨g,0,none⟩/\W0.heap.size<=g/\ov g b k.ds s0 ss j L w'))) (fun i _=>k.ds.length-(intOf i).toNat);case atStart=>exact ⟨0,aS _,rfl,t1,H1⟩
 case round=>
 obtain ⟨j,hj,rfl,hbx,gy⟩:=hrel;clear H1 t1;by_cases hlt:j<k.ds.length
 ·obtain ⟨g,b,ss,L,rfl,hg,CS⟩:∃ g b ss L,a1=some ⟨g,0,none⟩/\W0.heap.size<=g/\ov g b k.ds s0 ss j L wr:=by
   rcases gy.out with ⟨h,-⟩ | ⟨-,h⟩;·rw[h] at hlt;simp at hlt
   exact h
  clear gy;obtain ⟨y0,y1,y2,y3,y4,y5,y6,y7⟩:=BW CS.iT (CS.Mh j (aq _) hlt);obtain ⟨z1,z2,z3,z4,z5⟩:=HZ.out j hlt;have ls:=(tc.out _ (hbx.ah.trans ((aB wr (vp (au k.ds j) (s0 j))).mono hbx.ah.size))).sub j hlt;have HS:Hid (∀ lo m1 m2 hi q W,ov g b k.ds s0 ss j L W->gy lo m1 m2 hi q (au k.ds j).pg (au k.ds j).po (au k.ds j).fr W->b j<=lo->hi<=W.heap.size->ov g (fun i=>if i<=j then b i else hi) k.ds s0 (fun i=>if i=j then q else ss i) (j+1) (sI L (j*8) (au k.ds j) q) (jG W g (j*8) (au k.ds j) q)):=fun lo m1 m2 hi q W h1 h2 h3 h4=>h1.step hlt h2 h3 h4
  have e1:(0:Int)<=(j:Int):=by omega
  have e2:(j:Int)<(k.ds.length:Int):=by omega
  have hlen:=CS.len;have hbj:=CS.hi;obtain ⟨d,ed⟩:∃ d,au k.ds j=d:=⟨_,rfl⟩;obtain ⟨s,es⟩:∃ s,s0 j=s:=⟨_,rfl⟩;rw[ed,es] at ls;rw[ed] at y0 y1 y2 y3 y4 y5 y6 y7 z1 z2 z3 z4 z5 HS;rw[es] at y4 y6 y7;have nb:=aB wr (vp d s);have hcp:=aa7 d s _ z1 z2 z3 (by omega) (by omega) ls;clear ed es tc HZ ls;go_wp2_with (go_at_call 127;refine hcp.mono ?_;rintro e w2 ⟨q,m1,m2,hi,rfl,hl,hh,b2⟩;have L2:=(CS.below nb).below b2;have B2:=(hbx.below nb).below b2;have lM:=L2.iT;obtain ⟨x0,q0⟩:∃ x,af w2 g (j*8) x:=⟨_,lM.cell (j*8) (by omega)⟩;have f0:=lM.free (j*8) (by omega);obtain ⟨x1,q1⟩:∃ x,af w2 g (j*8+1) x:=⟨_,lM.cell (j*8+1) (by omega)⟩;have f1:=lM.free (j*8+1) (by omega);obtain ⟨x2,q2⟩:∃ x,af w2 g (j*8+2) x:=⟨_,lM.cell (j*8+2) (by omega)⟩;have f2:=lM.free (j*8+2) (by omega);obtain ⟨x3,q3⟩:∃ x,af w2 g (j*8+3) x:=⟨_,lM.cell (j*8+3) (by omega)⟩;have f3:=lM.free (j*8+3) (by omega);obtain ⟨x4,q4⟩:∃ x,af w2 g (j*8+4) x:=⟨_,lM.cell (j*8+4) (by omega)⟩;have f4:=lM.free (j*8+4) (by omega);obtain ⟨x5,q5⟩:∃ x,af w2 g (j*8+5) x:=⟨_,lM.cell (j*8+5) (by omega)⟩;have f5:=lM.free (j*8+5) (by omega);obtain ⟨x6,q6⟩:∃ x,af w2 g (j*8+6) x:=⟨_,lM.cell (j*8+6) (by omega)⟩;have f6:=lM.free (j*8+6) (by omega);obtain ⟨x7,q7⟩:∃ x,af w2 g (j*8+7) x:=⟨_,lM.cell (j*8+7) (by omega)⟩;have f7:=lM.free (j*8+7) (by omega));go_roundw;case rel=>exact ⟨j+1,by omega,by go_num,B2.keep ((Qx w2 g (j*8) d q).below (b:=g) (aq _) (iH lM.lt)) (by omega),Or.inr ⟨fun h=>by rw[h] at hlt;simp at hlt,g,_,_,_,rfl,hg,HS.out _ m1 m2 hi q w2 L2 hl (bt hbj nb.size) hh⟩⟩
  case measure=>simp[intOf];omega
 obtain rfl:j=k.ds.length:=by omega
 have HO:Hid (fS (w.heap.size+2) a1 k.ds wr):=by
  rcases gy.out with ⟨h,-⟩ | ⟨-,g,b,ss,L,e,hg,h⟩;·exact Or.inl h
  exact Or.inr ⟨g,b,ss,L,e,by omega,aba h⟩
 have HE:Hid (k.ds=[]->∀ W,aj wr.drew W->lp (w.heap.size+2) a1 c1 W):=fun hx W hb=>by
  rcases gy.out with ⟨_,h⟩ | ⟨e,-⟩;·exact (lp.below h ((aK _ _).drew)).below hb
  exact absurd hx e
 clear gy tc HZ;have dx:=hbx.below ((aK _ _).drew);have HD:Hid (∀ W,_):=fun W=>ON k.mem k.ay W hm hd;have HO2:Hid (∀ W,aj wr.drew W->fS (w.heap.size+2) a1 k.ds W):=fun W hb=>(HO.out.below ((aK _ _).drew)).below hb;have HS:Hid (∀ W,tR w k a c W->af W w.heap.size 0 (.string k.mem)/\af W w.heap.size 1 (.string k.ay)/\af W w.heap.size 3 (ad k.ck)):=fun W h=>⟨h.box.c0,h.box.c1,h.box.c3⟩;have s0':=HS.out _ dx;go_wp2;go_region_held3 (fun W=>af W w.heap.size 0 (.string k.mem)/\af W w.heap.size 1 (.string k.ay)/\af W w.heap.size 3 (ad k.ck)) (assumption) ((go_at_call 128;refine (HD.out _).mono ?_;rintro e w2 ⟨rfl,b2⟩;have B2:=dx.below b2;have s2:=HS.out _ B2;have O2:=HO2.out _ b2;have r0:=B2.res.c0;have r1:=B2.res.c1;have r2:=B2.res.c2;have r3:=B2.res.c3;have f0:=B2.res.f0;have f1:=B2.res.f1;have f2:=B2.res.f2;have f3:=B2.res.f3;have Vo:((((w2.setCell ⟨w.heap.size+1,0,none⟩ (.string k.mem)).setCell ⟨w.heap.size+1,1,none⟩ (.string k.ay)).setCell ⟨w.heap.size+1,2,none⟩ (.slice a1 k.ds.length c1)).setCell ⟨w.heap.size+1,3,none⟩ (ad k.ck)).cell? ⟨w.heap.size,0,none⟩=some (.string k.mem)/\((((w2.setCell ⟨w.heap.size+1,0,none⟩ (.string k.mem)).setCell ⟨w.heap.size+1,1,none⟩ (.string k.ay)).setCell ⟨w.heap.size+1,2,none⟩ (.slice a1 k.ds.length c1)).setCell ⟨w.heap.size+1,3,none⟩ (ad k.ck)).cell? ⟨w.heap.size,1,none⟩=some (.string k.ay)/\((((w2.setCell ⟨w.heap.size+1,0,none⟩ (.string k.mem)).setCell ⟨w.heap.size+1,1,none⟩ (.string k.ay)).setCell ⟨w.heap.size+1,2,none⟩ (.slice a1 k.ds.length c1)).setCell ⟨w.heap.size+1,3,none⟩ (ad k.ck)).cell? ⟨w.heap.size,3,none⟩=some (ad k.ck):=(by have hb:=(((B2.box.aR (B':=w.heap.size+1) (by omega) 0 (.string k.mem)).aR (B':=w.heap.size+1) (by omega) 1 (.string k.ay)).aR (B':=w.heap.size+1) (by omega) 2 (.slice a1 k.ds.length c1)).aR (B':=w.heap.size+1) (by omega) 3 (ad k.ck);exact ⟨hb.c0,hb.c1,hb.c3⟩)))
 all_goals
  go_wp2;have q:=B2.res.eU (.string k.mem) (.string k.ay) (.slice a1 k.ds.length c1) (ad k.ck);have v0:=q.c0;have v1:=q.c1;have v2:=q.c2;have v3:=q.c3;have O3:=(((O2.set (B:=w.heap.size+1) (by omega) 0 (.string k.mem)).set (B:=w.heap.size+1) (by omega) 1 (.string k.ay)).set (B:=w.heap.size+1) (by omega) 2 (.slice a1 k.ds.length c1)).set (B:=w.heap.size+1) (by omega) 3 (ad k.ck);refine bL (v:=aU k a1 c1) (by simp[results,results64,go_sem,v0,v1,v2,v3]) rfl ⟨a1,c1,rfl,?_,?_,hcap,hcm,fun hx=>((((HE.out hx _ b2).set (B:=w.heap.size+1) (by omega) 0 _).set (B:=w.heap.size+1) (by omega) 1 _).set (B:=w.heap.size+1) (by omega) 2 _).set (B:=w.heap.size+1) (by omega) 3 _ |>.mono (by omega)⟩;·exact O3.imp id fun ⟨g,b,ss,L,e,h1,h2⟩=>⟨g,b,ss,L,e,by omega,h2⟩
  ·exact (((B2.ah.setCell (p:=⟨w.heap.size+1,0,none⟩) (bP _) _).setCell (p:=⟨w.heap.size+1,1,none⟩) (bP _) _).setCell (p:=⟨w.heap.size+1,2,none⟩) (bP _) _).setCell (p:=⟨w.heap.size+1,3,none⟩) (bP _) _
theorem abf (k:aL) (a:Option Addr) (c:Nat) (s0:Nat->aA) (w:World) (hm:k.mem.size<=281474976710656) (hd:k.ay.size<=281474976710656) (hn:k.ds.length<=1048576) (hz:xp k.ds) (hR:aZ w a k.ds s0):Calls prog 64 #[aU k a c] w (abb k w):=(abe k a c s0 w hm hd hn hz hR).mono fun e w' ⟨a',c',h1,h2,h3,h4,h5,_⟩=>⟨a',c',h1,h2,h3,h4,h5⟩
theorem Qz (k:aL) (a:Option Addr) (c:Nat) (s0:Nat->aA) (w:World) (hm:k.mem.size<=281474976710656) (hd:k.ay.size<=281474976710656) (hn:k.ds.length<=1048576) (hz:xp k.ds) (hR:aZ w a k.ds s0):Calls prog 64 #[aU k a c] w (pX k w):=(abf k a c s0 w hm hd hn hz hR).mono fun e w' ⟨a',c',h1,h2,h3,_⟩=>⟨a',c',h1,h2,h3⟩
end
def vt (a b:ByteArray) (k:Nat):Bool:=(aO a ((k:Int)*8) 8).toList == (aO b ((k:Int)*8) 8).toList
def fg (a b:ByteArray) (k:Nat):List Int:=((List.range k).filter fun j=>!vt a b j).map fun (j:Nat)=>(j:Int)
def tS (a b:ByteArray):List Int:=if cT a b then fg a b 96 else []
theorem abg {a b:ByteArray} {k:Nat} (h:vt a b k=true):fg a b (k+1)=fg a b k:=by simp[fg,wF,uL,h]
theorem abh {a b:ByteArray} {k:Nat} (h:vt a b k=false):fg a b k ++ [(k:Int)]=fg a b (k+1):=by simp[fg,wF,uL,h]
theorem QA (a b:ByteArray) (k:Nat):(fg a b k).length<=k:=by have:=DZ (fun j=>!vt a b j) (List.range k);simpa [fg] using this
def zF (a b:ByteArray) (w:World) (e:Ending) (w':World):Prop:=∃ p c,e=.returned (.slice p (tS a b).length c)/\aQ w.heap.size w' p (tS a b)/\(tS a b).length<=c/\Below w.heap.size w w'
theorem abi {a b:ByteArray} {w w':World} {p:Option Addr} {c:Nat} (h:cT a b=false) (hb:Below w.heap.size w w'):zF a b w (.returned (.slice p 0 c)) w':=by
 have hd:tS a b=[]:=by rw[tS,h];rfl
 exact ⟨p,c,by rw[hd];rfl,by rw[hd];exact Or.inl rfl,by rw[hd];exact aS _,hb⟩
theorem abj {a b:ByteArray} {w w':World} {p:Option Addr} {n c:Nat} (h:cT a b=true) (hn:n=(fg a b 96).length) (ho:aQ w.heap.size w' p (fg a b 96)) (hc:n<=c) (hb:Below w.heap.size w w'):zF a b w (.returned (.slice p n c)) w':=by
 have hd:tS a b=fg a b 96:=by rw[tS,h];rfl
 subst hn;exact ⟨p,c,by rw[hd],by rw[hd];exact ho,by rw[hd];exact hc,hb⟩
theorem QB (a b:ByteArray) (w:World) (ha:a.size<=281474976710656) (hb:b.size<=281474976710656):Calls prog 69 #[.agg #[.string a,.string b]] w (zF a b w):=by
 have CX:a.size<=maxLen:=by unfold maxLen;omega
 have hmb:b.size<=maxLen:=by unfold maxLen;omega
 have HN:Hid (∀ p c w',cT a b=false->Below w.heap.size w w'->zF a b w (.returned (.slice p 0 c)) w'):=fun p c w' h hb=>abi h hb;have HY:Hid (∀ p n c w',cT a b=true->n=(fg a b 96).length->aQ w.heap.size w' p (fg a b 96)->n<=c->Below w.heap.size w w'->zF a b w (.returned (.slice p n c)) w'):=fun p n c w' h1 hn ho hc hb=>abj h1 hn ho hc hb;obtain ⟨R,hR⟩:∃ R,zF a b w=R:=⟨_,rfl⟩;rw[hR] at HN HY ⊢;clear hR;have k0:=(bu [.string a,.string b] w 25).alloc (.cells #[] 3);have b0:=fq (base:=w.heap.size+1) (w.alloc (.cells #[.string a,.string b] 25)) (by simp);have l0:=(aB w (.cells #[.string a,.string b] 25)).alloc (by simp) (.cells #[] 3);have hdv:Hid (∀ W,_):=fun W=>IF a b W CX hmb;by_cases hok:cT a b=true
 ·rw[hok] at hdv;go_enter func69,ntmps69;go_wp2;go_loopw [3,4] (fun v i w'=>∃ (k n c:Nat) (p:Option Addr),k<=96/\i=.int .i64 (k:Int)/\v=.slice p n c/\bo (w.heap.size+1) w' p n c (fg a b k)/\av w.heap.size [.string a,.string b] w'/\Below w.heap.size w w') (fun _ i _=>96-(intOf i).toNat);case atStart=>exact ⟨0,0,0,_,aS _,rfl,rfl,by simpa [fg] using b0,k0,l0⟩
  case round=>
  obtain ⟨k,n,c,p,hk,rfl,rfl,hbuf,hblk,hbel⟩:=hrel;clear b0 k0 l0;by_cases hlt:k<96
  ·have e1:(k:Int)<96:=by omega
   have x0:=hblk.cell 0 (by simp);have x1:=hblk.cell 1 (by simp);simp only[eQ,fP] at x0 x1;have hwr:IntKind.i64.wrap ((k:Int)*8)=(k:Int)*8:=by rw[se];omega
   have wk:(Lit.int .i64 ((k:Int)*8)).wf=true:=Qf _ (by omega) (by omega);have hn:n<=96:=by rw[hbuf.1];have:=QA a b k;omega
   obtain ⟨W1,hW1⟩:∃ W1,wr.alloc (.cells #[.string a,.string b] 25)=W1:=⟨_,rfl⟩;have u1:=hbuf.alloc (.cells #[.string a,.string b] 25);have k1:=hblk.alloc (.cells #[.string a,.string b] 25);have f1:=hbel.alloc hbel.size (.cells #[.string a,.string b] 25);have s1:w.heap.size+1<=W1.heap.size:=by rw[<- hW1];have:=hbel.size;simp;omega
   have hdk:Hid (Calls prog 25 #[.agg #[.string a,.string b]] wr fun e w'=>e=.returned (.bool true)/\w'=W1):=by have:=hdv.out wr;rw[hW1] at this;exact this
   rw[hW1] at u1 k1 f1;have y0:=k1.cell 0 (by simp);have y1:=k1.cell 1 (by simp);simp only[eQ,fP] at y0 y1;have hpt:Hid (∀ (s:ByteArray) W,s.size<=maxLen->Calls prog 78 #[.string s,.int .i64 ((k:Int)*8),.int .i64 8] W fun e w'=>e=.returned (.string (aO s ((k:Int)*8) 8))/\W=w'):=fun s W hs=>(np _ _ _ _ hs wk rfl).mono fun _ _ h=>⟨h.1,h.2.symm⟩;have HQ:Hid (vt a b k=((aO a ((k:Int)*8) 8).toList == (aO b ((k:Int)*8) 8).toList)):=rfl;have hS0:W1.drew.cell? ⟨w.heap.size,0,none⟩=some (.string a)/\W1.drew.cell? ⟨w.heap.size,1,none⟩=some (.string b):=⟨y0,y1⟩;clear hdv hW1 hbuf hblk;by_cases hs:((aO a ((k:Int)*8) 8).toList == (aO b ((k:Int)*8) 8).toList)=true
   ·have HS:Hid (fg a b (k+1)=fg a b k):=abg (by rw[HQ.out];exact hs);go_wp2_with (go_at_call 25;refine hdk.out.mono ?_;rintro e w1 ⟨rfl,rfl⟩);go_region_held3 (fun W=>W.cell? ⟨w.heap.size,0,none⟩=some (.string a)/\W.cell? ⟨w.heap.size,1,none⟩=some (.string b)) (assumption) ((go_at_call 78;refine (hpt.out _ _ (by assumption)).mono ?_;rintro e w3 ⟨rfl,rfl⟩))
    all_goals
     go_wp2;go_roundw;case rel=>exact ⟨k+1,n,c,p,by omega,by go_num,rfl,by rw[HS.out];exact u1.drewN 1,k1.drewN 1,cL f1 1⟩
     case measure=>simp[intOf];omega
   have hs':((aO a ((k:Int)*8) 8).toList == (aO b ((k:Int)*8) 8).toList)=false:=by simpa using hs
   have HS:Hid (fg a b k ++ [(k:Int)]=fg a b (k+1)):=abh (by rw[HQ.out];exact hs');clear hs;go_wp2_with (go_at_call 25;refine hdk.out.mono ?_;rintro e w1 ⟨rfl,rfl⟩);go_region_held3 (fun W=>W.cell? ⟨w.heap.size,0,none⟩=some (.string a)/\W.cell? ⟨w.heap.size,1,none⟩=some (.string b)) (assumption) ((go_at_call 78;refine (hpt.out _ _ (by assumption)).mono ?_;rintro e w3 ⟨rfl,rfl⟩))
   all_goals
    go_wp2_with (at_builtin;refine yY rfl (.tmp 25) (.tmp 27) rfl (u1.drewN 1) _ (by rfl) (by rfl) (by omega) s1 ?_;intro g1 ij w4 C9 tf);go_roundw;case rel=>exact ⟨k+1,n+1,ij,_,by omega,by go_num,rfl,by rw[<- HS.out];exact C9,fQ (k1.drewN 1) tf (by omega),(cL f1 1).trans (tf.mono (by omega))⟩
    case measure=>simp[intOf];omega
  obtain rfl:k=96:=by omega
  clear hdv;go_wp2;exact HY.out _ _ _ _ hok hbuf.1 (hbuf.own.mono (by omega)) hbuf.fits hbel
 have hok':cT a b=false:=by simpa using hok
 rw[hok'] at hdv;go_enter func69,ntmps69;go_wp2;have x0:=k0.cell 0 (by simp);have x1:=k0.cell 1 (by simp);simp only[eQ,fP] at x0 x1;obtain ⟨W0,hW0⟩:∃ W0,(w.alloc (.cells #[.string a,.string b] 25)).alloc (.cells #[] 3)=W0:=⟨_,rfl⟩;rw[hW0] at x0 x1 l0 ⊢;clear hW0 k0 b0;go_loopw [3,4] (fun v i w'=>i=.int .i64 0/\(∃ p,v=.slice p 0 0)/\w'=W0) (fun _ _ _=>0);case atStart=>exact ⟨rfl,⟨_,rfl⟩,rfl⟩
 case round=>
 obtain ⟨rfl,⟨p,rfl⟩,rfl⟩:=hrel;have f1:=l0.alloc l0.size (.cells #[.string a,.string b] 25);go_wp2_with (go_at_call 25;refine (hdv.out _).mono ?_;rintro e w1 ⟨rfl,rfl⟩);exact HN.out _ _ _ hok' f1
section
open Go.Shelf
theorem abk {a b:ByteArray} {k:Nat} (ha:a.size=768) (hb:b.size=768) (hk:k<96):vt a b k=decide (cI a.data.toList k=cI b.data.toList k):=by
 rw[vt,EF a k ha hk,EF b k hb hk,pH,pH];by_cases h:cI a.data.toList k=cI b.data.toList k;·simp[h]
 simp[h]
variable {w W V : World} {G f : Nat} {la lb : List UInt8} {zs : List Int}
end
section
open Go.Shelf
attribute [local go_sem] Xc
end
def iC (l:List Int) (x:Int):Bool:=l.contains x
theorem Ji (zs:List Int) (k:Nat) (h:k<zs.length):zs.getD k 0=zs[k]:=by simp[List.getD,h]
theorem Jj (zs:List Int) (k:Nat) (x:Int) (h:k<zs.length):iC (zs.take (k+1)) x=(iC (zs.take k) x || x == zs.getD k 0):=by unfold iC;rw[kr h,Np,Np,Nq,Ji _ _ h];simp
theorem abl {zs:List Int} {k n:Nat} (hk:k<n) (hn:n<=zs.length):iC (zs.take n) (zs.getD k 0)=true:=by unfold iC;rw[Nr];rw[Ji _ _ (by omega)];exact uK.2 ⟨k,by simp;omega,by simp⟩
theorem QC {a b:Bool} (h:a=b):Ending.returned (.bool a)=.returned (.bool b):=by rw[h]
theorem abm (b off n c:Nat) (zs:List Int) (x:Int) (w:World) (hz:n<=zs.length) (hbig:n<=281474976710656) (hc:∀ j,j<zs.length->w.cell? ⟨b,off+j,none⟩=some (.int .i64 (zs.getD j 0))):Calls prog 70 #[.slice (some ⟨b,off,none⟩) n c,.int .i64 x] w fun e w'=>e=.returned (.bool (iC (zs.take n) x))/\w'=w:=by
 go_enter func70,ntmps70;go_wp2;go_loop [5] (fun i=>∃ k:Nat,k<=n/\iC (zs.take k) x=false/\i=.int .i64 k) (fun i=>n-(intOf i).toNat)
 case atStart=>exact ⟨0,aS _,rfl,rfl⟩
 case round=>
 obtain ⟨k,hk,hno,rfl⟩:=hrel;by_cases hlt:k<n
 ·have x1:=hc k (by omega);have hs:=Jj zs k x (by omega);have hin:=fun h:x=zs.getD k 0=>h ▸ abl (zs:=zs) hlt hz;obtain ⟨z,ez⟩:∃ z,zs.getD k 0=z:=⟨_,rfl⟩;rw[ez] at x1 hs hin;have e1:(0:Int)<=(k:Int):=by omega
  have e2:(k:Int)<(n:Int):=by omega
  by_cases h:z=x
  ·have h':(z == x)=true:=by simpa using h
   have HR:Hid (iC (zs.take n) x=true):=hin h.symm;clear h hs hin hno ez hc;go_wp2;go_ret;exact ⟨QC HR.out.symm,rfl⟩
  have h':(z == x)=false:=by simpa using h
  have HN:Hid (iC (zs.take (k+1)) x=false):=by rw[hs,hno,show (x == z)=false by simpa using fun q:x=z=>h q.symm];rfl
  clear h hs hin hno ez hc;go_wp2;go_round;case rel=>exact ⟨k+1,by omega,HN.out,by go_num⟩
  case measure=>simp[intOf];omega
 obtain rfl:k=n:=by omega
 have HN:Hid (iC (zs.take k) x=false):=hno;clear hno hc;go_wp2;go_ret;exact ⟨QC HN.out.symm,rfl⟩
theorem abn (a:Option Addr) (c:Nat) (x:Int) (w:World):Calls prog 70 #[.slice a 0 c,.int .i64 x] w fun e w'=>e=.returned (.bool false)/\w'=w:=by
 go_enter func70,ntmps70;go_wp2;go_loop [5] (fun i=>i=.int .i64 0) (fun i=>0)
 case atStart=>rfl
 case round=>
 obtain rfl:=hrel;go_wp2;go_ret;exact ⟨rfl,rfl⟩
theorem abo (a:Option Addr) (c:Nat) (zs:List Int) (x:Int) (w:World) (hbig:zs.length<=1048576) (hR:aI w a zs):Calls prog 70 #[.slice a zs.length c,.int .i64 x] w fun e w'=>e=.returned (.bool (iC zs x))/\w'=w:=by
 rcases hR with rfl | ⟨b,off,rfl,hb,hc⟩;·exact abn a c x w
 have:=abm b off zs.length c zs x w (aq _) (by omega) hc;rwa [ks] at this
theorem abp (a:Option Addr) (c:Nat) (zs:List Int) (x:Int) (w:World) (hbig:zs.length<=1048576) (hR:aI w a zs):Calls prog 131 #[.slice a zs.length c,.int .i64 x] w fun e w'=>e=.returned (.bool (iC zs x))/\w'=w:=by
 rcases hR with rfl | ⟨b,off,rfl,hb,hc⟩;·exact Tryz.slices_Contains_int_empty a c x w
 have:=Tryz.slices_Contains_int b off zs.length c zs x w (aq _) (by omega) hc;rwa [ks] at this
def ox (kept:List Int) (k:Nat):Bool:=iC kept (k:Int)
def eT (a b:ByteArray) (kept:List Int):ByteArray:=⟨(cK a.data.toList b.data.toList (ox kept)).toArray⟩
def vu (a b:ByteArray) (kept:List Int):ByteArray:=if cT a b then eT a b kept else a
def vv (a b:ByteArray) (kept:List Int):ByteArray:=if cT a b then eT a b kept else b
theorem abq (la lb:List UInt8) (p q:Nat->Bool) (ha:la.length=768) (hb:lb.length=768) (h:∀ k,k<96->p k=q k\/cI la k=cI lb k):cK la lb p=cK la lb q:=by
 apply H8;intro j hj;have hj':j<768:=by simpa using hj
 rcases h (j / 8) (by omega) with e | e;·rw[e]
 have h1:(cI la (j / 8))[j % 8]? = (cI lb (j / 8))[j % 8]?:=by rw[e]
 rw[BG (by omega),BG (by omega),show j / 8*8+j % 8=j by omega,va ha hj',va hb hj'] at h1;have h2:la.getD j 0=lb.getD j 0:=by simpa using h1
 rw[h2];split <;> split <;> rfl
def jr (Z kept:List Int) (i:Nat) (k:Nat):Bool:=iC (Z.take i) (k:Int) && iC kept (k:Int)
theorem QD {Z kept:List Int} {i q:Nat} (hi:i<Z.length) (hq:Z.getD i 0=(q:Int)):∀ k,k<96->k≠q->jr Z kept i k=jr Z kept (i+1) k:=by intro k _ hk;unfold jr;rw[Jj _ _ _ hi,hq,show ((k:Int) == (q:Int))=false by simp;omega,Bool.or_false]
theorem abr {Z kept:List Int} {i q:Nat} (hi:i<Z.length) (hq:Z.getD i 0=(q:Int)) (hk:iC kept (q:Int)=true):jr Z kept (i+1) q=true:=by unfold jr;rw[Jj _ _ _ hi,hq,hk,show ((q:Int) == (q:Int))=true by simp,Hv];rfl
theorem abt {Z kept:List Int} {i q:Nat} (hi:i<Z.length) (hq:Z.getD i 0=(q:Int)) (hk:iC kept (q:Int)=false):∀ k,k<96->jr Z kept i k=jr Z kept (i+1) k:=by
 intro k h96;by_cases e:k=q
 ·subst e;unfold jr;rw[hk,dU,dU]
 exact QD hi hq k h96 e
theorem QE {a b:ByteArray} {n:Nat} {x:Int}:x ∈ fg a b n ↔ ∃ k:Nat,k<n/\vt a b k=false/\x=(k:Int):=by
 simp only[fg,na,sg,mA];constructor
 ·rintro ⟨k,⟨h1,h2⟩,rfl⟩;exact ⟨k,h1,by simpa using h2,rfl⟩
 rintro ⟨k,h1,h2,rfl⟩;exact ⟨k,⟨h1,by simpa using h2⟩,rfl⟩
theorem abu {a b:ByteArray} {i:Nat} (hi:i<(fg a b 96).length):∃ q:Nat,q<96/\(fg a b 96).getD i 0=(q:Int):=by rw[Ji _ _ hi];obtain ⟨k,h1,_,h3⟩:=QE.1 (nQ hi);exact ⟨k,h1,h3⟩
theorem abv {a b:ByteArray} {kept:List Int} (ha:a.size=768) (hb:b.size=768):cK a.data.toList b.data.toList (jr (fg a b 96) kept (fg a b 96).length)=cK a.data.toList b.data.toList (ox kept):=by
 refine abq _ _ _ _ (by rw[<- cV];exact ha) (by rw[<- cV];exact hb) ?_;intro k hk;by_cases hs:cI a.data.toList k=cI b.data.toList k;·exact Or.inr hs
 left;have h1:iC (fg a b 96) (k:Int)=true:=by unfold iC;rw[Nr];exact QE.2 ⟨k,hk,by rw[abk ha hb hk];exact bq hs,rfl⟩
 rw[jr,ks,h1,fe];rfl
def zG (a b:ByteArray) (i:Int) (t:ByteArray):ByteArray:=nX a b i t
def Cd (a b:ByteArray) (i:Int) (t:ByteArray):ByteArray:=mf (nX a b i t) b i (t.size:Int)
theorem QF (a b:ByteArray) (i:Int) (t:ByteArray) (w:World) (ha:a.size<=281474976710656) (hb:b.size<=281474976710656) (ht:t.size<=1000) (wi:(Lit.int .i64 i).wf=true) (hs:(nX a b i t).size<=281474976710656):Calls prog 117 #[.agg #[.string a,.string b],ad i,.string t] w (aT (.agg #[.string (zG a b i t),.string (Cd a b i t)]) w):=by
 have n0:=aB w (.cells #[.string a,.string b] 25);have k0:=bu [.string a,.string b] w 25;have n1:=aB (w.alloc (.cells #[.string a,.string b] 25)) (.cells #[.string ⟨#[]⟩,.string ⟨#[]⟩] 25);have k1:av (w.heap.size+1) [.string ⟨#[]⟩,.string ⟨#[]⟩] ((w.alloc (.cells #[.string a,.string b] 25)).alloc (.cells #[.string ⟨#[]⟩,.string ⟨#[]⟩] 25)):=gH (B:=w.heap.size+1) [.string ⟨#[]⟩,.string ⟨#[]⟩] _ 25 (by simp);have b1:=n0.trans (n1.mono n0.size);have j0:=k0.below n1;have wt:(Lit.int .i64 (t.size:Int)).wf=true:=by simp[Lit.wf,IntKind.min,IntKind.max,IntKind.signed,IntKind.bits];omega
 have HS:Hid (∀ W,Calls prog 165 #[.agg #[.string a,.string b],ad i,.string t] W (aT (.agg #[.string (zG a b i t),.string b]) W)):=fun W=>OP a b i t W ha hb (by omega);have HF:Hid (∀ W,Calls prog 77 #[.agg #[.string (zG a b i t),.string b],ad i,ad (t.size:Int)] W (aT (.agg #[.string (zG a b i t),.string (Cd a b i t)]) W)):=fun W=>I8 (nX a b i t) b i t.size W hs hb wi wt;generalize zG a b i t=x at HS HF ⊢;generalize Cd a b i t=y at HF ⊢;have c0:=j0.c0;have c1:=j0.c1;clear wt hs wi n0 n1 k0;go_enter func117,ntmps117;go_wp2_with (first
  | (go_at_call 165;refine (HS.out _).mono ?_;rintro e w2 ⟨rfl,b2⟩;have k2:=k1.below b2;have l2:=b1.trans (b2.mono b1.size))
  | (go_at_call 77;refine (HF.out _).mono ?_;rintro e w3 ⟨rfl,b3⟩;have k3:=k2.below b3;have l3:=l2.trans (b3.mono l2.size);have e0:=k3.c0;have e1:=k3.c1;have f0:=k3.f0;have f1:=k3.f1))
 have q:=(k3.set 0 (.string x)).set 1 (.string y);simp only[jS,lX] at q;have r0:=q.c0;have r1:=q.c1;have bE:=(l3.setCell (p:=⟨w.heap.size+1,0,none⟩) (bP _) (.string x)).setCell (p:=⟨w.heap.size+1,1,none⟩) (bP _) (.string y);refine bL (v:=.agg #[.string x,.string y]) (by simp[results,results117,go_sem,r0,r1]) rfl ?_;exact ⟨rfl,bE⟩
theorem abw {P:Program} {md:Region.Mode} {ops:Array Oper} {Q:Exit->Act->World->Prop} {S:World->Prop} {n:Nat} {a:Act} {w:World} {i f:Nat} {o:Oper} {listed:Array Bool} {fuel:Nat} (hr:Region.ready md ops listed=[i]) (ho:ops[i]? = some o) (hw:Region.wanted o (yielded ops a.tmps)=true) (x y z:Operand) (ts:Array TypeId) (hop:o.op=.call { callee:=.value (.func f),args:=#[x,y,z],argTypes:=ts }) (v u1 u2:Value) (hx0:a.eval x=v) (hx1:a.eval y=u1) (hx2:a.eval z=u2) (eg:∀ args w,(callFunc f args).run P w=.ok (.enter f args) w) (hc:Calls P f #[v,u1,u2] w fun e w'=>∃ u,e=.returned u/\S w'/\fZ P md ops Q S n fuel (listed.setIfInBounds i true) (a.put o.dst u) w'):fZ P md ops Q S n (fuel+1) listed a w:=by
 refine wY hr (by simp) ?_;intro j hj;obtain rfl:j=i:=by simpa using hj
 unfold wpOp;rw[ho];refine gT hw (.inl ?_);have he:(execOp a.eval o).run P w=.ok (.enter f #[v,u1,u2]) w:=by subst hx0 hx1 hx2;simp[execOp,hop,resolve,go_sem,invoke,eg]
 unfold Oper.wp;rw[he];refine mC hc ?_;rintro e w' ⟨u,rfl,hS,h⟩;exact ⟨fun _=>hS,h⟩
theorem xt {P:Program} {md:Region.Mode} {ops:Array Oper} {Q:Exit->Act->World->Prop} {S:World->Prop} {n:Nat} {a:Act} {w w':World} {u:Value} {i:Nat} {o:Oper} {listed:Array Bool} {fuel:Nat} (hr:Region.ready md ops listed=[i]) (ho:ops[i]? = some o) (hw:Region.wanted o (yielded ops a.tmps)=true) (he:(execOp a.eval o).run P w=.ok (.value u) w') (hS:S w') (h:fZ P md ops Q S n fuel (listed.setIfInBounds i true) (a.put o.dst u) w'):fZ P md ops Q S n (fuel+1) listed a w:=by
 refine wY hr (by simp) ?_;intro j hj;obtain rfl:j=i:=by simpa using hj
 unfold wpOp;rw[ho];refine gT hw (.inl ?_);unfold Oper.wp;rw[he];exact ⟨fun _=>hS,h⟩
end Go.Proofs.YtidmmopnkjbjoaaGreatDoor
