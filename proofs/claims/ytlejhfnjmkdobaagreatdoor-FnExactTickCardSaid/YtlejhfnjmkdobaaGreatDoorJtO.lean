/- Joined texts. -/
import Derived.Test.YtlejhfnjmkdobaaGreatDoorJtM
set_option linter.unusedVariables false
set_option linter.unusedSimpArgs false
set_option maxRecDepth 10000
set_option maxHeartbeats 16000000
namespace Go.Proofs.YtlejhfnjmkdobaaGreatDoor
open ChangeShapes WideShapes ChangeAt RowKit
open Go.Proofs.Tryz
namespace D2
open N0 (Ln)
open N1 (Sl)
def newOk (mem:ByteArray) (d:Ln) (x:Int):Bool:=P0.has d.fr x && (G0.isI (O0.recd mem x) && (!decide (G0.gK (O0.recd mem x)=0) && (!(decide (G0.gK (O0.recd mem x)=2) && !decide (G0.gS (O0.recd mem x)=0)) && (decide (G0.gO (O0.recd mem x)=d.cl) && N0.among (G0.gZ (O0.recd mem x)) d.po))))
def Ans (mem:ByteArray) (d:Ln) (x:Int) (w:World) (e:Ending) (w':World):Prop:=
 ∃ (k o t:Int) (a:Option Addr) (n c:Nat),e=.returned (.tuple #[I0.val k o t a n c,.bool (newOk mem d x)])/\Bq w w'/\(newOk mem d x=true->n=(G0.gZ (O0.recd mem x)).length/\n<=c/\J0.Own w.heap.size w' a (G0.gZ (O0.recd mem x)))
theorem ans_no {mem:ByteArray} {d:Ln} {x:Int} {w w':World} {k o t:Int} {a:Option Addr} {n c:Nat} (h:newOk mem d x=false) (hb:Bq w w'):Ans mem d x w (.returned (.tuple #[I0.val k o t a n c,.bool false])) w':=
 ⟨k,o,t,a,n,c,by rw[h],hb,fun h'=>by rw[h] at h';cases h'⟩
theorem ans_yes {mem:ByteArray} {d:Ln} {x:Int} {w w':World} {k o t:Int} {a:Option Addr} {c:Nat} (h:newOk mem d x=true) (hb:Bq w w') (hc:(G0.gZ (O0.recd mem x)).length<=c) (ho:J0.Own w.heap.size w' a (G0.gZ (O0.recd mem x))):Ans mem d x w (.returned (.tuple #[I0.val k o t a (G0.gZ (O0.recd mem x)).length c,.bool true])) w':=
 ⟨k,o,t,a,_,c,by rw[h],hb,fun _=>⟨rfl,hc,ho⟩⟩
theorem new_cases (mem:ByteArray) (d:Ln) (x:Int) :
  (P0.has d.fr x=false/\newOk mem d x=false)\/(P0.has d.fr x=true/\G0.isI (O0.recd mem x)=false/\newOk mem d x=false)\/
  (P0.has d.fr x=true/\G0.isI (O0.recd mem x)=true/\(G0.gK (O0.recd mem x) == 0)=true/\newOk mem d x=false)\/
  (P0.has d.fr x=true/\G0.isI (O0.recd mem x)=true/\(G0.gK (O0.recd mem x) == 0)=false/\(G0.gK (O0.recd mem x) == 2)=true/\(G0.gS (O0.recd mem x) != 0)=true/\newOk mem d x=false)\/
  (P0.has d.fr x=true/\G0.isI (O0.recd mem x)=true/\(G0.gK (O0.recd mem x) == 0)=false/\((G0.gK (O0.recd mem x) == 2)=true/\(G0.gS (O0.recd mem x) != 0)=false\/(G0.gK (O0.recd mem x) == 2)=false)/\newOk mem d x=((G0.gO (O0.recd mem x) == d.cl) && N0.among (G0.gZ (O0.recd mem x)) d.po)):=by
 unfold newOk
 cases h1:P0.has d.fr x with
 | false=>exact Or.inl ⟨rfl,Bool.false_and _⟩
 | true=>
  right
  rw[Bool.true_and]
  cases h2:G0.isI (O0.recd mem x) with
  | false=>exact Or.inl ⟨rfl,rfl,Bool.false_and _⟩
  | true=>
   right
   rw[Bool.true_and]
   by_cases h3:G0.gK (O0.recd mem x)=0
   ·exact Or.inl ⟨rfl,rfl,by simpa using h3,by rw[decide_eq_true h3,Bool.not_true,Bool.false_and]⟩
   ·right
    have h3':(G0.gK (O0.recd mem x) == 0)=false:=by simpa using h3
    have hcl:decide (G0.gO (O0.recd mem x)=d.cl)=(G0.gO (O0.recd mem x) == d.cl):=by
     by_cases h:G0.gO (O0.recd mem x)=d.cl
     ·rw[decide_eq_true h];simp[h]
     ·rw[decide_eq_false h];symm;simpa using h
    rw[decide_eq_false h3,Bool.not_false,Bool.true_and,hcl]
    by_cases h4:G0.gK (O0.recd mem x)=2
    ·have h4':(G0.gK (O0.recd mem x) == 2)=true:=by simpa using h4
     rw[decide_eq_true h4,Bool.true_and,Bool.not_not]
     by_cases h5:G0.gS (O0.recd mem x)=0
     ·right
      exact ⟨rfl,rfl,h3',Or.inl ⟨h4',by simpa using h5⟩,by rw[decide_eq_true h5,Bool.true_and]⟩
     ·left
      exact ⟨rfl,rfl,h3',h4',by simpa using h5,by rw[decide_eq_false h5,Bool.false_and]⟩
    ·right
     exact ⟨rfl,rfl,h3',Or.inr (by simpa using h4),by rw[decide_eq_false h4,Bool.false_and,Bool.not_false,Bool.true_and]⟩
structure NW (w:World) (ts:List Value) (k o t:Int) (a:Option Addr) (n c B:Nat) (W:World):Prop where
 box:K0.Blk w.heap.size ts W
 res:K0.Blk (w.heap.size+1) (I0.vals 0 0 0 none 0 0) W
 nb:K0.Blk B (I0.vals k o t a n c) W
 bel:Bq w W
variable {w W W' : World}
theorem NW.below {ts:List Value} {k o t:Int} {a:Option Addr} {n c B:Nat} (h:NW w ts k o t a n c B W) (hb:Bq W W'):NW w ts k o t a n c B W':=⟨h.box.below hb,h.res.below hb,h.nb.below hb,h.bel.trans (hb.mono h.bel.size)⟩
abbrev w00 (w:World) (o:Obj):World:=(w.alloc o).alloc (.cells #[.int .i64 0,.int .i64 0,.int .i64 0,.slice none 0 0] 96)
theorem bel00 (w:World) (o:Obj):Bq w (w00 w o):=((Below.refl _ _).alloc (Nat.le_refl _) _).alloc (by simp) _
theorem nw_new {ts:List Value} {T:TypeId} {k o t:Int} {a:Option Addr} {n c:Nat} (hb:Bq (w00 w (.cells ts.toArray T)) W):NW w ts k o t a n c W.heap.size (W.alloc (.cells (Iq k o t a n c) 96)):=
  ⟨(((K0.blk_new ts w T).alloc _).below hb).alloc _,((K0.blk_at (I0.vals 0 0 0 none 0 0) _ 96 (by simp)).below hb).alloc _,K0.blk_new (I0.vals k o t a n c) W 96,
   ((bel00 w _).trans (hb.mono (bel00 w _).size)).alloc (Nat.le_trans (bel00 w _).size hb.size) _⟩
theorem newInode (k o t:Int) (a:Option Addr) (n c:Nat) (ae:Option Addr) (ne ce:Nat) (d:Ln) (s:Sl) (mem:ByteArray) (x:Int) (w:World) (hms:mem.size<=281474976710656) (hpo:d.po.length<=1048576) (hfr:d.fr.length<=1048576) (R2:P0.Row w s.a2 d.po) (R3:P0.Row w s.a3 d.fr) :
  Calls prog 213 #[N7.tv k o t a n c ae ne ce d s,.string mem,Iv x] w (Ans mem d x w):=by
 have hrs:=O0.recd_size mem x hms;have hb00:=bel00 w (N7.tObj k o t a n c ae ne ce d s)
 have HR2:Hid (∀ W,Bq w W->P0.Row W s.a2 d.po):=fun W hb=>R2.below hb
 have hct:Calls prog 130 #[.slice s.a3 d.fr.length s.c3,Iv x] (w00 w (N7.tObj k o t a n c ae ne ce d s)) fun e w'=>e=.returned (.bool (P0.has d.fr x))/\w'=w00 w (N7.tObj k o t a n c ae ne ce d s):=N2.containsRow _ _ _ _ _ (by omega) (R3.below hb00)
 have hpt:Hid (∀ W,Calls prog 124 #[.string mem,Iv (L1.recAt x),Iv 16] W (Rb (.string (O0.recd mem x)) W)):=fun W=>B2.impl_Part _ _ _ _ hms
 have hG:Hid (∀ W,Calls prog 197 #[.string (O0.recd mem x)] W (G3.Ans (O0.recd mem x) W)):=fun W=>G3.impl_GetInode _ W hrs
 have hA:Hid (∀ W e w',G3.Ans (O0.recd mem x) W e w'->∃ a c,e=.returned (.tuple #[I0.val (G0.gK (O0.recd mem x)) (G0.gO (O0.recd mem x)) (G0.gS (O0.recd mem x)) a (G0.gZ (O0.recd mem x)).length c,.bool (G0.isI (O0.recd mem x))])/\J0.Own W.heap.size w' a (G0.gZ (O0.recd mem x))/\(G0.gZ (O0.recd mem x)).length<=c/\Bq W w'):=fun W e w' h=>h
 have hzl:(G0.gZ (O0.recd mem x)).length<=281474976710656:=by
  unfold G0.gZ
  split
  ·rw[G0.pgs_length];have:=G0.cnt_le (O0.recd mem x);omega
  ·exact Nat.zero_le _
 have HN:Hid (∀ k o t a n c w',newOk mem d x=false->Bq w w'->Ans mem d x w (.returned (.tuple #[I0.val k o t a n c,.bool false])) w'):=fun k o t a n c w' h hb=>ans_no h hb
 have HY:Hid (∀ k o t a c w',newOk mem d x=true->Bq w w'->(G0.gZ (O0.recd mem x)).length<=c->J0.Own w.heap.size w' a (G0.gZ (O0.recd mem x))->Ans mem d x w (.returned (.tuple #[I0.val k o t a (G0.gZ (O0.recd mem x)).length c,.bool true])) w'):=fun k o t a c w' h hb hc ho=>ans_yes h hb hc ho
 have hcase:=new_cases mem d x;obtain ⟨R,hR⟩:∃ R,Ans mem d x w=R:=⟨_,rfl⟩;rw[hR] at HN HY ⊢;obtain ⟨Q,hQ⟩:∃ Q,O0.recd mem x=Q:=⟨_,rfl⟩;rw[hQ] at hpt hG hA HY hcase hzl;obtain ⟨K,hK⟩:∃ K,G0.gK Q=K:=⟨_,rfl⟩;obtain ⟨O,hO⟩:∃ O,G0.gO Q=O:=⟨_,rfl⟩;obtain ⟨S,hS⟩:∃ S,G0.gS Q=S:=⟨_,rfl⟩;obtain ⟨Z,hZ⟩:∃ Z,G0.gZ Q=Z:=⟨_,rfl⟩;rw[hK,hO,hS,hZ] at hA hcase;rw[hZ] at HY hzl;clear hR hQ hK hO hS hZ hrs R2 R3
 rcases hcase with ⟨gh,hp⟩ | ⟨gh,gI,hp⟩ | ⟨gh,gI,g0,hp⟩ | ⟨gh,gI,g0,g2,gS,hp⟩ | ⟨gh,gI,g0,g2,hp⟩
 ·rw[gh] at hct
  clear gh;go_enter func213,ntmps213
  go_wp2_with (go_at_call 130;refine hct.mono ?_;rintro e wc ⟨rfl,rfl⟩)
  refine bodyPost_ret (v:=.tuple #[I0.val 0 0 0 none 0 0,.bool false]) (by simp[results,results213,go_sem]) rfl (HN.out _ _ _ _ _ _ _ hp ?_)
  go_grown
 ·rw[gh] at hct
  rw[gI] at hA;clear gh gI;go_enter func213,ntmps213
  go_wp2_with (first
   | (go_at_call 130;refine hct.mono ?_;rintro e wc ⟨rfl,rfl⟩)
   | (go_at_call 123;refine (L1.impl_RecAt _ _).mono ?_;rintro e wq ⟨rfl,rfl⟩)
   | (go_at_call 124;refine (hpt.out _).mono ?_;rintro e w1 ⟨rfl,b1⟩)
   | (go_at_call 197;refine (hG.out _).mono ?_;intro e w2 hans;obtain ⟨a',c',rfl,ho,hc,b2⟩:=hA.out _ _ _ hans;clear hans;have p2:=nw_new (ts:=N7.tvs k o t a n c ae ne ce d s) (T:=189) (k:=K) (o:=O) (t:=S) (a:=a') (n:=Z.length) (c:=c') (b1.trans (b2.mono b1.size));have c0:=p2.res.c0;have c1:=p2.res.c1;have c2:=p2.res.c2;have c3:=p2.res.c3;have f0:=p2.res.f0;have f1:=p2.res.f1;have f2:=p2.res.f2;have f3:=p2.res.f3))
  have q:=p2.res.put4 (Iv 0) (Iv 0) (Iv 0) (.slice none 0 0);have hbl:Bq w _:=((((p2.bel.setCell (p:=⟨w.heap.size+1,0,none⟩) (Nat.le_add_right _ _) (Iv 0)).setCell (p:=⟨w.heap.size+1,1,none⟩) (Nat.le_add_right _ _) (Iv 0)).setCell (p:=⟨w.heap.size+1,2,none⟩) (Nat.le_add_right _ _) (Iv 0)).setCell (p:=⟨w.heap.size+1,3,none⟩) (Nat.le_add_right _ _) (.slice none 0 0));exact bodyPost_ret (v:=.tuple #[I0.val 0 0 0 none 0 0,.bool false]) (by simp[results,results213,go_sem,q.c0,q.c1,q.c2,q.c3]) rfl (HN.out _ _ _ _ _ _ _ hp hbl)
 ·rw[gh] at hct
  rw[gI] at hA;clear gh gI;go_enter func213,ntmps213
  go_wp2_with (first
   | (go_at_call 130;refine hct.mono ?_;rintro e wc ⟨rfl,rfl⟩)
   | (go_at_call 123;refine (L1.impl_RecAt _ _).mono ?_;rintro e wq ⟨rfl,rfl⟩)
   | (go_at_call 124;refine (hpt.out _).mono ?_;rintro e w1 ⟨rfl,b1⟩)
   | (go_at_call 197;refine (hG.out _).mono ?_;intro e w2 hans;obtain ⟨a',c',rfl,ho,hc,b2⟩:=hA.out _ _ _ hans;clear hans;have p2:=nw_new (ts:=N7.tvs k o t a n c ae ne ce d s) (T:=189) (k:=K) (o:=O) (t:=S) (a:=a') (n:=Z.length) (c:=c') (b1.trans (b2.mono b1.size));have y0:=p2.nb.c0;have c0:=p2.res.c0;have c1:=p2.res.c1;have c2:=p2.res.c2;have c3:=p2.res.c3;have f0:=p2.res.f0;have f1:=p2.res.f1;have f2:=p2.res.f2;have f3:=p2.res.f3))
  have q:=p2.res.put4 (Iv 0) (Iv 0) (Iv 0) (.slice none 0 0);have hbl:Bq w _:=((((p2.bel.setCell (p:=⟨w.heap.size+1,0,none⟩) (Nat.le_add_right _ _) (Iv 0)).setCell (p:=⟨w.heap.size+1,1,none⟩) (Nat.le_add_right _ _) (Iv 0)).setCell (p:=⟨w.heap.size+1,2,none⟩) (Nat.le_add_right _ _) (Iv 0)).setCell (p:=⟨w.heap.size+1,3,none⟩) (Nat.le_add_right _ _) (.slice none 0 0));exact bodyPost_ret (v:=.tuple #[I0.val 0 0 0 none 0 0,.bool false]) (by simp[results,results213,go_sem,q.c0,q.c1,q.c2,q.c3]) rfl (HN.out _ _ _ _ _ _ _ hp hbl)
 ·rw[gh] at hct
  rw[gI] at hA;clear gh gI;go_enter func213,ntmps213
  go_wp2_with (first
   | (go_at_call 130;refine hct.mono ?_;rintro e wc ⟨rfl,rfl⟩)
   | (go_at_call 123;refine (L1.impl_RecAt _ _).mono ?_;rintro e wq ⟨rfl,rfl⟩)
   | (go_at_call 124;refine (hpt.out _).mono ?_;rintro e w1 ⟨rfl,b1⟩)
   | (go_at_call 197;refine (hG.out _).mono ?_;intro e w2 hans;obtain ⟨a',c',rfl,ho,hc,b2⟩:=hA.out _ _ _ hans;clear hans;have p2:=nw_new (ts:=N7.tvs k o t a n c ae ne ce d s) (T:=189) (k:=K) (o:=O) (t:=S) (a:=a') (n:=Z.length) (c:=c') (b1.trans (b2.mono b1.size));have y0:=p2.nb.c0;have y2:=p2.nb.c2;have c0:=p2.res.c0;have c1:=p2.res.c1;have c2:=p2.res.c2;have c3:=p2.res.c3;have f0:=p2.res.f0;have f1:=p2.res.f1;have f2:=p2.res.f2;have f3:=p2.res.f3))
  have q:=p2.res.put4 (Iv 0) (Iv 0) (Iv 0) (.slice none 0 0);have hbl:Bq w _:=((((p2.bel.setCell (p:=⟨w.heap.size+1,0,none⟩) (Nat.le_add_right _ _) (Iv 0)).setCell (p:=⟨w.heap.size+1,1,none⟩) (Nat.le_add_right _ _) (Iv 0)).setCell (p:=⟨w.heap.size+1,2,none⟩) (Nat.le_add_right _ _) (Iv 0)).setCell (p:=⟨w.heap.size+1,3,none⟩) (Nat.le_add_right _ _) (.slice none 0 0));exact bodyPost_ret (v:=.tuple #[I0.val 0 0 0 none 0 0,.bool false]) (by simp[results,results213,go_sem,q.c0,q.c1,q.c2,q.c3]) rfl (HN.out _ _ _ _ _ _ _ hp hbl)
 ·rw[gh] at hct
  rw[gI] at hA;have HP:Hid (newOk mem d x=((O == d.cl) && N0.among Z d.po)):=hp;clear gh gI hp
  have hgo:Calls prog 213 #[N7.tv k o t a n c ae ne ce d s,.string mem,Iv x] w R:=by
   rcases g2 with ⟨g2,gS⟩ | g2
   all_goals
    go_enter func213,ntmps213
    go_wp2_with (first
   | (go_at_call 130;refine hct.mono ?_;rintro e wc ⟨rfl,rfl⟩)
   | (go_at_call 123;refine (L1.impl_RecAt _ _).mono ?_;rintro e wq ⟨rfl,rfl⟩)
   | (go_at_call 124;refine (hpt.out _).mono ?_;rintro e w1 ⟨rfl,b1⟩)
   | (go_at_call 197;refine (hG.out _).mono ?_;intro e w2 hans;obtain ⟨a',c',rfl,ho,hc,b2⟩:=hA.out _ _ _ hans;clear hans;have p2:=nw_new (ts:=N7.tvs k o t a n c ae ne ce d s) (T:=189) (k:=K) (o:=O) (t:=S) (a:=a') (n:=Z.length) (c:=c') (b1.trans (b2.mono b1.size));have y0:=p2.nb.c0;have y1:=p2.nb.c1;have y2:=p2.nb.c2;have y3:=p2.nb.c3))
    have bd:Bq (w2.alloc (.cells (Iq K O S a' Z.length c') 96)) (w2.alloc (.cells (Iq K O S a' Z.length c') 96)).drew:=(Below.refl _ _).drew;have p3:=p2.below bd;have o3:=(ho.alloc (.cells (Iq K O S a' Z.length c') 96)).below bd;have hbz:=b1.size;have hb2z:=b2.size;simp at hbz
    have hBn:w.heap.size+2<=w2.heap.size:=by omega
    replace o3:=o3.mono (base':=w.heap.size+2) (by omega);obtain ⟨V,hV⟩:∃ V,w2.alloc (.cells (Iq K O S a' Z.length c') 96)=V:=⟨_,rfl⟩;obtain ⟨Bn,hBn'⟩:∃ Bn,w2.heap.size=Bn:=⟨_,rfl⟩;rw[hV] at p3 o3;rw[hBn'] at p3 hBn;simp only[hBn'];rw[hV];have qr:=p3.res.put4 (Iv K) (Iv O) (Iv S) (.slice a' Z.length c');have qb:=(((p3.box.setOther (B':=w.heap.size+1) (by omega) 0 (Iv K)).setOther (B':=w.heap.size+1) (by omega) 1 (Iv O)).setOther (B':=w.heap.size+1) (by omega) 2 (Iv S)).setOther (B':=w.heap.size+1) (by omega) 3 (.slice a' Z.length c');have qn:=(((p3.nb.setOther (B':=w.heap.size+1) (by omega) 0 (Iv K)).setOther (B':=w.heap.size+1) (by omega) 1 (Iv O)).setOther (B':=w.heap.size+1) (by omega) 2 (Iv S)).setOther (B':=w.heap.size+1) (by omega) 3 (.slice a' Z.length c');have hbl:=((((p3.bel.setCell (p:=⟨w.heap.size+1,0,none⟩) (Nat.le_add_right _ _) (Iv K)).setCell (p:=⟨w.heap.size+1,1,none⟩) (Nat.le_add_right _ _) (Iv O)).setCell (p:=⟨w.heap.size+1,2,none⟩) (Nat.le_add_right _ _) (Iv S)).setCell (p:=⟨w.heap.size+1,3,none⟩) (Nat.le_add_right _ _) (.slice a' Z.length c'));have oq:=(((o3.set (B:=w.heap.size+1) (by omega) 0 (Iv K)).set (B:=w.heap.size+1) (by omega) 1 (Iv O)).set (B:=w.heap.size+1) (by omega) 2 (Iv S)).set (B:=w.heap.size+1) (by omega) 3 (.slice a' Z.length c');have hal:=D0.allAmong a' s.a2 c' s.c2 Z d.po V.drew hzl (by omega) o3.row (HR2.out _ p3.bel)
    have sx:V.drew.cell? ⟨Bn,0,none⟩=some (Iv K)/\V.drew.cell? ⟨Bn,1,none⟩=some (Iv O)/\V.drew.cell? ⟨Bn,2,none⟩=some (Iv S)/\V.drew.cell? ⟨Bn,3,none⟩=some (.slice a' Z.length c')/\V.drew.cell? ⟨w.heap.size,6,none⟩=some (Iv d.cl)/\V.drew.cell? ⟨w.heap.size,11,none⟩=some (.slice s.a2 d.po.length s.c2):=⟨p3.nb.c0,p3.nb.c1,p3.nb.c2,p3.nb.c3,p3.box.cell 6 (by simp),p3.box.cell 11 (by simp)⟩;have c0:=p3.res.c0;have c1:=p3.res.c1;have c2:=p3.res.c2;have c3:=p3.res.c3;have f0:=p3.res.f0;have f1:=p3.res.f1;have f2:=p3.res.f2;have f3:=p3.res.f3;have v0:=qr.c0;have v1:=qr.c1;have v2:=qr.c2;have v3:=qr.c3;obtain ⟨am,ham⟩:∃ am,N0.among Z d.po=am:=⟨_,rfl⟩;rw[ham] at hal HP;obtain ⟨ow,how⟩:∃ ow,(O == d.cl)=ow:=⟨_,rfl⟩;rw[how] at HP;clear hV hBn' ham y0 y1 y2 y3 p2 ho bd hct
    cases ow with
    | false=>
     refine wp_region_held_drew (S:=fun W=>Ce W Bn 0 (Iv K)/\Ce W Bn 1 (Iv O)/\Ce W Bn 2 (Iv S)/\Ce W Bn 3 (.slice a' Z.length c')/\Ce W w.heap.size 6 (Iv d.cl)/\Ce W w.heap.size 11 (.slice s.a2 d.po.length s.c2)) (by kernel_rfl) sx ?_;intro _
     generalize V.drew=Vd at *
     refine BT.s 0 (I0.val K O S a' Z.length c') sx ?_;refine BT.s 1 (Pv Bn 1) sx ?_;refine BT.s 2 (Iv O) sx ?_;refine BT.s 3 (Pv w.heap.size 5) sx ?_;refine BT.s 4 (Pv w.heap.size 6) sx ?_;refine BT.s 5 (Iv d.cl) sx ?_;refine BT.s 6 (.bool false) sx ?_;refine BT.r 7 (.bool false) sx ?_;refine BT.u 8 sx ?_;refine BT.u 9 sx ?_;refine BT.u 10 sx ?_;refine BT.u 11 sx ?_;refine BT.u 12 sx ?_;refine BT.u 13 sx ?_;refine BT.r 14 (.bool false) sx ?_
     have tq:(((((Vd.setCell ⟨w.heap.size+1,0,none⟩ (Iv K)).setCell ⟨w.heap.size+1,1,none⟩ (Iv O)).setCell ⟨w.heap.size+1,2,none⟩ (Iv S)).setCell ⟨w.heap.size+1,3,none⟩ (.slice a' Z.length c'))).cell? ⟨Bn,0,none⟩=some (Iv K)/\(((((Vd.setCell ⟨w.heap.size+1,0,none⟩ (Iv K)).setCell ⟨w.heap.size+1,1,none⟩ (Iv O)).setCell ⟨w.heap.size+1,2,none⟩ (Iv S)).setCell ⟨w.heap.size+1,3,none⟩ (.slice a' Z.length c'))).cell? ⟨Bn,1,none⟩=some (Iv O)/\(((((Vd.setCell ⟨w.heap.size+1,0,none⟩ (Iv K)).setCell ⟨w.heap.size+1,1,none⟩ (Iv O)).setCell ⟨w.heap.size+1,2,none⟩ (Iv S)).setCell ⟨w.heap.size+1,3,none⟩ (.slice a' Z.length c'))).cell? ⟨Bn,2,none⟩=some (Iv S)/\(((((Vd.setCell ⟨w.heap.size+1,0,none⟩ (Iv K)).setCell ⟨w.heap.size+1,1,none⟩ (Iv O)).setCell ⟨w.heap.size+1,2,none⟩ (Iv S)).setCell ⟨w.heap.size+1,3,none⟩ (.slice a' Z.length c'))).cell? ⟨Bn,3,none⟩=some (.slice a' Z.length c')/\(((((Vd.setCell ⟨w.heap.size+1,0,none⟩ (Iv K)).setCell ⟨w.heap.size+1,1,none⟩ (Iv O)).setCell ⟨w.heap.size+1,2,none⟩ (Iv S)).setCell ⟨w.heap.size+1,3,none⟩ (.slice a' Z.length c'))).cell? ⟨w.heap.size,6,none⟩=some (Iv d.cl)/\(((((Vd.setCell ⟨w.heap.size+1,0,none⟩ (Iv K)).setCell ⟨w.heap.size+1,1,none⟩ (Iv O)).setCell ⟨w.heap.size+1,2,none⟩ (Iv S)).setCell ⟨w.heap.size+1,3,none⟩ (.slice a' Z.length c'))).cell? ⟨w.heap.size,11,none⟩=some (.slice s.a2 d.po.length s.c2):=⟨qn.c0,qn.c1,qn.c2,qn.c3,qb.cell 6 (by simp),qb.cell 11 (by simp)⟩
     refine Y0.one_skip (i:=15) (w':=(((Vd.setCell ⟨w.heap.size+1,0,none⟩ (Iv K)).setCell ⟨w.heap.size+1,1,none⟩ (Iv O)).setCell ⟨w.heap.size+1,2,none⟩ (Iv S)).setCell ⟨w.heap.size+1,3,none⟩ (.slice a' Z.length c')) (by kernel_rfl) rfl (by rfl) ?_ tq ?_
     ·go_simp
     simp only[BZ.z,Act.put,Nat.reduceAdd];refine BT.r 16 (.bool false) tq ?_;refine wpAnyH_done (by kernel_rfl) ?_ _;go_wp2;exact bodyPost_ret (v:=.tuple #[I0.val K O S a' Z.length c',.bool false]) (by simp[results,results213,go_sem,v0,v1,v2,v3]) rfl (HN.out _ _ _ _ _ _ _ (HP.out.trans (Bool.false_and _)) hbl)
    | true=>
     refine wp_region_held_drew (S:=fun W=>Ce W Bn 0 (Iv K)/\Ce W Bn 1 (Iv O)/\Ce W Bn 2 (Iv S)/\Ce W Bn 3 (.slice a' Z.length c')/\Ce W w.heap.size 6 (Iv d.cl)/\Ce W w.heap.size 11 (.slice s.a2 d.po.length s.c2)) (by kernel_rfl) sx ?_;intro _
     generalize V.drew=Vd at *
     refine BT.s 0 (I0.val K O S a' Z.length c') sx ?_;refine BT.s 1 (Pv Bn 1) sx ?_;refine BT.s 2 (Iv O) sx ?_;refine BT.s 3 (Pv w.heap.size 5) sx ?_;refine BT.s 4 (Pv w.heap.size 6) sx ?_;refine BT.s 5 (Iv d.cl) sx ?_;refine BT.s 6 (.bool true) sx ?_;refine BT.r 7 (.bool true) sx ?_;refine BT.s 8 (Pv Bn 3) sx ?_;refine BT.s 9 (.slice a' Z.length c') sx ?_;refine BT.s 10 (Pv w.heap.size 5) sx ?_;refine BT.s 11 (Pv w.heap.size 11) sx ?_;refine BT.s 12 (.slice s.a2 d.po.length s.c2) sx ?_;refine Y0.one_call2w (i:=13) (by kernel_rfl) rfl (by rfl) (.tmp 52) (.tmp 55) _ rfl (Value.slice a' Z.length c') (Value.slice s.a2 d.po.length s.c2) (by rfl) (by rfl) (enters_of func183 (by kernel_rfl) rfl) ((hal).mono ?_);rintro e wl ⟨rfl,hwl⟩;rw[hwl];refine ⟨_,rfl,sx,?_⟩;simp only[BZ.z,Act.put,Nat.reduceAdd];refine BT.r 14 (.bool am) sx ?_
     have tq:(((((Vd.setCell ⟨w.heap.size+1,0,none⟩ (Iv K)).setCell ⟨w.heap.size+1,1,none⟩ (Iv O)).setCell ⟨w.heap.size+1,2,none⟩ (Iv S)).setCell ⟨w.heap.size+1,3,none⟩ (.slice a' Z.length c'))).cell? ⟨Bn,0,none⟩=some (Iv K)/\(((((Vd.setCell ⟨w.heap.size+1,0,none⟩ (Iv K)).setCell ⟨w.heap.size+1,1,none⟩ (Iv O)).setCell ⟨w.heap.size+1,2,none⟩ (Iv S)).setCell ⟨w.heap.size+1,3,none⟩ (.slice a' Z.length c'))).cell? ⟨Bn,1,none⟩=some (Iv O)/\(((((Vd.setCell ⟨w.heap.size+1,0,none⟩ (Iv K)).setCell ⟨w.heap.size+1,1,none⟩ (Iv O)).setCell ⟨w.heap.size+1,2,none⟩ (Iv S)).setCell ⟨w.heap.size+1,3,none⟩ (.slice a' Z.length c'))).cell? ⟨Bn,2,none⟩=some (Iv S)/\(((((Vd.setCell ⟨w.heap.size+1,0,none⟩ (Iv K)).setCell ⟨w.heap.size+1,1,none⟩ (Iv O)).setCell ⟨w.heap.size+1,2,none⟩ (Iv S)).setCell ⟨w.heap.size+1,3,none⟩ (.slice a' Z.length c'))).cell? ⟨Bn,3,none⟩=some (.slice a' Z.length c')/\(((((Vd.setCell ⟨w.heap.size+1,0,none⟩ (Iv K)).setCell ⟨w.heap.size+1,1,none⟩ (Iv O)).setCell ⟨w.heap.size+1,2,none⟩ (Iv S)).setCell ⟨w.heap.size+1,3,none⟩ (.slice a' Z.length c'))).cell? ⟨w.heap.size,6,none⟩=some (Iv d.cl)/\(((((Vd.setCell ⟨w.heap.size+1,0,none⟩ (Iv K)).setCell ⟨w.heap.size+1,1,none⟩ (Iv O)).setCell ⟨w.heap.size+1,2,none⟩ (Iv S)).setCell ⟨w.heap.size+1,3,none⟩ (.slice a' Z.length c'))).cell? ⟨w.heap.size,11,none⟩=some (.slice s.a2 d.po.length s.c2):=⟨qn.c0,qn.c1,qn.c2,qn.c3,qb.cell 6 (by simp),qb.cell 11 (by simp)⟩
     refine Y0.one_skip (i:=15) (w':=(((Vd.setCell ⟨w.heap.size+1,0,none⟩ (Iv K)).setCell ⟨w.heap.size+1,1,none⟩ (Iv O)).setCell ⟨w.heap.size+1,2,none⟩ (Iv S)).setCell ⟨w.heap.size+1,3,none⟩ (.slice a' Z.length c')) (by kernel_rfl) rfl (by rfl) ?_ tq ?_
     ·go_simp
     simp only[BZ.z,Act.put,Nat.reduceAdd];refine BT.r 16 (.bool am) tq ?_;refine wpAnyH_done (by kernel_rfl) ?_ _;go_wp2;refine bodyPost_ret (v:=.tuple #[I0.val K O S a' Z.length c',.bool am]) (by simp[results,results213,go_sem,v0,v1,v2,v3]) rfl ?_
     cases am with
     | false=>exact HN.out _ _ _ _ _ _ _ (HP.out.trans (Bool.and_false _)) hbl
     | true=>exact HY.out _ _ _ _ _ _ (HP.out.trans rfl) hbl hc (oq.mono (by omega))
  exact hgo
end D2
end Go.Proofs.YtlejhfnjmkdobaaGreatDoor
