/- Joined texts. -/
import Derived.Test.YtlejhfnjmkdobaaGreatDoorJtS
import Derived.Test.YtlejhfnjmkdobaaGreatDoorJtT
set_option linter.unusedVariables false
set_option linter.unusedSimpArgs false
set_option maxRecDepth 10000
set_option maxHeartbeats 16000000
namespace Go.Proofs.YtlejhfnjmkdobaaGreatDoor
open Go.Proofs.Tryz
namespace F0
open ChangeShapes WideShapes ChangeAt RowKit Go.Shelf
open X0 (row mix)
theorem dl_own {G:Nat} {la lb:List UInt8} {W V:World} {row:Option Nat} (h:A3.Dl G la lb W) (hg:W.grownBy V row) (hr:∀ r,row=some r->∃ o:Obj,W.heap[r]? = some o/\o.isCells=false):A3.Dl G la lb V:=by
 refine ⟨fun j v hj=>cell_kept (h.m j v hj) hg hr,fun j v hj=>cell_kept (h.d j v hj) hg hr,fun j hj=>?_,Nat.lt_of_lt_of_le h.lt hg.size⟩;obtain ⟨u,hu⟩:=Option.isSome_iff_exists.1 (h.t j hj).1;exact ⟨by rw[cell_kept hu hg hr];rfl,(frozen_kept hu hg hr).trans (h.t j hj).2⟩
def Has (b o:Nat) (v:Value) (W:World):Prop:=W.cell? ⟨b,o,none⟩=some v/\W.frozen? ⟨b,o,none⟩=false/\b<W.heap.size
theorem Has.own {b o:Nat} {v:Value} {W V:World} {row:Option Nat} (h:Has b o v W) (hg:W.grownBy V row) (hr:∀ r,row=some r->∃ o:Obj,W.heap[r]? = some o/\o.isCells=false):Has b o v V:=
 ⟨cell_kept h.1 hg hr,(frozen_kept h.1 hg hr).trans h.2.1,Nat.lt_of_lt_of_le h.2.2 hg.size⟩
theorem Has.below {b o:Nat} {v:Value} {W V:World} (h:Has b o v W) (hb:Bq W V):Has b o v V:=
 ⟨(hb.cell (p:=⟨b,o,none⟩) h.2.2).trans h.1,(hb.frozen (p:=⟨b,o,none⟩) h.2.2).trans h.2.1,Nat.lt_of_lt_of_le h.2.2 hb.size⟩
theorem Has.drew {b o:Nat} {v:Value} {W:World} (h:Has b o v W):Has b o v W.drew:=h
theorem Has.set {b o g off:Nat} {v:Value} {W:World} (h:Has b o v W) (hn:b≠g) (vs:List Value):Has b o v (W.setCells g off vs):=
 ⟨(World.cell?_setCells_out g vs off W ⟨b,o,none⟩ (fun e=>absurd e hn)).trans h.1,by rw[World.frozen?_setCells];exact h.2.1,by rw[B0.size_setCells];exact h.2.2⟩
theorem Has.alloc {b o:Nat} {v:Value} {W:World} (h:Has b o v W) (ob:Obj):Has b o v (W.alloc ob):=h.below ((Below.refl _ _).alloc (Nat.le_refl _) ob)
theorem has_new (W:World) (v:Value) (T:TypeId) (C:Array Value) (j:Nat) (hj:C[j]? = some v):Has W.heap.size j v (W.alloc (.cells C T)):=
 ⟨by rw[World.cell?_alloc_mark];exact hj,by simp[World.frozen?_alloc_mark],by simp⟩
theorem dl_below {G:Nat} {la lb:List UInt8} {W V:World} (h:A3.Dl G la lb W) (hb:Bq W V):A3.Dl G la lb V:=
 ⟨A0.rangeAt_below h.m hb h.lt,A0.rangeAt_below h.d hb h.lt,A0.there_below h.t hb h.lt,Nat.lt_of_lt_of_le h.lt hb.size⟩
theorem bytes_inj {l l':List UInt8} (h:Lib.byteCells l=Lib.byteCells l'):l=l':=by
 have hi:Function.Injective (fun b:UInt8=>Value.int .u8 (b.toNat:Int)):=fun x y e=>by
  injection e with _ e
  exact UInt8.toNat_inj.1 (Int.ofNat.inj e)
 exact List.map_inj_right (fun x y e=>hi e) |>.1 h
theorem dl_unique {G:Nat} {la lb lb':List UInt8} {W:World} (h:A3.Dl G la lb W) (h':A3.Dl G la lb' W) (e:lb.length=lb'.length):lb=lb':=by
 apply bytes_inj
 apply List.ext_getElem?
 intro j
 by_cases hj:j<(Lib.byteCells lb).length
 ·have hj':j<(Lib.byteCells lb').length:=by rw[Lib.byteCells_length] at hj ⊢;omega
  have a:=h.d j _ (List.getElem?_eq_getElem hj);have b:=h'.d j _ (List.getElem?_eq_getElem hj');rw[List.getElem?_eq_getElem hj,List.getElem?_eq_getElem hj',<- a,<- b]
 ·rw[List.getElem?_eq_none (by omega),List.getElem?_eq_none (by rw[Lib.byteCells_length] at hj ⊢;omega)]
theorem dl_set {G k:Nat} {la ld le:List UInt8} {W:World} (h:A3.Dl G la ld W) (hla:la.length=768) (hld:ld.length=768) (hk:k<96) (he:ld.take (k*8)++row la k++ld.drop (k*8+8)=le) :
  A3.Dl G la le (W.setCells G (768+k*8) (Lib.byteCells (row la k))):=by
 have hr:(row la k).length=8:=R1.row_len hla hk
 have hrb:(Lib.byteCells (row la k)).length=8:=by rw[Lib.byteCells_length,hr]
 have hml:(Lib.byteCells la).length=768:=by rw[Lib.byteCells_length,hla]
 refine ⟨World.rangeAt_setCells_apart h.m _ _ _ (by rw[hml];omega),?_,World.there_setCells h.t _ _ _,by rw[B0.size_setCells];exact h.lt⟩;subst he;have h1:=A0.rangeAt_part h.d 0 (k*8);have h2:=A0.rangeAt_part h.d (k*8+8) 768;rw[A0.bytes_part] at h1 h2;have e1:(ld.drop 0).take (k*8)=ld.take (k*8):=rfl;have e2:(ld.drop (k*8+8)).take 768=ld.drop (k*8+8):=List.take_of_length_le (by rw[List.length_drop];omega);rw[e1] at h1;rw[e2] at h2
 have l1:(Lib.byteCells (ld.take (k*8))).length=k*8:=by rw[Lib.byteCells_length,List.length_take];omega
 rw[Lib.byteCells_append,Lib.byteCells_append];refine A0.rangeAt_snoc (A0.rangeAt_snoc (World.rangeAt_setCells_apart h1 _ _ _ (by rw[l1];omega)) ?_) ?_
 ·rw[l1]
  exact World.rangeAt_setCells_same _ _ _ _ (by rw[hrb];exact A0.there_sub h.t (by omega) (by omega))
 ·rw[List.length_append,l1,hrb]
  exact World.rangeAt_setCells_apart h2 _ _ _ (by rw[hrb];omega)
end F0
namespace F1
open ChangeShapes WideShapes ChangeAt RowKit Go.Shelf
open X0 (row mix)
open F0 (Has)
attribute [local go_sem] Oper.semAt_some
def span (x y:Nat) (k:Nat):Bool:=decide (x<=k/\k<=y)
def upto (x y m:Nat) (k:Nat):Bool:=decide (x<=k/\k<=y/\k<m)
structure Fl (w:World) (G f1 f2 f3 x y:Nat) (la ld:List UInt8) (W:World):Prop where
 dl:A3.Dl G la ld W
 c1:Has f1 0 (.int .i64 x) W
 c2:Has f2 0 (.int .i64 y) W
 c3:Has f3 0 (.pointer (some ⟨G,0,none⟩)) W
 r0:Has (w.heap.size+1) 0 (.string ⟨#[]⟩) W
 r1:Has (w.heap.size+1) 1 (.string ⟨#[]⟩) W
 bel:Bq w W
variable {w W V : World} {G f1 f2 f3 x y : Nat} {la ld le : List UInt8}
theorem Fl.own {row:Option Nat} {B:Nat} (h:Fl w G f1 f2 f3 x y la ld W) (hB:w.heap.size<=B) (hg:W.grownBy V row) (hr:∀ r,row=some r->B<=r/\∃ o:Obj,W.heap[r]? = some o/\o.isCells=false):Fl w G f1 f2 f3 x y la ld V:=
  ⟨F0.dl_own h.dl hg fun r e=>(hr r e).2,h.c1.own hg fun r e=>(hr r e).2,h.c2.own hg fun r e=>(hr r e).2,h.c3.own hg fun r e=>(hr r e).2,h.r0.own hg fun r e=>(hr r e).2,h.r1.own hg fun r e=>(hr r e).2,
   h.bel.grown hg h.bel.size fun r e=>Nat.le_trans hB (hr r e).1⟩
theorem Fl.set {k:Nat} (h:Fl w G f1 f2 f3 x y la ld W) (hn:f1≠G/\f2≠G/\f3≠G/\w.heap.size+1≠G/\w.heap.size<=G) (hla:la.length=768) (hld:ld.length=768) (hk:k<96) (he:ld.take (k*8)++row la k++ld.drop (k*8+8)=le) :
  Fl w G f1 f2 f3 x y la le (W.setCells G (768+k*8) (Lib.byteCells (row la k))):=
 ⟨F0.dl_set h.dl hla hld hk he,h.c1.set hn.1 _,h.c2.set hn.2.1 _,h.c3.set hn.2.2.1 _,h.r0.set hn.2.2.2.1 _,h.r1.set hn.2.2.2.1 _,B0.below_setCells hn.2.2.2.2 _ _ _ h.bel⟩
theorem Fl.drew (h:Fl w G f1 f2 f3 x y la ld W):Fl w G f1 f2 f3 x y la ld W.drew:=⟨⟨h.dl.m,h.dl.d,h.dl.t,h.dl.lt⟩,h.c1,h.c2,h.c3,h.r0,h.r1,h.bel.drew⟩
theorem keeps_set (B:Nat) (W:World) (g o:Nat):∀ (vs:List Value) (o:Nat) (V:World),KeepsFrom B W V->KeepsFrom B W (V.setCells g o vs)
 | [],_,_,h=>h
 | v :: r,o,V,h=>keeps_set B W g o r (o+1) _ (h.trans ((KeepsOthers.setCell _ _ _).from _))
theorem keeps_drew (B:Nat) (W:World):KeepsFrom B W W.drew:=⟨Nat.le_refl _,fun _ _ _ h _=>h⟩
theorem upto_step {x y k i:Nat} (hi:i≠k):upto x y k i=upto x y (k+1) i:=by simp only[upto];congr 1;apply propext;omega
theorem heap_set {k g:Nat}:∀ (vs:List Value),k≠g->∀ (o:Nat) (W:World) (_:Unit),(W.setCells g o vs).heap[k]? = W.heap[k]?
 | [],_,_,_,_=>rfl
 | v :: r,h,o,W,u=>(heap_set r h (o+1) _ u).trans (Below.heap_setCell _ _ _ _ h)
theorem infoDev:(prog.info? 28).map (·.size)=some 2:=by kernel_rfl
theorem fr_alloc {B:Nat} {w W:World} {a b:ByteArray} (h:D2.Fr B w a b W) (o:Obj):D2.Fr B w a b (W.alloc o):=h.below ((Below.refl _ _).alloc (Nat.le_refl _) o)
theorem fl_start {a b:ByteArray} {w2 w3:World} (h1:D2.Fr w.heap.size w a b w2) (hG:((w2.alloc (.cells #[Iv (x:Int)] 3)).alloc (.cells #[Iv (y:Int)] 3)).heap.size<=G) (hD:A3.Dl G la ld w3)
  (b3:Bq ((w2.alloc (.cells #[Iv (x:Int)] 3)).alloc (.cells #[Iv (y:Int)] 3)) w3) :
  Fl w G w2.heap.size (w2.heap.size+1) w3.heap.size x y la ld (w3.alloc (.cells #[Pv G 0] 203))/\w2.heap.size≠G/\w2.heap.size+1≠G/\w3.heap.size≠G/\w.heap.size+1≠G/\w.heap.size<=G/\¬ w.heap.size+1=w3.heap.size:=by
 have hb:=(Below.refl w3.heap.size w3).alloc (Nat.le_refl _) (.cells #[Pv G 0] 203);have g1:=((F0.has_new w2 (Iv (x:Int)) 3 #[Iv (x:Int)] 0 rfl).alloc (.cells #[Iv (y:Int)] 3)).below b3;have g2:=(F0.has_new (w2.alloc (.cells #[Iv (x:Int)] 3)) (Iv (y:Int)) 3 #[Iv (y:Int)] 0 rfl).below b3;rw[World.size_alloc] at g2;have h3:=(fr_alloc (fr_alloc h1 (.cells #[Iv (x:Int)] 3)) (.cells #[Iv (y:Int)] 3)).below b3;have hs:=h1.lt;have hl:=hD.lt;simp only[World.size_alloc] at hG
 refine ⟨⟨F0.dl_below hD hb,g1.below hb,g2.below hb,F0.has_new w3 _ _ _ 0 rfl,Has.below ⟨h3.r0,h3.f0,h3.lt⟩ hb,Has.below ⟨h3.r1,h3.f1,h3.lt⟩ hb,h3.bel.alloc h3.bel.size _⟩,?_,?_,?_,?_,?_,?_⟩ <;> (have:=h3.lt;omega)
theorem Fl.below (h:Fl w G f1 f2 f3 x y la ld W) (hb:Bq W V):Fl w G f1 f2 f3 x y la ld V:=
 ⟨F0.dl_below h.dl hb,h.c1.below hb,h.c2.below hb,h.c3.below hb,h.r0.below hb,h.r1.below hb,h.bel.trans (hb.mono h.bel.size)⟩
structure Fd (D:Nat) (w:World) (G f1 f2 f3 x y:Nat) (la ld:List UInt8) (W:World):Prop where
 fl:Fl w G f1 f2 f3 x y la ld W
 dk:W.heap[D]? = some (.deferred (some []))
theorem Fd.below {D:Nat} (h:Fd D w G f1 f2 f3 x y la ld W) (hb:Bq W V):Fd D w G f1 f2 f3 x y la ld V:=
 ⟨h.fl.below hb,(hb.block D (Array.getElem?_eq_some_iff.1 h.dk).1).trans h.dk⟩
theorem Fd.drew {D:Nat} (h:Fd D w G f1 f2 f3 x y la ld W):Fd D w G f1 f2 f3 x y la ld W.drew:=⟨h.fl.drew,h.dk⟩
theorem text_m {D:Nat} (h:Fd D w G f1 f2 f3 x y la ld W) (hl:la.length=768) :
  Calls prog 163 #[Pv G 0] W fun e w'=>e=.returned (.string ⟨la.toArray⟩)/\Fd D w G f1 f2 f3 x y la ld w':=
 (A2.text la G 0 W hl h.fl.dl.lt h.fl.dl.m).mono fun _ _ ⟨he,hb⟩=>⟨he,h.below hb⟩
theorem text_d {D:Nat} (h:Fd D w G f1 f2 f3 x y la ld W) (hl:ld.length=768) :
  Calls prog 163 #[Pv G 768] W fun e w'=>e=.returned (.string ⟨ld.toArray⟩)/\Fd D w G f1 f2 f3 x y la ld w':=
 (A2.text ld G 768 W hl h.fl.dl.lt h.fl.dl.d).mono fun _ _ ⟨he,hb⟩=>⟨he,h.below hb⟩
set_option maxRecDepth 100000 in
theorem impl_Flush_main (a b:ByteArray) (i n:Int) (w:World) (ha:a.size=768) (hb:b.size=768) (hi:0<=i) (hn:1<=n) (hin:i+n<=768) :
  Calls prog 127 #[.agg #[.string a,.string b],.int .i64 i,.int .i64 n] w (Rb (.agg #[.string a,.string ⟨(mix a.data.toList b.data.toList (span (i.toNat / 8) ((i.toNat+n.toNat-1) / 8))).toArray⟩]) w):=by
 obtain ⟨m,rfl⟩:∃ m:Nat,i=m:=⟨i.toNat,by omega⟩;obtain ⟨c,rfl⟩:∃ c:Nat,n=c:=⟨n.toNat,by omega⟩
 have hla:a.data.toList.length=768:=by rw[<- Lib.size_eq];exact ha
 have hlb:b.data.toList.length=768:=by rw[<- Lib.size_eq];exact hb
 have hok:D1.ok a b=true:=D1.ok_mk ha hb;have hlie:B2.lies a.size (m:Int) (c:Int)=true:=decide_eq_true (by omega);have hF:=D2.fr_new a b w;simp only[Int.toNat_natCast];obtain ⟨x,hx⟩:∃ x,m / 8=x:=⟨_,rfl⟩;obtain ⟨y,hy⟩:∃ y,(m+c-1) / 8=y:=⟨_,rfl⟩;rw[hx,hy]
 have q1:(m:Int) / 8=(x:Int):=by omega
 have q2:((m:Int)+(c:Int)-1) / 8=(y:Int):=by omega
 have q3:Int.tdiv (m:Int) 8=(x:Int):=by rw[Int.tdiv_eq_ediv_of_nonneg (by omega)];exact q1
 have q4:Int.tdiv ((m:Int)+(c:Int)-1) 8=(y:Int):=by rw[Int.tdiv_eq_ediv_of_nonneg (by omega)];exact q2
 have hxy:Hid (x<=y/\y<96):=show _/\_ by omega
 clear hx hy
 have hn0:((c:Int) == 0)=false:=by simp;omega
 refine (callsIn_wide (n:=5)).1 ?_;refine callsIn_of_wp_marks func127 rfl trivial ?_ rfl;simp only[ntmps127,List.size_toArray,List.length_cons,List.length_nil,Nat.reduceAdd,Nat.reduceSub,Array.replicate_succ,Array.replicate_zero,List.push_toArray,List.append_toArray,List.nil_append,List.cons_append];refine wpIn_wide.2 ?_
 go_wp2_with (first
  | (go_at_call 99;refine (D2.impl_DevOk_fr _ _ (by omega) (by omega) hF).mono ?_;rintro e w1 ⟨rfl,h1⟩;have c0:=h1.c0;have c1:=h1.c1;have h2:=(fr_alloc h1 (.cells #[.int .i64 x] 3));have h3:=fr_alloc h2 (.cells #[.int .i64 y] 3);have d0:=h3.c0;have d1:=h3.c1)
  | (go_at_call 160;refine (B2.liesIn_any _ _ _ _ (by unfold maxLen;omega)).mono ?_;rintro e w2 ⟨rfl,rfl⟩;rw[hlie])
  | (go_at_call 161;refine (A3.cutDev a b _ ha hb).mono ?_;rintro e w3 ⟨G,rfl,hG,hD,b3⟩;rename_i w2 _))
 obtain ⟨hfl,hn1⟩:=fl_start h1 hG hD b3;have hnf:=hn1.2.2.2.2.2;replace hn1:=(⟨hn1.1,hn1.2.1,hn1.2.2.1,hn1.2.2.2.1,hn1.2.2.2.2.1⟩:_/\_/\_/\_/\_);clear d0 d1 h2 h3 c0 c1;have hsz:w.heap.size<=(w3.alloc (.cells #[.pointer (some ⟨G,0,none⟩)] 203)).heap.size:=hfl.bel.size;obtain ⟨WL,hWL⟩:∃ WL,w3.alloc (.cells #[.pointer (some ⟨G,0,none⟩)] 203)=WL:=⟨_,rfl⟩;rw[hWL] at hfl hsz ⊢;clear hWL h1 hG hD b3 hF;obtain ⟨f1,hf1⟩:∃ f1,w2.heap.size=f1:=⟨_,rfl⟩;obtain ⟨f3,hf3⟩:∃ f3,w3.heap.size=f3:=⟨_,rfl⟩;rw[hf1,hf3] at hfl hn1 ⊢;rw[hf3] at hnf;clear hf1 hf3
 refine wpIn_wide.1 (R0.range_bound (n:=5) (gf:=162) (N:=96) (bd:=#[.pointer (some ⟨G,0,none⟩)]) rfl (enters_of func162 (by kernel_rfl) rfl) rfl
  (fun k W=>Fl w G f1 (f1+1) f3 x y a.data.toList (mix a.data.toList b.data.toList (upto x y k)) W) (R1.Differ G a.data.toList)
  (fun c W=>c=.exit 0/\Fl w G f1 (f1+1) f3 x y a.data.toList (mix a.data.toList b.data.toList (span x y)) W)
  (fun k W V row h hg hr=>h.own hsz hg hr) (fun k W V row ⟨lb',h1,h2,h3⟩ hg hr=>⟨lb',h1,F0.dl_own h2 hg (fun r e=>(hr r e).2),h3⟩) (fun c W V row h hg hr=>⟨h.1,h.2.own hsz hg hr⟩)
  (by rw[X0.mix_none _ _ hlb _ (fun k _=>by simp[upto])];exact hfl)
  (fun l J Jx W a1 a2 a3 a4 a5 a6=>R1.dirty_in 5 G a.data.toList hla _ (fun k W h=>⟨_,X0.mix_len _ _ _,h.dl⟩) (fun k W lb' hk h hl' hd' he=>by
   have e:=F0.dl_unique hd' h.dl (by rw[hl',X0.mix_len]);subst e;rw[X0.mix_same _ _ (upto x y k) (upto x y (k+1)) k hla (fun i _ hi=>upto_step hi) hk (by simp[upto]) he]
   exact h) l J Jx W a1 a2 a3 a4 a5 a6) ?round ?done ?stop)
 case round=>
  rintro l k W V hk hI -;clear hfl
  have e1:(0:Int)<=(k:Int):=by omega
  have e2:(k:Int)<96:=by omega
  have c1:=hI.c1.1;have c2:=hI.c2.1;have c3:=hI.c3.1
  by_cases h1:(y:Int)<(k:Int)
  ·have e:=X0.mix_congr a.data.toList b.data.toList (upto x y k) (span x y) (fun i _=>by simp only[upto,span];congr 1;apply propext;omega)
   gi_wp2
   refine ⟨trivial,?_⟩
   gi_wp2
   exact ⟨KeepsFrom.refl _ _,rfl,e ▸ hI⟩
  ·by_cases h2:(x:Int)<=(k:Int)
   ·obtain ⟨ld,hld⟩:∃ ld,mix a.data.toList b.data.toList (upto x y k)=ld:=⟨_,rfl⟩
    have hll:ld.length=768:=by rw[<- hld,X0.mix_len]
    have he:Hid (ld.take (k*8)++row a.data.toList k++ld.drop (k*8+8)=mix a.data.toList b.data.toList (upto x y (k+1))):=by
     rw[<- hld];exact X0.mix_set _ _ _ _ k hla hk (fun i _ hi=>upto_step hi) (by simp only[upto];exact decide_eq_true (by omega))
    rw[hld] at hI;have hset:=(hI.drew).set hn1 hla hll hk he
    have hrl:(Lib.byteCells (row a.data.toList k)).length=8:=by rw[Lib.byteCells_length,R1.row_len hla hk]
    have hrow:V.rangeAt G (k*8) (Lib.byteCells (row a.data.toList k)):=by
     have:=A0.rangeAt_part hI.dl.m (k*8) 8;rw[A0.bytes_part,Nat.zero_add] at this;exact this
    have hfin:∀ a',R0.left WL.heap.size (fun k W=>Fl w G f1 (f1+1) f3 x y a.data.toList (mix a.data.toList b.data.toList (upto x y k)) W) (fun c W=>c=.exit 0/\Fl w G f1 (f1+1) f3 x y a.data.toList (mix a.data.toList b.data.toList (span x y)) W) k V .normal a' (V.drew.setCells G (768+k*8) (Lib.byteCells (row a.data.toList k))):=fun a'=>⟨keeps_set _ _ _ 0 _ _ _ (keeps_drew _ _),hset⟩
    let S:World->Prop:=fun W'=>Has f3 0 (.pointer (some ⟨G,0,none⟩)) W'/\W'.rangeAt G (k*8) (Lib.byteCells (row a.data.toList k))/\W'.there G (768+k*8) 8
    have hSV:S V.drew:=⟨hI.c3,hrow,A0.there_sub hI.dl.t (by omega) (by omega)⟩
    gi_wp2
    refine R2.abs_act _ (fun A=>A.eval (.tmp 9)=.pointer (some ⟨f3,0,none⟩)/\A.eval (.tmp 10)=.int .i64 (k:Int)/\56<A.tmps.size) ⟨rfl,rfl,by simp⟩ ?_;rintro A ⟨h9,h10,hsz'⟩
    have h9':A.tmps[9]?.getD undef=.pointer (some ⟨f3,0,none⟩):=by rw[<- Array.getD_eq_getD_getElem?];exact h9
    have h10':A.tmps[10]?.getD undef=.int .i64 (k:Int):=by rw[<- Array.getD_eq_getD_getElem?];exact h10
    have s46:46<A.tmps.size:=by omega
    have s47:47<A.tmps.size:=by omega
    have s48:48<A.tmps.size:=by omega
    have s49:49<A.tmps.size:=by omega
    have s50:50<A.tmps.size:=by omega
    have s51:51<A.tmps.size:=by omega
    have s52:52<A.tmps.size:=by omega
    have s53:53<A.tmps.size:=by omega
    have s54:54<A.tmps.size:=by omega
    have s55:55<A.tmps.size:=by omega
    have s56:56<A.tmps.size:=by omega
    clear hsz';refine R2.region_round (S:=S) (by simp) (by rintro ⟨_,_,h⟩;exact h.elim) (by kernel_rfl) ?_;refine wpAnyH_take (i:=1) (v:=.int .i64 (k:Int)) rfl (by kernel_rfl) (by kernel_rfl) (by kernel_rfl) (fun _ _ _ h=>h) (Or.inl ⟨by rfl,fun w' hS'=>?_⟩) hSV ?_
    ·simp only[BZ.z,execOp,R2.ev_same,R2.ev_other,R2.size_put,ne_eq,Nat.reduceEqDiff,not_false_eq_true,h9,h10,s46,s47,s48,s49,s50,s51,s52,s53,s54,s55,s56]
     go_simp
    simp only[BZ.z];refine wpAnyH_take (i:=3) (v:=.int .i64 (k:Int)) rfl (by kernel_rfl) (by kernel_rfl) (by kernel_rfl) (fun _ _ _ h=>h) (Or.inl ⟨by rfl,fun w' hS'=>?_⟩) hSV ?_
    ·simp only[BZ.z,execOp,R2.ev_same,R2.ev_other,R2.size_put,ne_eq,Nat.reduceEqDiff,not_false_eq_true,h9,h10,s46,s47,s48,s49,s50,s51,s52,s53,s54,s55,s56]
     go_simp
    simp only[BZ.z];refine wpAnyH_take (i:=0) (v:=.pointer (some ⟨G,0,none⟩)) rfl (by kernel_rfl) (by kernel_rfl) (by kernel_rfl) (fun _ _ _ h=>h) (Or.inl ⟨by rfl,fun w' hS'=>?_⟩) hSV ?_
    ·have hc:=hS'.1.1
     simp only[BZ.z,execOp,R2.ev_same,R2.ev_other,R2.size_put,ne_eq,Nat.reduceEqDiff,not_false_eq_true,h9,h10,s46,s47,s48,s49,s50,s51,s52,s53,s54,s55,s56];go_simp
    simp only[BZ.z];refine wpAnyH_take (i:=2) (v:=.pointer (some ⟨G,0,none⟩)) rfl (by kernel_rfl) (by kernel_rfl) (by kernel_rfl) (fun _ _ _ h=>h) (Or.inl ⟨by rfl,fun w' hS'=>?_⟩) hSV ?_
    ·have hc:=hS'.1.1
     simp only[BZ.z,execOp,R2.ev_same,R2.ev_other,R2.size_put,ne_eq,Nat.reduceEqDiff,not_false_eq_true,h9,h10,s46,s47,s48,s49,s50,s51,s52,s53,s54,s55,s56];go_simp
    simp only[BZ.z];refine wpAnyH_take (i:=4) (v:=.pointer (some ⟨G,0,none⟩)) rfl (by kernel_rfl) (by kernel_rfl) (by kernel_rfl) (fun _ _ _ h=>h) (Or.inl ⟨by rfl,fun w' hS'=>?_⟩) hSV ?_
    ·simp only[BZ.z,execOp,R2.ev_same,R2.ev_other,R2.size_put,ne_eq,Nat.reduceEqDiff,not_false_eq_true,h9,h10,s46,s47,s48,s49,s50,s51,s52,s53,s54,s55,s56]
     go_simp
    simp only[BZ.z];refine wpAnyH_take (i:=5) (v:=.pointer (some ⟨G,0,none⟩)) rfl (by kernel_rfl) (by kernel_rfl) (by kernel_rfl) (fun _ _ _ h=>h) (Or.inl ⟨by rfl,fun w' hS'=>?_⟩) hSV ?_
    ·simp only[BZ.z,execOp,R2.ev_same,R2.ev_other,R2.size_put,ne_eq,Nat.reduceEqDiff,not_false_eq_true,h9,h10,s46,s47,s48,s49,s50,s51,s52,s53,s54,s55,s56]
     go_simp
    simp only[BZ.z];refine wpAnyH_take (i:=6) (v:=.pointer (some ⟨G,k*8,none⟩)) rfl (by kernel_rfl) (by kernel_rfl) (by kernel_rfl) (fun _ _ _ h=>h) (Or.inl ⟨by rfl,fun w' hS'=>?_⟩) hSV ?_
    ·simp only[BZ.z,execOp,R2.ev_same,R2.ev_other,R2.size_put,ne_eq,Nat.reduceEqDiff,not_false_eq_true,h9,h10,s46,s47,s48,s49,s50,s51,s52,s53,s54,s55,s56]
     go_simp
    simp only[BZ.z];refine wpAnyH_take (i:=7) (v:=.agg (Lib.byteCells (row a.data.toList k)).toArray) rfl (by kernel_rfl) (by kernel_rfl) (by kernel_rfl) (fun _ _ _ h=>h) (yieldsIf_load_mid (by rfl) 206 (.tmp 52) rfl G (k*8) (by simp only[R2.ev_same,R2.ev_other,R2.size_put,ne_eq,Nat.reduceEqDiff,not_false_eq_true,h9,h10,s46,s47,s48,s49,s50,s51,s52,s53,s54,s55,s56]) _ _ (fun w' hS'=>hS'.2.1) underlying206 rfl (by rw[A0.infoLine,hrl])) hSV ?_;simp only[BZ.z];refine wpAnyH_take (i:=8) (v:=.pointer (some ⟨G,0,none⟩)) rfl (by kernel_rfl) (by kernel_rfl) (by kernel_rfl) (fun _ _ _ h=>h) (Or.inl ⟨by rfl,fun w' hS'=>?_⟩) hSV ?_
    ·simp only[BZ.z,execOp,R2.ev_same,R2.ev_other,R2.size_put,ne_eq,Nat.reduceEqDiff,not_false_eq_true,h9,h10,s46,s47,s48,s49,s50,s51,s52,s53,s54,s55,s56]
     go_simp
    simp only[BZ.z];refine wpAnyH_take (i:=9) (v:=.pointer (some ⟨G,768,none⟩)) rfl (by kernel_rfl) (by kernel_rfl) (by kernel_rfl) (fun _ _ _ h=>h) (Or.inl ⟨by rfl,fun w' hS'=>?_⟩) hSV ?_
    ·simp only[BZ.z,execOp,R2.ev_same,R2.ev_other,R2.size_put,ne_eq,Nat.reduceEqDiff,not_false_eq_true,h9,h10,s46,s47,s48,s49,s50,s51,s52,s53,s54,s55,s56]
     go_simp
    simp only[BZ.z];refine wpAnyH_take (i:=10) (v:=.pointer (some ⟨G,768+k*8,none⟩)) rfl (by kernel_rfl) (by kernel_rfl) (by kernel_rfl) (fun _ _ _ h=>h) (Or.inl ⟨by rfl,fun w' hS'=>?_⟩) hSV ?_
    ·simp only[BZ.z,execOp,R2.ev_same,R2.ev_other,R2.size_put,ne_eq,Nat.reduceEqDiff,not_false_eq_true,h9,h10,s46,s47,s48,s49,s50,s51,s52,s53,s54,s55,s56]
     go_simp
    simp only[BZ.z]
    refine R2.last_store (i:=11) (by kernel_rfl) rfl rfl 206 (.tmp 56) (.tmp 53) rfl G (768+k*8) (Lib.byteCells (row a.data.toList k)) (by simp only[R2.ev_same,R2.ev_other,R2.size_put,ne_eq,Nat.reduceEqDiff,not_false_eq_true,h9,h10,s46,s47,s48,s49,s50,s51,s52,s53,s54,s55,s56]) (by simp only[R2.ev_same,R2.ev_other,R2.size_put,ne_eq,Nat.reduceEqDiff,not_false_eq_true,h9,h10,s46,s47,s48,s49,s50,s51,s52,s53,s54,s55,s56]) (by rw[hrl];exact hSV.2.2) (by rw[A0.infoLine,hrl]) (Lib.byteCells_one _)
     ⟨hSV.1.set hn1.2.2.1 _,World.rangeAt_setCells_apart hSV.2.1 _ _ _ (by rw[hrl];omega),World.there_setCells hSV.2.2 _ _ _⟩ (by kernel_rfl) ?_
    exact ⟨(hfin A).1,(hfin A).2⟩
   ·have e:=X0.mix_congr a.data.toList b.data.toList (upto x y k) (upto x y (k+1)) (fun i _=>by simp only[upto];congr 1;apply propext;omega)
    gi_wp2
    rw[e] at hI;exact ⟨KeepsFrom.refl _ _,hI⟩
 case done=>
  rintro D W hD hI hK;have hlt1:=hfl.r0.2.2;clear hfl;rw[X0.mix_congr _ _ (upto x y 96) (span x y) (fun i hi=>by simp only[upto,span];congr 1;apply propext;omega)] at hI;go_wp2
  rename_i K hKr
  obtain ⟨ld,hld⟩:∃ ld,mix a.data.toList b.data.toList (span x y)=ld:=⟨_,rfl⟩
  have hll:ld.length=768:=by rw[<- hld,X0.mix_len]
  rw[hld] at hI;have hself:(⟨a.data.toList.toArray⟩:ByteArray)=a:=Lib.mk_data a;have hFd:Fd D w G f1 (f1+1) f3 x y a.data.toList ld W.drew:=Fd.drew ⟨hI,hK⟩;refine R2.abs_wp _ (fun A=>A.eval (.tmp 9)=.pointer (some ⟨f3,0,none⟩)/\A.eval (.tmp 6)=.pointer (some ⟨w.heap.size+1,0,none⟩)/\65<A.tmps.size/\A.defers=[{ target:=.collected D,args:=#[] }]) ⟨rfl,rfl,by simp,rfl⟩ ?_;rintro A ⟨h9,h6,hsz',hdf⟩
  have h9':A.tmps[9]?.getD undef=.pointer (some ⟨f3,0,none⟩):=by rw[<- Array.getD_eq_getD_getElem?];exact h9
  have s57:57<A.tmps.size:=by omega
  have s58:58<A.tmps.size:=by omega
  have s59:59<A.tmps.size:=by omega
  have s60:60<A.tmps.size:=by omega
  have s61:61<A.tmps.size:=by omega
  have s62:62<A.tmps.size:=by omega
  have s63:63<A.tmps.size:=by omega
  have s64:64<A.tmps.size:=by omega
  have s65:65<A.tmps.size:=by omega
  clear hsz';have hSV:Has f3 0 (.pointer (some ⟨G,0,none⟩)) W.drew:=hFd.fl.c3;refine wp_region_noPanic ?_;refine wp_region_held (S:=Has f3 0 (.pointer (some ⟨G,0,none⟩))) (by kernel_rfl) ?_;refine wpAnyH_take (i:=0) (v:=.pointer (some ⟨G,0,none⟩)) rfl (by kernel_rfl) (by kernel_rfl) (by kernel_rfl) (fun _ _ _ h=>h) (Or.inl ⟨by rfl,fun w' hS'=>?_⟩) hSV ?_
  ·have hc:=hS'.1
   simp only[BZ.z,execOp,R2.ev_same,R2.ev_other,R2.size_put,ne_eq,Nat.reduceEqDiff,not_false_eq_true,h9,h6,s57,s58,s59,s60,s61,s62,s63,s64,s65];go_simp
  simp only[BZ.z];refine wpAnyH_take (i:=4) (v:=.pointer (some ⟨G,0,none⟩)) rfl (by kernel_rfl) (by kernel_rfl) (by kernel_rfl) (fun _ _ _ h=>h) (Or.inl ⟨by rfl,fun w' hS'=>?_⟩) hSV ?_
  ·have hc:=hS'.1
   simp only[BZ.z,execOp,R2.ev_same,R2.ev_other,R2.size_put,ne_eq,Nat.reduceEqDiff,not_false_eq_true,h9,h6,s57,s58,s59,s60,s61,s62,s63,s64,s65];go_simp
  simp only[BZ.z];refine wpAnyH_take (i:=1) (v:=.pointer (some ⟨G,0,none⟩)) rfl (by kernel_rfl) (by kernel_rfl) (by kernel_rfl) (fun _ _ _ h=>h) (Or.inl ⟨by rfl,fun w' hS'=>?_⟩) hSV ?_
  ·simp only[BZ.z,execOp,R2.ev_same,R2.ev_other,R2.size_put,ne_eq,Nat.reduceEqDiff,not_false_eq_true,h9,h6,s57,s58,s59,s60,s61,s62,s63,s64,s65]
   go_simp
  simp only[BZ.z];refine wpAnyH_take (i:=5) (v:=.pointer (some ⟨G,0,none⟩)) rfl (by kernel_rfl) (by kernel_rfl) (by kernel_rfl) (fun _ _ _ h=>h) (Or.inl ⟨by rfl,fun w' hS'=>?_⟩) hSV ?_
  ·simp only[BZ.z,execOp,R2.ev_same,R2.ev_other,R2.size_put,ne_eq,Nat.reduceEqDiff,not_false_eq_true,h9,h6,s57,s58,s59,s60,s61,s62,s63,s64,s65]
   go_simp
  simp only[BZ.z];refine wpAnyH_take (i:=2) (v:=.pointer (some ⟨G,0,none⟩)) rfl (by kernel_rfl) (by kernel_rfl) (by kernel_rfl) (fun _ _ _ h=>h) (Or.inl ⟨by rfl,fun w' hS'=>?_⟩) hSV ?_
  ·simp only[BZ.z,execOp,R2.ev_same,R2.ev_other,R2.size_put,ne_eq,Nat.reduceEqDiff,not_false_eq_true,h9,h6,s57,s58,s59,s60,s61,s62,s63,s64,s65]
   go_simp
  simp only[BZ.z];refine wpAnyH_take (i:=6) (v:=.pointer (some ⟨G,768,none⟩)) rfl (by kernel_rfl) (by kernel_rfl) (by kernel_rfl) (fun _ _ _ h=>h) (Or.inl ⟨by rfl,fun w' hS'=>?_⟩) hSV ?_
  ·simp only[BZ.z,execOp,R2.ev_same,R2.ev_other,R2.size_put,ne_eq,Nat.reduceEqDiff,not_false_eq_true,h9,h6,s57,s58,s59,s60,s61,s62,s63,s64,s65]
   go_simp
  simp only[BZ.z];refine R2.one_call (i:=3) (by kernel_rfl) rfl rfl (.tmp 59) _ rfl (.pointer (some ⟨G,0,none⟩)) (by simp only[R2.ev_same,R2.ev_other,R2.size_put,ne_eq,Nat.reduceEqDiff,not_false_eq_true,h9,h6,s57,s58,s59,s60,s61,s62,s63,s64,s65]) (enters_of func163 (by kernel_rfl) rfl) ((text_m hFd hla).mono ?_);rintro e w4 ⟨rfl,h4⟩;refine ⟨_,rfl,h4.fl.c3,?_⟩;simp only[BZ.z];refine R2.one_call (i:=7) (by kernel_rfl) rfl rfl (.tmp 63) _ rfl (.pointer (some ⟨G,768,none⟩)) (by simp only[R2.ev_same,R2.ev_other,R2.size_put,ne_eq,Nat.reduceEqDiff,not_false_eq_true,h9,h6,s57,s58,s59,s60,s61,s62,s63,s64,s65]) (enters_of func163 (by kernel_rfl) rfl) ((text_d h4 hll).mono ?_);rintro e w5 ⟨rfl,h5⟩;refine ⟨_,rfl,h5.fl.c3,?_⟩;simp only[BZ.z];refine wpAnyH_take (i:=8) (v:=.agg #[.string ⟨a.data.toList.toArray⟩,.string ⟨ld.toArray⟩]) rfl (by kernel_rfl) (by kernel_rfl) (by kernel_rfl) (fun _ _ _ h=>h) (Or.inl ⟨by rfl,fun w' hS'=>?_⟩) h5.fl.c3 ?_
  ·simp only[BZ.z,execOp,R2.ev_same,R2.ev_other,R2.size_put,ne_eq,Nat.reduceEqDiff,not_false_eq_true,h9,h6,s57,s58,s59,s60,s61,s62,s63,s64,s65]
   go_simp
  simp only[BZ.z]
  have hth:w5.there (w.heap.size+1) 0 2:=fun j hj=>by
   match j,hj with
   | 0,_=>exact ⟨by rw[h5.fl.r0.1];rfl,h5.fl.r0.2.1⟩
   | 1,_=>exact ⟨by rw[h5.fl.r1.1];rfl,h5.fl.r1.2.1⟩
  refine R2.last_store (i:=9) (by kernel_rfl) rfl rfl 28 (.tmp 6) (.tmp 65) rfl (w.heap.size+1) 0 [.string ⟨a.data.toList.toArray⟩,.string ⟨ld.toArray⟩] (by simp only[R2.ev_same,R2.ev_other,R2.size_put,ne_eq,Nat.reduceEqDiff,not_false_eq_true,h9,h6,s57,s58,s59,s60,s61,s62,s63,s64,s65]) (by simp only[R2.ev_same,R2.ev_other,R2.size_put,ne_eq,Nat.reduceEqDiff,not_false_eq_true,h9,h6,s57,s58,s59,s60,s61,s62,s63,s64,s65]) hth infoDev (by simp[Value.oneCell']) (h5.fl.c3.set (fun e=>hnf e.symm) _) (by kernel_rfl) ?_;refine NoPanic.normal ?_;have hh:(w5.setCells (w.heap.size+1) 0 [.string ⟨a.data.toList.toArray⟩,.string ⟨ld.toArray⟩]).heap[D]? = some (.deferred (some [])):=(heap_set _ (by omega) _ _ ()).trans h5.dk;have hrng:=World.rangeAt_setCells_same w5 (w.heap.size+1) 0 [.string ⟨a.data.toList.toArray⟩,.string ⟨ld.toArray⟩] hth;have hbel:=B0.below_setCells (Nat.le_succ w.heap.size) [.string ⟨a.data.toList.toArray⟩,.string ⟨ld.toArray⟩] 0 _ h5.fl.bel;rw[hself] at hh hrng hbel ⊢;obtain ⟨W6,hW6⟩:∃ W6,w5.setCells (w.heap.size+1) 0 [.string a,.string ⟨ld.toArray⟩]=W6:=⟨_,rfl⟩;rw[hW6] at hh hrng hbel ⊢;refine hKr _ _ ?_
  refine R2.abs_wp _ (fun A2=>A2.eval (.tmp 6)=.pointer (some ⟨w.heap.size+1,0,none⟩)/\A2.defers=[{ target:=.collected D,args:=#[] }]) ⟨by simp only[BZ.z,R2.put_none,R2.ev_same,R2.ev_other,R2.size_put,ne_eq,Nat.reduceEqDiff,not_false_eq_true,h9,h6,s57,s58,s59,s60,s61,s62,s63,s64,s65],by simp only[BZ.z,R2.put_none,R2.defers_put];exact hdf⟩ ?_;rintro A2 ⟨k6,kdf⟩
  have hr':(W6.putObj D (.deferred none)).rangeAt (w.heap.size+1) 0 [.string a,.string ⟨ld.toArray⟩]:=fun j v hj=>cell_kept (hrng j v hj) (grownBy_putObj' _ D _) (fun r e=>by cases e;exact ⟨_,hh,rfl⟩)
  have hlv:=run_loadVar_mid (P:=prog) _ _ _ 28 _ _ hr' underlying28 rfl infoDev;have hbb:=hbel.trans (belowK_b (w:=w) (Nat.le_refl _) W6 D _ (.deferred none) (by omega) hh rfl rfl);clear hKr h4 h5 hth hrng hbel hFd hSV;refine wp_ret ?_;refine R2.leave kdf hh ⟨.agg #[.string a,.string ⟨ld.toArray⟩],?_,?_⟩
  ·rw[A0.results_cell rfl]
   show ((asAddr (A2.eval (.tmp 6))).run prog _).andThen _=_
   rw[k6];simp only[asAddr,Sem.run_pure,Result.andThen_ok];exact hlv
  ·exact ⟨by rw[<- hld],hbb⟩
 case stop=>
  rintro D c W hD ⟨rfl,hI⟩ hK;have hlt1:=hfl.r0.2.2;clear hfl;refine wpIn_wide.2 ?_;go_wp2
  rename_i K hKr
  obtain ⟨ld,hld⟩:∃ ld,mix a.data.toList b.data.toList (span x y)=ld:=⟨_,rfl⟩
  have hll:ld.length=768:=by rw[<- hld,X0.mix_len]
  rw[hld] at hI;have hself:(⟨a.data.toList.toArray⟩:ByteArray)=a:=Lib.mk_data a;have hFd:Fd D w G f1 (f1+1) f3 x y a.data.toList ld W.drew:=Fd.drew ⟨hI,hK⟩;refine R2.abs_wp _ (fun A=>A.eval (.tmp 9)=.pointer (some ⟨f3,0,none⟩)/\A.eval (.tmp 6)=.pointer (some ⟨w.heap.size+1,0,none⟩)/\65<A.tmps.size/\A.defers=[{ target:=.collected D,args:=#[] }]) ⟨rfl,rfl,by simp,rfl⟩ ?_;rintro A ⟨h9,h6,hsz',hdf⟩
  have h9':A.tmps[9]?.getD undef=.pointer (some ⟨f3,0,none⟩):=by rw[<- Array.getD_eq_getD_getElem?];exact h9
  have s57:57<A.tmps.size:=by omega
  have s58:58<A.tmps.size:=by omega
  have s59:59<A.tmps.size:=by omega
  have s60:60<A.tmps.size:=by omega
  have s61:61<A.tmps.size:=by omega
  have s62:62<A.tmps.size:=by omega
  have s63:63<A.tmps.size:=by omega
  have s64:64<A.tmps.size:=by omega
  have s65:65<A.tmps.size:=by omega
  clear hsz';have hSV:Has f3 0 (.pointer (some ⟨G,0,none⟩)) W.drew:=hFd.fl.c3;refine wp_region_noPanic ?_;refine wp_region_held (S:=Has f3 0 (.pointer (some ⟨G,0,none⟩))) (by kernel_rfl) ?_;refine wpAnyH_take (i:=0) (v:=.pointer (some ⟨G,0,none⟩)) rfl (by kernel_rfl) (by kernel_rfl) (by kernel_rfl) (fun _ _ _ h=>h) (Or.inl ⟨by rfl,fun w' hS'=>?_⟩) hSV ?_
  ·have hc:=hS'.1
   simp only[BZ.z,execOp,R2.ev_same,R2.ev_other,R2.size_put,ne_eq,Nat.reduceEqDiff,not_false_eq_true,h9,h6,s57,s58,s59,s60,s61,s62,s63,s64,s65];go_simp
  simp only[BZ.z];refine wpAnyH_take (i:=4) (v:=.pointer (some ⟨G,0,none⟩)) rfl (by kernel_rfl) (by kernel_rfl) (by kernel_rfl) (fun _ _ _ h=>h) (Or.inl ⟨by rfl,fun w' hS'=>?_⟩) hSV ?_
  ·have hc:=hS'.1
   simp only[BZ.z,execOp,R2.ev_same,R2.ev_other,R2.size_put,ne_eq,Nat.reduceEqDiff,not_false_eq_true,h9,h6,s57,s58,s59,s60,s61,s62,s63,s64,s65];go_simp
  simp only[BZ.z];refine wpAnyH_take (i:=1) (v:=.pointer (some ⟨G,0,none⟩)) rfl (by kernel_rfl) (by kernel_rfl) (by kernel_rfl) (fun _ _ _ h=>h) (Or.inl ⟨by rfl,fun w' hS'=>?_⟩) hSV ?_
  ·simp only[BZ.z,execOp,R2.ev_same,R2.ev_other,R2.size_put,ne_eq,Nat.reduceEqDiff,not_false_eq_true,h9,h6,s57,s58,s59,s60,s61,s62,s63,s64,s65]
   go_simp
  simp only[BZ.z];refine wpAnyH_take (i:=5) (v:=.pointer (some ⟨G,0,none⟩)) rfl (by kernel_rfl) (by kernel_rfl) (by kernel_rfl) (fun _ _ _ h=>h) (Or.inl ⟨by rfl,fun w' hS'=>?_⟩) hSV ?_
  ·simp only[BZ.z,execOp,R2.ev_same,R2.ev_other,R2.size_put,ne_eq,Nat.reduceEqDiff,not_false_eq_true,h9,h6,s57,s58,s59,s60,s61,s62,s63,s64,s65]
   go_simp
  simp only[BZ.z];refine wpAnyH_take (i:=2) (v:=.pointer (some ⟨G,0,none⟩)) rfl (by kernel_rfl) (by kernel_rfl) (by kernel_rfl) (fun _ _ _ h=>h) (Or.inl ⟨by rfl,fun w' hS'=>?_⟩) hSV ?_
  ·simp only[BZ.z,execOp,R2.ev_same,R2.ev_other,R2.size_put,ne_eq,Nat.reduceEqDiff,not_false_eq_true,h9,h6,s57,s58,s59,s60,s61,s62,s63,s64,s65]
   go_simp
  simp only[BZ.z];refine wpAnyH_take (i:=6) (v:=.pointer (some ⟨G,768,none⟩)) rfl (by kernel_rfl) (by kernel_rfl) (by kernel_rfl) (fun _ _ _ h=>h) (Or.inl ⟨by rfl,fun w' hS'=>?_⟩) hSV ?_
  ·simp only[BZ.z,execOp,R2.ev_same,R2.ev_other,R2.size_put,ne_eq,Nat.reduceEqDiff,not_false_eq_true,h9,h6,s57,s58,s59,s60,s61,s62,s63,s64,s65]
   go_simp
  simp only[BZ.z];refine R2.one_call (i:=3) (by kernel_rfl) rfl rfl (.tmp 59) _ rfl (.pointer (some ⟨G,0,none⟩)) (by simp only[R2.ev_same,R2.ev_other,R2.size_put,ne_eq,Nat.reduceEqDiff,not_false_eq_true,h9,h6,s57,s58,s59,s60,s61,s62,s63,s64,s65]) (enters_of func163 (by kernel_rfl) rfl) ((text_m hFd hla).mono ?_);rintro e w4 ⟨rfl,h4⟩;refine ⟨_,rfl,h4.fl.c3,?_⟩;simp only[BZ.z];refine R2.one_call (i:=7) (by kernel_rfl) rfl rfl (.tmp 63) _ rfl (.pointer (some ⟨G,768,none⟩)) (by simp only[R2.ev_same,R2.ev_other,R2.size_put,ne_eq,Nat.reduceEqDiff,not_false_eq_true,h9,h6,s57,s58,s59,s60,s61,s62,s63,s64,s65]) (enters_of func163 (by kernel_rfl) rfl) ((text_d h4 hll).mono ?_);rintro e w5 ⟨rfl,h5⟩;refine ⟨_,rfl,h5.fl.c3,?_⟩;simp only[BZ.z];refine wpAnyH_take (i:=8) (v:=.agg #[.string ⟨a.data.toList.toArray⟩,.string ⟨ld.toArray⟩]) rfl (by kernel_rfl) (by kernel_rfl) (by kernel_rfl) (fun _ _ _ h=>h) (Or.inl ⟨by rfl,fun w' hS'=>?_⟩) h5.fl.c3 ?_
  ·simp only[BZ.z,execOp,R2.ev_same,R2.ev_other,R2.size_put,ne_eq,Nat.reduceEqDiff,not_false_eq_true,h9,h6,s57,s58,s59,s60,s61,s62,s63,s64,s65]
   go_simp
  simp only[BZ.z]
  have hth:w5.there (w.heap.size+1) 0 2:=fun j hj=>by
   match j,hj with
   | 0,_=>exact ⟨by rw[h5.fl.r0.1];rfl,h5.fl.r0.2.1⟩
   | 1,_=>exact ⟨by rw[h5.fl.r1.1];rfl,h5.fl.r1.2.1⟩
  refine R2.last_store (i:=9) (by kernel_rfl) rfl rfl 28 (.tmp 6) (.tmp 65) rfl (w.heap.size+1) 0 [.string ⟨a.data.toList.toArray⟩,.string ⟨ld.toArray⟩] (by simp only[R2.ev_same,R2.ev_other,R2.size_put,ne_eq,Nat.reduceEqDiff,not_false_eq_true,h9,h6,s57,s58,s59,s60,s61,s62,s63,s64,s65]) (by simp only[R2.ev_same,R2.ev_other,R2.size_put,ne_eq,Nat.reduceEqDiff,not_false_eq_true,h9,h6,s57,s58,s59,s60,s61,s62,s63,s64,s65]) hth infoDev (by simp[Value.oneCell']) (h5.fl.c3.set (fun e=>hnf e.symm) _) (by kernel_rfl) ?_;refine NoPanic.normal ?_;have hh:(w5.setCells (w.heap.size+1) 0 [.string ⟨a.data.toList.toArray⟩,.string ⟨ld.toArray⟩]).heap[D]? = some (.deferred (some [])):=(heap_set _ (by omega) _ _ ()).trans h5.dk;have hrng:=World.rangeAt_setCells_same w5 (w.heap.size+1) 0 [.string ⟨a.data.toList.toArray⟩,.string ⟨ld.toArray⟩] hth;have hbel:=B0.below_setCells (Nat.le_succ w.heap.size) [.string ⟨a.data.toList.toArray⟩,.string ⟨ld.toArray⟩] 0 _ h5.fl.bel;rw[hself] at hh hrng hbel ⊢;obtain ⟨W6,hW6⟩:∃ W6,w5.setCells (w.heap.size+1) 0 [.string a,.string ⟨ld.toArray⟩]=W6:=⟨_,rfl⟩;rw[hW6] at hh hrng hbel ⊢;refine hKr _ _ ?_
  refine R2.abs_wp _ (fun A2=>A2.eval (.tmp 6)=.pointer (some ⟨w.heap.size+1,0,none⟩)/\A2.defers=[{ target:=.collected D,args:=#[] }]) ⟨by simp only[BZ.z,R2.put_none,R2.ev_same,R2.ev_other,R2.size_put,ne_eq,Nat.reduceEqDiff,not_false_eq_true,h9,h6,s57,s58,s59,s60,s61,s62,s63,s64,s65],by simp only[BZ.z,R2.put_none,R2.defers_put];exact hdf⟩ ?_;rintro A2 ⟨k6,kdf⟩
  have hr':(W6.putObj D (.deferred none)).rangeAt (w.heap.size+1) 0 [.string a,.string ⟨ld.toArray⟩]:=fun j v hj=>cell_kept (hrng j v hj) (grownBy_putObj' _ D _) (fun r e=>by cases e;exact ⟨_,hh,rfl⟩)
  have hlv:=run_loadVar_mid (P:=prog) _ _ _ 28 _ _ hr' underlying28 rfl infoDev;have hbb:=hbel.trans (belowK_b (w:=w) (Nat.le_refl _) W6 D _ (.deferred none) (by omega) hh rfl rfl);clear hKr h4 h5 hth hrng hbel hFd hSV;refine wp_ret ?_;refine R2.leave kdf hh ⟨.agg #[.string a,.string ⟨ld.toArray⟩],?_,?_⟩
  ·rw[A0.results_cell rfl]
   show ((asAddr (A2.eval (.tmp 6))).run prog _).andThen _=_
   rw[k6];simp only[asAddr,Sem.run_pure,Result.andThen_ok];exact hlv
  ·exact ⟨by rw[<- hld],hbb⟩
end F1
namespace F2
open ChangeShapes WideShapes ChangeAt RowKit
open X0 (row mix)
def span (x y:Nat) (k:Nat):Bool:=decide (x<=k/\k<=y)
def upto (x y m:Nat) (k:Nat):Bool:=decide (x<=k/\k<=y/\k<m)
theorem upto_step {x y k i:Nat} (hi:i≠k):upto x y k i=upto x y (k+1) i:=by simp only[upto];congr 1;apply propext;omega
variable {B : Nat} {w W : World} {a b : ByteArray}
theorem set1 (h:D2.Fr B w a b W) (x:ByteArray):D2.Fr B w a x (W.setCell ⟨B,1,none⟩ (.string x)):=
  ⟨(World.cell?_setCell_other _ _ _ _ (by simp)).trans h.c0,World.cell?_setCell_same _ _ _ h.c1,(World.cell?_setCell_other _ _ _ _ (by simp)).trans h.r0,(World.cell?_setCell_other _ _ _ _ (by simp)).trans h.r1,
   by rw[World.frozen?_setCell];exact h.f0,by rw[World.frozen?_setCell];exact h.f1,by rw[World.frozen?_setCell];exact h.g0,by rw[World.frozen?_setCell];exact h.g1,
   by have:=h.lt;simpa [World.setCell] using this,h.bel.setCell (p:=⟨B,1,none⟩) (Nat.le_refl _) _⟩
theorem wf_of (n:Int) (h0 : -9223372036854775808<=n) (h1:n<=9223372036854775807):(Lit.int .i64 n).wf=true:=by
 simp[Lit.wf,IntKind.min,IntKind.max,IntKind.signed,IntKind.bits];omega
theorem l02Line (a b:ByteArray) (k:Nat) (w:World) (ha:a.size=768) (hb:b.size=768) (hk:k<96) :
  Calls prog 97 #[.agg #[.string a,.string b],Iv (k:Int)] w (Rb (.agg #[.string a,.string (B5.laid b ((k:Int)*8) (B2.part a ((k:Int)*8) 8))]) w):=by
 have hF:=D2.fr_new a b w;have wk:(Lit.int .i64 ((k:Int)*8)).wf=true:=wf_of _ (by omega) (by omega)
 have hp:(B2.part a ((k:Int)*8) 8).size=8:=by rw[X0.part_row a k ha hk];show (row a.data.toList k).toArray.size=8;rw[List.size_toArray,X0.row,List.length_take,List.length_drop,<- Lib.size_eq];omega
 obtain ⟨p,hpp⟩:∃ p,B2.part a ((k:Int)*8) 8=p:=⟨_,rfl⟩;rw[hpp] at hp ⊢;go_enter func97,ntmps97;go_wp2;obtain ⟨W,hW⟩:∃ W,(w.alloc (.cells #[.string a,.string b] 28)).alloc (.cells #[.string ⟨#[]⟩,.string ⟨#[]⟩] 28)=W:=⟨_,rfl⟩;rw[hW] at hF ⊢;have c0:=hF.c0;have c1:=hF.c1;have g1:=hF.g1;have hFd:=hF.drew
 have hwr:IntKind.i64.wrap ((k:Int)*8)=(k:Int)*8:=by rw[IntKind.wrap_i64];omega
 have hpt:Hid (∀ W,Calls prog 58 #[.string a,Iv ((k:Int)*8),Iv 8] W fun e w'=>e=.returned (.string p)/\W=w'):=fun W=>(B2.spec_Part _ _ _ _ (by unfold maxLen;omega) wk rfl).mono fun _ _ h=>⟨by rw[h.1,hpp],h.2.symm⟩
 clear hpp hW
 go_region_with (first
  | (go_at_call 58;refine (hpt.out _).mono ?_;rintro e w3 ⟨rfl,rfl⟩)
  | (go_at_call 66;refine (D2.spec_with_fr (B:=w.heap.size) (w:=w) (a:=a) (b:=b) _ _ _ (by omega) (by omega) hFd).mono ?_;rintro e w4 ⟨rfl,h4⟩;have z0:=h4.c1;have z1:=h4.g1))
 all_goals
  have h5:=set1 h4 (B5.laid b ((k:Int)*8) p);have y0:=h5.c0;have y1:=h5.c1;have y2:=h5.r0;have y3:=h5.r1;have y4:=h5.f0;have y5:=h5.f1;go_wp2;have q:=D2.ret2 (a:=a) (b:=B5.laid b ((k:Int)*8) p) y2 y3;exact bodyPost_ret (v:=.agg #[.string a,.string (B5.laid b ((k:Int)*8) p)]) (by simp[results,results97,go_sem,q.1,q.2]) rfl ⟨rfl,h5.done _ _⟩
end F2
namespace F3
open ChangeShapes WideShapes ChangeAt RowKit
open X0 (row mix)
def goes (a b:ByteArray) (i n:Int):Bool:=D1.ok a b && (B2.lies a.size i n && !decide (n=0))
def flushed (a b:ByteArray) (i n:Int):ByteArray:=if goes a b i n then ⟨(mix a.data.toList b.data.toList (F2.span (i.toNat / 8) ((i.toNat+n.toNat-1) / 8))).toArray⟩ else b
theorem goes_true {a b:ByteArray} {i n:Int} (h:goes a b i n=true):(a.size=768/\b.size=768)/\0<=i/\1<=n/\i+n<=768:=by
 simp only[goes,Bool.and_eq_true,Bool.not_eq_true',decide_eq_false_iff_not] at h;have h1:=D1.ok_true h.1;have h2:=B2.lies_true h.2.1;have h3:=h.2.2;refine ⟨h1,?_⟩;omega
theorem fd_size (la lb:List UInt8) (p:Nat->Bool):(⟨(mix la lb p).toArray⟩:ByteArray).size=768:=by
 show (mix la lb p).toArray.size=768
 rw[List.size_toArray,X0.mix_len]
theorem spec_Flush (a b:ByteArray) (i n:Int) (w:World) (ha:a.size<=281474976710656) (hb:b.size<=281474976710656) (wi:(Lit.int .i64 i).wf=true) (wn:(Lit.int .i64 n).wf=true) :
  Calls prog 75 #[.agg #[.string a,.string b],Iv i,Iv n] w (Rb (.agg #[.string a,.string (flushed a b i n)]) w):=by
 have hF:=D2.fr_new a b w
 have hm:a.size<=maxLen:=by unfold maxLen;omega
 by_cases hok:D1.ok a b=true
 ·by_cases h1n:n<1
  ·have e:flushed a b i n=b:=by
    rw[flushed,if_neg];intro h;have:=goes_true h;omega
   rw[e];go_enter func75,ntmps75
   go_wp2_with (go_at_call 31;refine (D2.spec_DevOk_fr _ _ ha hb hF).mono ?_;rintro e w1 ⟨rfl,h1⟩;obtain ⟨d0,d1,d2,d3,d4,d5,d6,d7,d8,d9⟩:=id h1)
   have q:=D2.ret2 (a:=a) (b:=b) d2 d3;exact bodyPost_ret (v:=.agg #[.string a,.string b]) (by simp[results,results75,go_sem,q.1,q.2]) rfl ⟨rfl,h1.done _ _⟩
  ·by_cases hlie:B2.lies a.size i n=true
   ·have hgo:goes a b i n=true:=by rw[goes,hok,hlie,decide_eq_false (by omega:¬ n=0)];rfl
    obtain ⟨⟨ha7,hb7⟩,hi,hn,hin⟩:=goes_true hgo;have e:flushed a b i n=⟨(mix a.data.toList b.data.toList (F2.span (i.toNat / 8) ((i.toNat+n.toNat-1) / 8))).toArray⟩:=if_pos hgo;rw[e];clear e hgo
    have hps:((B2.part a i n).size:Int)=n:=by
     rw[B2.part,if_pos hlie,ByteArray.size_extract];omega
    obtain ⟨m,rfl⟩:∃ m:Nat,i=m:=⟨i.toNat,by omega⟩;obtain ⟨c,rfl⟩:∃ c:Nat,n=c:=⟨n.toNat,by omega⟩;simp only[Int.toNat_natCast]
    have hpn:(((B2.part a (m:Int) (c:Int)).size:Int) != (c:Int))=false:=by rw[hps];simp
    have hlb:b.data.toList.length=768:=by rw[<- Lib.size_eq];exact hb7
    obtain ⟨x,hx⟩:∃ x,m / 8=x:=⟨_,rfl⟩;obtain ⟨y,hy⟩:∃ y,(m+c-1) / 8=y:=⟨_,rfl⟩;rw[hx,hy]
    have hx':(m:Int) / 8=(x:Int):=by omega
    have hy':((m:Int)+(c:Int)-1) / 8=(y:Int):=by omega
    have hxy:x<=y:=by omega
    have hy95:y<=95:=by omega
    have hpt:Hid (∀ W,Calls prog 58 #[.string a,Iv (m:Int),Iv (c:Int)] W fun e w'=>e=.returned (.string (B2.part a (m:Int) (c:Int)))/\W=w'):=fun W=>(B2.spec_Part _ _ _ _ hm wi wn).mono fun _ _ h=>⟨h.1,h.2.symm⟩
    clear hps hlie;go_enter func75,ntmps75
    go_wp2_with (first
     | (go_at_call 31;refine (D2.spec_DevOk_fr _ _ ha hb hF).mono ?_;rintro e w1 ⟨rfl,h1⟩;have c0:=h1.c0;have c1:=h1.c1)
     | (go_at_call 58;refine (hpt.out _).mono ?_;rintro e w' ⟨rfl,rfl⟩))
    go_loopw [7] (fun t w'=>∃ k:Nat,x<=k/\k<=y+1/\t=Iv k/\D2.Fr w.heap.size w a ⟨(mix a.data.toList b.data.toList (F2.upto x y k)).toArray⟩ w') (fun t _=>y+1-(intOf t).toNat)
    case atStart=>
     refine ⟨x,Nat.le_refl _,by omega,rfl,?_⟩
     rw[X0.mix_none _ _ hlb (F2.upto x y x) (fun k _=>decide_eq_false (by omega)),show (⟨b.data.toList.toArray⟩:ByteArray)=b from Lib.mk_data b]
     exact h1
    case round=>
     obtain ⟨k,hxk,hky,rfl,hFr⟩:=hrel;have z0:=hFr.c0;have z1:=hFr.c1;clear h1 c0 c1 hF
     by_cases hlt:k<=y
     ·have e1:(k:Int)<=(y:Int):=by omega
      have HM:Hid (B5.laid ⟨(mix a.data.toList b.data.toList (F2.upto x y k)).toArray⟩ ((k:Int)*8) (B2.part a ((k:Int)*8) 8)=⟨(mix a.data.toList b.data.toList (F2.upto x y (k+1))).toArray⟩):=X0.laid_row a b.data.toList (F2.upto x y k) (F2.upto x y (k+1)) k ha7 (by omega) (fun i _ hi=>F2.upto_step hi) (decide_eq_true (by omega));have hbs:=fd_size a.data.toList b.data.toList (F2.upto x y k);obtain ⟨bk,hbk⟩:∃ bk:ByteArray,(⟨(mix a.data.toList b.data.toList (F2.upto x y k)).toArray⟩:ByteArray)=bk:=⟨_,rfl⟩;rw[hbk] at hFr z1 HM hbs
      have hk96:k<96:=by omega
      clear hbk hpt
      go_wp2_with (go_at_call 97;refine (F2.l02Line a bk k _ ha7 hbs hk96).mono ?_;rintro e w2 ⟨rfl,b2⟩;have h4:=hFr.below b2;have v0:=h4.c0;have v1:=h4.c1;have v2:=h4.g0;have v3:=h4.g1)
      have h5:=F2.set1 (h4.set0 a) (B5.laid bk ((k:Int)*8) (B2.part a ((k:Int)*8) 8))
      go_roundw
      case rel=>exact ⟨k+1,by omega,by omega,by go_num,by rw[<- HM.out];exact h5⟩
      case measure=>simp[intOf];omega
     ·obtain rfl:k=y+1:=by omega
      have hmc:=X0.mix_congr a.data.toList b.data.toList (F2.upto x y (y+1)) (F2.span x y) (fun i _=>by simp only[F2.upto,F2.span];congr 1;apply propext;omega);rw[hmc] at hFr z1;obtain ⟨bk,hbk⟩:∃ bk:ByteArray,(⟨(mix a.data.toList b.data.toList (F2.span x y)).toArray⟩:ByteArray)=bk:=⟨_,rfl⟩;rw[hbk] at hFr z1;have HB:Hid ((⟨(mix a.data.toList b.data.toList (F2.span x y)).toArray⟩:ByteArray)=bk):=hbk;have d2:=hFr.r0;have d3:=hFr.r1;have d4:=hFr.f0;have d5:=hFr.f1;clear hbk hmc hpt;go_wp2;have q:=D2.ret2 (a:=a) (b:=bk) d2 d3;exact bodyPost_ret (v:=.agg #[.string a,.string bk]) (by simp[results,results75,go_sem,q.1,q.2]) rfl ⟨by rw[HB.out],hFr.done _ _⟩
   ·have hlie':B2.lies a.size i n=false:=by simpa using hlie
    have e:flushed a b i n=b:=by rw[flushed,goes,hlie',Bool.false_and,Bool.and_false];rfl
    rw[e]
    have hps:((B2.part a i n).size:Int)=0:=by rw[B2.part,hlie'];rfl
    have hpn:(((B2.part a i n).size:Int) != n)=true:=by rw[hps];simp;omega
    have hpt:Hid (∀ W,Calls prog 58 #[.string a,Iv i,Iv n] W fun e w'=>e=.returned (.string (B2.part a i n))/\W=w'):=fun W=>(B2.spec_Part _ _ _ _ hm wi wn).mono fun _ _ h=>⟨h.1,h.2.symm⟩
    clear hps hlie;go_enter func75,ntmps75
    go_wp2_with (first
     | (go_at_call 31;refine (D2.spec_DevOk_fr _ _ ha hb hF).mono ?_;rintro e w1 ⟨rfl,h1⟩;obtain ⟨d0,d1,d2,d3,d4,d5,d6,d7,d8,d9⟩:=id h1)
     | (go_at_call 58;refine (hpt.out _).mono ?_;rintro e w' ⟨rfl,rfl⟩))
    have q:=D2.ret2 (a:=a) (b:=b) d2 d3;exact bodyPost_ret (v:=.agg #[.string a,.string b]) (by simp[results,results75,go_sem,q.1,q.2]) rfl ⟨rfl,h1.done _ _⟩
 ·have hok':D1.ok a b=false:=by simpa using hok
  have e:flushed a b i n=b:=by rw[flushed,goes,hok'];rfl
  rw[e];go_enter func75,ntmps75
  go_wp2_with (go_at_call 31;refine (D2.spec_DevOk_fr _ _ ha hb hF).mono ?_;rintro e w1 ⟨rfl,h1⟩;obtain ⟨d0,d1,d2,d3,d4,d5,d6,d7,d8,d9⟩:=id h1)
  have q:=D2.ret2 (a:=a) (b:=b) d2 d3;exact bodyPost_ret (v:=.agg #[.string a,.string b]) (by simp[results,results75,go_sem,q.1,q.2]) rfl ⟨rfl,h1.done _ _⟩
end F3
namespace F4
open ChangeShapes WideShapes ChangeAt RowKit
open F3 (goes flushed goes_true)
theorem impl_Flush (a b:ByteArray) (i n:Int) (w:World) (ha:a.size<=281474976710656) (hb:b.size<=281474976710656) :
  Calls prog 127 #[.agg #[.string a,.string b],Iv i,Iv n] w (Rb (.agg #[.string a,.string (flushed a b i n)]) w):=by
 have hm:a.size<=maxLen:=by unfold maxLen;omega
 by_cases hgo:goes a b i n=true
 ·obtain ⟨⟨ha7,hb7⟩,hi,hn,hin⟩:=goes_true hgo
  have e:flushed a b i n=⟨(X0.mix a.data.toList b.data.toList (F1.span (i.toNat / 8) ((i.toNat+n.toNat-1) / 8))).toArray⟩:=if_pos hgo;rw[e];exact F1.impl_Flush_main a b i n w ha7 hb7 hi hn hin
 ·have e:flushed a b i n=b:=if_neg hgo
  rw[e];have hF:=D2.fr_new a b w
  by_cases hok:D1.ok a b=true
  ·by_cases hlie:B2.lies a.size i n=true
   ·have hn0:n=0:=by
     by_cases h:n=0
     ·exact h
     ·exact absurd (by rw[goes,hok,hlie,decide_eq_false h];rfl) hgo
    subst hn0;clear hgo e;go_enter func127,ntmps127
    go_wp2_with (first
     | (go_at_call 99;refine (D2.impl_DevOk_fr _ _ ha hb hF).mono ?_;rintro e w1 ⟨rfl,h1⟩;have c0:=h1.c0;have c1:=h1.c1)
     | (go_at_call 160;refine ((B2.liesIn_any _ _ _ _ hm).mono fun _ _ h=>(⟨h.1,h.2.symm⟩:_/\_=_)).mono ?_;rintro e w' ⟨rfl,rfl⟩)
     | (go_at_call 83;refine (D2.devCopy_fr _ _ ha hb h1).mono ?_;rintro e w2 ⟨rfl,h2⟩;obtain ⟨d0,d1,d2,d3,d4,d5,d6,d7,d8,d9⟩:=id h2))
    have q:=D2.ret2 (a:=a) (b:=b) d2 d3;exact bodyPost_ret (v:=.agg #[.string a,.string b]) (by simp[results,results127,go_sem,q.1,q.2]) rfl ⟨rfl,h2.done _ _⟩
   ·have hlie':B2.lies a.size i n=false:=by simpa using hlie
    clear hgo e hlie;go_enter func127,ntmps127
    go_wp2_with (first
     | (go_at_call 99;refine (D2.impl_DevOk_fr _ _ ha hb hF).mono ?_;rintro e w1 ⟨rfl,h1⟩;have c0:=h1.c0;have c1:=h1.c1)
     | (go_at_call 160;refine ((B2.liesIn_any _ _ _ _ hm).mono fun _ _ h=>(⟨h.1,h.2.symm⟩:_/\_=_)).mono ?_;rintro e w' ⟨rfl,rfl⟩)
     | (go_at_call 83;refine (D2.devCopy_fr _ _ ha hb h1).mono ?_;rintro e w2 ⟨rfl,h2⟩;obtain ⟨d0,d1,d2,d3,d4,d5,d6,d7,d8,d9⟩:=id h2))
    have q:=D2.ret2 (a:=a) (b:=b) d2 d3;exact bodyPost_ret (v:=.agg #[.string a,.string b]) (by simp[results,results127,go_sem,q.1,q.2]) rfl ⟨rfl,h2.done _ _⟩
  ·have hok':D1.ok a b=false:=by simpa using hok
   clear hgo e hok;go_enter func127,ntmps127
   go_wp2_with (first
    | (go_at_call 99;refine (D2.impl_DevOk_fr _ _ ha hb hF).mono ?_;rintro e w1 ⟨rfl,h1⟩;have c0:=h1.c0;have c1:=h1.c1)
    | (go_at_call 160;refine ((B2.liesIn_any _ _ _ _ hm).mono fun _ _ h=>(⟨h.1,h.2.symm⟩:_/\_=_)).mono ?_;rintro e w' ⟨rfl,rfl⟩)
    | (go_at_call 83;refine (D2.devCopy_fr _ _ ha hb h1).mono ?_;rintro e w2 ⟨rfl,h2⟩;obtain ⟨d0,d1,d2,d3,d4,d5,d6,d7,d8,d9⟩:=id h2))
   have q:=D2.ret2 (a:=a) (b:=b) d2 d3;exact bodyPost_ret (v:=.agg #[.string a,.string b]) (by simp[results,results127,go_sem,q.1,q.2]) rfl ⟨rfl,h2.done _ _⟩
end F4
end Go.Proofs.YtlejhfnjmkdobaaGreatDoor
