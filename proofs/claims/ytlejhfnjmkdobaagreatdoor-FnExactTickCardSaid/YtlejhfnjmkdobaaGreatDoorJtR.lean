/- Joined texts. -/
import Derived.Test.YtlejhfnjmkdobaaGreatDoorJtO
set_option linter.unusedVariables false
set_option linter.unusedSimpArgs false
set_option maxRecDepth 10000
set_option maxHeartbeats 16000000
namespace Go.Proofs.YtlejhfnjmkdobaaGreatDoor
open ChangeShapes WideShapes ChangeAt RowKit
open Go.Proofs.Tryz
namespace D3
open N0 (Ln)
open N1 (Sl)
open P1 (ret_bool)
open J0 (IBuf Own)
def had (d:Ln) (x:Int):Bool:=P0.has (D0.inos (N5.oldE d)) x
def xk (es:List T0.Ent) (k:Nat):Int:=(T0.ent es k).1
def entAt (mem:ByteArray) (d:Ln) (es:List T0.Ent) (i:Nat):Bool:=had d (xk es i) || D2.newOk mem d (xk es i)
def gath (mem:ByteArray) (d:Ln) (Z:List Int) (es:List T0.Ent):Nat->List Int
 | 0=>Z
 | k+1=>if had d (xk es k) then gath mem d Z es k else gath mem d Z es k++G0.gZ (O0.recd mem (xk es k))
def entOk (mem:ByteArray) (d:Ln) (Z:List Int) (es:List T0.Ent):Bool:=N0.to (entAt mem d es) es.length && P0.pagesOk (gath mem d Z es es.length)
theorem gZ_len (u:ByteArray):(G0.gZ u).length<=100:=by
 unfold G0.gZ
 split
 ·rw[G0.pgs_length]
  have:=G0.cnt_le u;omega
 ·exact Nat.zero_le _
theorem gath_len (mem:ByteArray) (d:Ln) (Z:List Int) (es:List T0.Ent):∀ k,(gath mem d Z es k).length<=Z.length+100*k
 | 0=>by simp[gath]
 | k+1=>by
  have h:=gath_len mem d Z es k;rw[gath]
  split
  ·omega
  ·rw[List.length_append]
   have:=gZ_len (O0.recd mem (xk es k));omega
structure En (w:World) (ts ns:List Value) (W:World):Prop where
 box:K0.Blk w.heap.size ts W
 nb:K0.Blk (w.heap.size+1) ns W
 bel:Bq w W
 lt:w.heap.size+2<=W.heap.size
variable {w W W' : World} {ts ns : List Value}
theorem En.below (h:En w ts ns W) (hb:Bq W W'):En w ts ns W':=⟨h.box.below hb,h.nb.below hb,h.bel.trans (hb.mono h.bel.size),Nat.le_trans h.lt hb.size⟩
theorem En.keep (h:En w ts ns W) (hb:Below (w.heap.size+2) W W'):En w ts ns W':=⟨J0.blk_keep h.box hb (by omega),J0.blk_keep h.nb hb (by omega),h.bel.trans (hb.mono (by omega)),Nat.le_trans h.lt hb.size⟩
theorem en_new (w:World) (ts ns:List Value) (T T':TypeId):En w ts ns ((w.alloc (.cells ts.toArray T)).alloc (.cells ns.toArray T')):=
 ⟨(K0.blk_new ts w T).alloc _,K0.blk_at ns _ T' (by simp),((Below.refl _ _).alloc (Nat.le_refl _) _).alloc (by simp) _,by simp⟩
theorem cells5 {B:Nat} {x0 x1 x2 x3 x4:Value} {l:List Value} (h:K0.Blk B (x0 :: x1 :: x2 :: x3 :: x4 :: l) W):Ce W B 0 x0/\Ce W B 1 x1/\Ce W B 2 x2/\Ce W B 3 x3/\Ce W B 4 x4:=⟨h.cell 0 (by simp),h.cell 1 (by simp),h.cell 2 (by simp),h.cell 3 (by simp),h.cell 4 (by simp)⟩
theorem entriesOk (k o t:Int) (a:Option Addr) (n c:Nat) (ae:Option Addr) (ce:Nat) (d:Ln) (s:Sl) (mem:ByteArray) (k2 o2 t2:Int) (a2:Option Addr) (c2:Nat) (x2:ByteArray) (ae2:Option Addr) (ce2:Nat) (Z:List Int) (es:List T0.Ent) (w:World)
  (hms:mem.size<=281474976710656) (hpo:d.po.length<=1048576) (hfr:d.fr.length<=1048576) (hZ:Z.length<=1000) (hes:es.length<=13) (hold:(N5.oldE d).length<=13) (P2:P0.Row w s.a2 d.po) (P3:P0.Row w s.a3 d.fr) (PE:T0.Row w ae (N5.oldE d)) (PZ:P0.Row w a2 Z) (PS:T0.Row w ae2 es) :
  Calls prog 184 #[N7.tv k o t a n c ae (N5.oldE d).length ce d s,.string mem,D1.nv k2 o2 t2 a2 Z.length c2 x2 ae2 es.length ce2] w (Rb (.bool (entOk mem d Z es)) w):=by
 have e0:=en_new w (N7.tvs k o t a n c ae (N5.oldE d).length ce d s) (D1.nvs k2 o2 t2 a2 Z.length c2 x2 ae2 es.length ce2) 189 215
 have HE:Hid (∀ W,Bq w W->T0.Row W ae (N5.oldE d)):=fun W hb=>PE.below hb
 have HS:Hid (∀ W,Bq w W->T0.Row W ae2 es):=fun W hb=>PS.below hb
 have HNew:Hid (∀ x W,Bq w W->Calls prog 213 #[N7.tv k o t a n c ae (N5.oldE d).length ce d s,.string mem,Iv x] W (D2.Ans mem d x W)):=fun x W hb=>D2.newInode k o t a n c ae _ ce d s mem x W hms hpo hfr (P2.below hb) (P3.below hb)
 have HHad:Hid (∀ x W,Bq w W->Calls prog 212 #[N5.pv k o t a n c ae (N5.oldE d).length ce,Iv x] W (Rb (.bool (had d x)) W)):=fun x W hb=>D0.had k o t a n c ae ce (N5.oldE d) x W (by omega) (PE.below hb)
 have HC:Hid (Calls prog 111 #[.slice a2 Z.length c2] ((w.alloc (N7.tObj k o t a n c ae (N5.oldE d).length ce d s)).alloc (.cells #[Iv k2,Iv o2,Iv t2,.slice a2 Z.length c2,.string x2,.slice ae2 es.length ce2] 215)) fun e w'=>∃ a' c',e=.returned (.slice a' Z.length c')/\IBuf (w.heap.size+2) w' a' Z.length c' Z/\Bq ((w.alloc (N7.tObj k o t a n c ae (N5.oldE d).length ce d s)).alloc (.cells #[Iv k2,Iv o2,Iv t2,.slice a2 Z.length c2,.string x2,.slice ae2 es.length ce2] 215)) w'):=
  (D0.clone a2 c2 Z _ hZ (PZ.below e0.bel)).mono fun e w' ⟨a',c',he,hb,hl⟩=>⟨a',c',he,by simpa using hb,hl⟩
 obtain ⟨oE,hoE⟩:∃ oE,(N5.oldE d).length=oE:=⟨_,rfl⟩;rw[hoE] at e0 HNew HHad HC ⊢;clear PE PS PZ P2 P3 hoE HE;go_enter func184,ntmps184
 go_wp2_with (go_at_call 111;refine HC.out.mono ?_;rintro e w1 ⟨a',c',rfl,hb1,l1⟩;have n1:=e0.below l1;obtain ⟨-,-,-,-,-,z5⟩:=D1.cells6 n1.nb)
 go_loopw [7,19] (fun v i w'=>∃ (j cp:Nat) (p:Option Addr),j<=es.length/\i=Iv j/\v=.slice p (gath mem d Z es j).length cp/\IBuf (w.heap.size+2) w' p (gath mem d Z es j).length cp (gath mem d Z es j)/\N0.to (entAt mem d es) j=true/\En w (N7.tvs k o t a n c ae oE ce d s) (D1.nvs k2 o2 t2 a2 Z.length c2 x2 ae2 es.length ce2) w') (fun _ i _=>es.length-(intOf i).toNat)
 case atStart=>exact ⟨0,c',a',Nat.zero_le _,rfl,rfl,hb1,rfl,n1⟩
 case round=>
  obtain ⟨j,cp,p,hj,rfl,rfl,hbuf,hok,hr⟩:=hrel;clear hb1 n1 e0 z5 l1 HC;have hgl:=gath_len mem d Z es j
  by_cases hlt:j<es.length
  ·obtain ⟨b,off,hab,_,hc⟩:=(HS.out _ hr.bel).get hlt
   obtain ⟨y1,y2⟩:=hc j hlt;have hat:entAt mem d es j=(had d (T0.ent es j).1 || D2.newOk mem d (T0.ent es j).1):=rfl
   have hga:gath mem d Z es (j+1)=if had d (T0.ent es j).1 then gath mem d Z es j else gath mem d Z es j++G0.gZ (O0.recd mem (T0.ent es j).1):=rfl
   obtain ⟨z,ez⟩:∃ z,T0.ent es j=z:=⟨_,rfl⟩;rw[ez] at y1 y2 hat hga;obtain ⟨x,nm⟩:=z;simp only at y1 y2 hat hga;rw[hab]
   have e1:(0:Int)<=(j:Int):=by omega
   have e2:(j:Int)<(es.length:Int):=by omega
   have n0:=K0.below_new wr (.cells #[Iv x,.string nm] 133);have kx:=K0.blk_new [Iv x,.string nm] wr 133;have h5:=hr.below n0;obtain ⟨c0,c1,c2',c3,c4⟩:=cells5 h5.box;clear ez hc
   cases hh:had d x with
   | true=>
    have HG:Hid (gath mem d Z es (j+1)=gath mem d Z es j):=by show _=_;rw[hga,hh];rfl
    have HO:Hid (N0.to (entAt mem d es) (j+1)=true):=N0.to_step hok (by rw[hat,hh];rfl);have HH1:=HHad.out x;rw[hh] at HH1;clear hat hga hok HNew hh
    go_wp2_with (go_at_call 212;refine (HH1 _ h5.bel).mono ?_;rintro e w5 ⟨rfl,b5⟩;have h6:=h5.below b5;have f6:=n0.trans (b5.mono n0.size))
    go_roundw
    case rel=>exact ⟨j+1,cp,p,by omega,by go_num,by rw[HG.out],by rw[HG.out];exact hbuf.below f6,HO.out,hab ▸ h6⟩
    case measure=>simp[intOf];omega
   | false=>
    have HH1:=HHad.out x;rw[hh] at HH1
    have HN1:Hid (∀ W,Bq w W->Calls prog 213 #[N7.tv k o t a n c ae oE ce d s,.string mem,Iv x] W fun e w'=>∃ (k3 o3 t3:Int) (a3:Option Addr) (n3 c3:Nat),e=.returned (.tuple #[I0.val k3 o3 t3 a3 n3 c3,.bool (D2.newOk mem d x)])/\Bq W w'/\(D2.newOk mem d x=true->n3=(G0.gZ (O0.recd mem x)).length/\n3<=c3/\J0.Own W.heap.size w' a3 (G0.gZ (O0.recd mem x)))):=fun W hb=>HNew.out x W hb
    have hyl:=gZ_len (O0.recd mem x)
    cases hn:D2.newOk mem d x with
    | true=>
     have HG:Hid (gath mem d Z es (j+1)=gath mem d Z es j++G0.gZ (O0.recd mem x)):=by show _=_;rw[hga,hh];rfl
     have HO:Hid (N0.to (entAt mem d es) (j+1)=true):=N0.to_step hok (by rw[hat,hh,hn];rfl);rw[hn] at HN1;obtain ⟨Y,hY⟩:∃ Y,G0.gZ (O0.recd mem x)=Y:=⟨_,rfl⟩;rw[hY] at HN1 HG hyl;obtain ⟨G,hG⟩:∃ G,gath mem d Z es j=G:=⟨_,rfl⟩;rw[hG] at HG hbuf hgl ⊢;clear hat hga hok HNew hh hn hY hG
     go_wp2_with (first
      | (go_at_call 212;refine (HH1 _ h5.bel).mono ?_;rintro e w5 ⟨rfl,b5⟩;have h6:=h5.below b5;have f6:=n0.trans (b5.mono n0.size);have kx6:=kx.below b5;have q0:=kx6.c0;obtain ⟨d0,d1,d2,d3,d4,d5,d6,d7,d8,d9,d10,d11,d12⟩:=N9.cells13 h6.box)
      | (go_at_call 213;refine (HN1.out _ h6.bel).mono ?_;rintro e w7 ⟨k3,o3,t3,a3,n3,c3,rfl,b7,hy⟩;obtain ⟨rfl,hcy,hoy⟩:=hy trivial;have n8:=K0.below_new w7 (.cells (Iq k3 o3 t3 a3 Y.length c3) 96);have h8:=(h6.below b7).below n8;have f7:=f6.trans (b7.mono f6.size);have f8:=f7.trans (n8.mono f7.size);have hrow:=hoy.row.below n8;have hbuf8:=hbuf.below f8)
      | (at_builtin;refine Q1.append_rows rfl (.tmp 38) (.tmp 40) rfl hbuf8 _ _ Y (by rfl) (by rfl) hrow (by omega) h8.lt ?_;intro a9 c9 w9 hbuf9 l9;have h9:=h8.keep l9))
     go_roundw
     case rel=>exact ⟨j+1,c9,a9,by omega,by go_num,by rw[HG.out,List.length_append],by rw[HG.out,List.length_append];exact hbuf9,HO.out,hab ▸ h9⟩
     case measure=>simp[intOf];omega
    | false=>
     have HR:Hid (entOk mem d Z es=false):=by
      show entOk mem d Z es=false
      rw[entOk,N0.to_bad hlt (by rw[hat,hh,hn];rfl),Bool.false_and]
     rw[hn] at HN1;clear hat hga hok HNew hh hn
     go_wp2_with (first
      | (go_at_call 212;refine (HH1 _ h5.bel).mono ?_;rintro e w5 ⟨rfl,b5⟩;have h6:=h5.below b5;have f6:=n0.trans (b5.mono n0.size);have kx6:=kx.below b5;have q0:=kx6.c0;obtain ⟨d0,d1,d2,d3,d4,d5,d6,d7,d8,d9,d10,d11,d12⟩:=N9.cells13 h6.box)
      | (go_at_call 213;refine (HN1.out _ h6.bel).mono ?_;rintro e w7 ⟨k3,o3,t3,a3,n3,c3,rfl,b7,hy⟩;have n8:=K0.below_new w7 (.cells (Iq k3 o3 t3 a3 n3 c3) 96);have h8:=(h6.below b7).below n8))
     go_ret;exact ⟨ret_bool HR.out.symm,h8.bel⟩
  ·obtain rfl:j=es.length:=by omega
   have HR:Hid (P0.pagesOk (gath mem d Z es es.length)=entOk mem d Z es):=by show _=_;rw[entOk,hok,Bool.true_and]
   have HP:=P1.pagesOk p cp (gath mem d Z es es.length) wr (by omega) hbuf.fits hbuf.own.row;clear hok hbuf
   go_wp2_with (go_at_call 214;refine HP.mono ?_;rintro e w9 ⟨rfl,rfl⟩)
   go_ret;exact ⟨ret_bool HR.out,hr.bel⟩
end D3
namespace D6
open N0 (Ln)
open N1 (Sl Lists Fit LB)
open N5 (oldE)
open N7 (tv tvs tObj)
open N9 (RL rl_new ln0 sl0 cells13 free13 W13 put13 other13 bel13)
open D1 (nv nvs nodeOk nodeE cells6)
def like (mem:ByteArray) (d:Ln):Bool:=decide (G0.gK (O0.recd mem d.ino)=G0.gK d.rc) && decide (G0.gO (O0.recd mem d.ino)=G0.gO d.rc)
def verdict (mem:ByteArray) (d:Ln):Bool:=N0.loanOk d && (decide (mem.size=768) && (nodeOk mem d.ino && (like mem d && (N0.among (G0.gZ (O0.recd mem d.ino)) (d.pg++d.po) && D3.entOk mem d (G0.gZ (O0.recd mem d.ino)) (nodeE mem d.ino)))))
theorem verdict_cases (mem:ByteArray) (d:Ln) :
  (N0.loanOk d=false/\verdict mem d=false)\/(N0.loanOk d=true/\((mem.size:Int) != 768)=true/\verdict mem d=false)\/(N0.loanOk d=true/\mem.size=768/\nodeOk mem d.ino=false/\verdict mem d=false)\/
  (N0.loanOk d=true/\mem.size=768/\nodeOk mem d.ino=true/\like mem d=false/\verdict mem d=false)\/(N0.loanOk d=true/\mem.size=768/\nodeOk mem d.ino=true/\like mem d=true/\N0.among (G0.gZ (O0.recd mem d.ino)) (d.pg++d.po)=false/\verdict mem d=false)\/
  (N0.loanOk d=true/\mem.size=768/\nodeOk mem d.ino=true/\like mem d=true/\N0.among (G0.gZ (O0.recd mem d.ino)) (d.pg++d.po)=true/\verdict mem d=D3.entOk mem d (G0.gZ (O0.recd mem d.ino)) (nodeE mem d.ino)):=by
 unfold verdict
 cases h1:N0.loanOk d with
 | false=>exact Or.inl ⟨rfl,rfl⟩
 | true=>
  right
  by_cases h2:mem.size=768
  ·right
   rw[decide_eq_true h2]
   cases h3:nodeOk mem d.ino with
   | false=>exact Or.inl ⟨rfl,h2,rfl,rfl⟩
   | true=>
    right
    cases h4:like mem d with
    | false=>exact Or.inl ⟨rfl,h2,rfl,rfl,rfl⟩
    | true=>
     right
     cases h5:N0.among (G0.gZ (O0.recd mem d.ino)) (d.pg++d.po) with
     | false=>exact Or.inl ⟨rfl,h2,rfl,rfl,rfl,rfl⟩
     | true=>exact Or.inr ⟨rfl,h2,rfl,rfl,rfl,rfl⟩
  ·left
   exact ⟨rfl,by simp;omega,by rw[decide_eq_false h2];rfl⟩
def Ans (mem:ByteArray) (d:Ln) (s:Sl) (w:World) (e:Ending) (w':World):Prop:=
 ∃ (k o t:Int) (a:Option Addr) (n c:Nat) (ae:Option Addr) (ne ce:Nat) (d':Ln) (s':Sl) (be:Option Addr) (n2 c2:Nat),e=.returned (.tuple #[tv k o t a n c ae ne ce d' s',.slice be n2 c2,.bool (verdict mem d)])/\Bq w w'/\
  (verdict mem d=true->d'=d/\s'=s/\ne=(oldE d).length/\T0.Row w' ae (oldE d)/\n2=(nodeE mem d.ino).length/\T0.Row w' be (nodeE mem d.ino))
theorem ans_no {mem:ByteArray} {d:Ln} {s:Sl} {w w':World} {k o t:Int} {a:Option Addr} {n c:Nat} {ae:Option Addr} {ne ce:Nat} {d':Ln} {s':Sl} {be:Option Addr} {n2 c2:Nat} (h:verdict mem d=false) (hb:Bq w w'):Ans mem d s w (.returned (.tuple #[tv k o t a n c ae ne ce d' s',.slice be n2 c2,.bool false])) w':=
 ⟨k,o,t,a,n,c,ae,ne,ce,d',s',be,n2,c2,by rw[h],hb,fun h'=>by rw[h] at h';cases h'⟩
theorem ans_is {mem:ByteArray} {d:Ln} {s:Sl} {w w':World} {k o t:Int} {a:Option Addr} {n c:Nat} {ae:Option Addr} {ce:Nat} {be:Option Addr} {c2:Nat} {b:Bool} (h:verdict mem d=b) (hb:Bq w w') (h1:T0.Row w' ae (oldE d)) (h2:T0.Row w' be (nodeE mem d.ino)):Ans mem d s w (.returned (.tuple #[tv k o t a n c ae (oldE d).length ce d s,.slice be (nodeE mem d.ino).length c2,.bool b])) w':=
 ⟨k,o,t,a,n,c,ae,_,ce,d,s,be,_,c2,by rw[h],hb,fun _=>⟨rfl,rfl,rfl,h1,rfl,h2⟩⟩
structure LK (w:World) (d:Ln) (s:Sl) (ts ns:List Value) (Bt Bn:Nat) (W:World):Prop where
 r:RL w d s W
 tb:K0.Blk Bt ts W
 nb:K0.Blk Bn ns W
 lt:w.heap.size+2<=Bt/\w.heap.size+2<=Bn
theorem LK.below {w W W':World} {d:Ln} {s:Sl} {ts ns:List Value} {Bt Bn:Nat} (h:LK w d s ts ns Bt Bn W) (hb:Bq W W'):LK w d s ts ns Bt Bn W':=⟨h.r.below hb,h.tb.below hb,h.nb.below hb,h.lt⟩
theorem oldE_len (d:Ln):(oldE d).length<=13:=by
 unfold oldE
 split
 ·unfold V0.dE
  split
  ·rw[V0.ents_length]
   unfold V0.cnt;omega
  ·exact Nat.zero_le _
 ·exact Nat.zero_le _
theorem nodeE_len (mem:ByteArray) (i:Int):(nodeE mem i).length<=13:=by
 unfold nodeE
 split
 ·unfold V0.dE
  split
  ·rw[V0.ents_length]
   unfold V0.cnt;omega
  ·exact Nat.zero_le _
 ·exact Nat.zero_le _
theorem lookBack (mem:ByteArray) (d:Ln) (s:Sl) (w:World) (hms:mem.size<=281474976710656) (hF:Fit d s) (hpo:d.po.length<=1048576) (hfr:d.fr.length<=1048576) (hR:Lists w d s):Calls prog 153 #[.string mem,N1.val d s] w (Ans mem d s w):=by
 have r0:=rl_new w d s
 have HL:Hid (∀ W,Bq w W->Lists W d s):=fun W hb=>hR.below hb
 have HRL:Hid (Calls prog 159 #[N1.val d s] (N9.w00 w d s) fun e w'=>∃ (k o t:Int) (a:Option Addr) (n c:Nat) (ae:Option Addr) (ne ce:Nat) (d':Ln) (s':Sl),e=.returned (.tuple #[tv k o t a n c ae ne ce d' s',.bool (N0.loanOk d)])/\Bq (N9.w00 w d s) w'/\
  (N0.loanOk d=true->d'=d/\s'=s/\k=G0.gK d.rc/\o=G0.gO d.rc/\t=G0.gS d.rc/\n=(G0.gZ d.rc).length/\n<=c/\J0.Own (N9.w00 w d s).heap.size w' a (G0.gZ d.rc)/\ne=(oldE d).length/\ne<=ce/\V1.OwnE (N9.w00 w d s).heap.size w' ae (oldE d))):=N9.readLoan d s _ hF hpo hfr (hR.below r0.bel)
 have HN:Hid (∀ k o t a n c ae ne ce d' s' be n2 c2 w',verdict mem d=false->Bq w w'->Ans mem d s w (.returned (.tuple #[tv k o t a n c ae ne ce d' s',.slice be n2 c2,.bool false])) w'):=fun k o t a n c ae ne ce d' s' be n2 c2 w' h hb=>ans_no h hb
 have HI:Hid (∀ k o t a n c ae ce be c2 b w',verdict mem d=b->Bq w w'->T0.Row w' ae (oldE d)->T0.Row w' be (nodeE mem d.ino)->Ans mem d s w (.returned (.tuple #[tv k o t a n c ae (oldE d).length ce d s,.slice be (nodeE mem d.ino).length c2,.bool b])) w'):=fun k o t a n c ae ce be c2 b w' h hb h1 h2=>ans_is h hb h1 h2
 have hcase:=verdict_cases mem d;obtain ⟨R,hRR⟩:∃ R,Ans mem d s w=R:=⟨_,rfl⟩;rw[hRR] at HN HI ⊢;clear hRR hR hF
 rcases hcase with ⟨g1,hv⟩ | ⟨g1,g2,hv⟩ | ⟨g1,g2,g3,hv⟩ | ⟨g1,g2,g3,g4,hv⟩ | ⟨g1,g2,g3,g4,g5,hv⟩ | ⟨g1,g2,g3,g4,g5,hv⟩
 ·rw[g1] at HRL
  clear g1;go_enter func153,ntmps153
  go_wp2_with (go_at_call 159;refine HRL.out.mono ?_;rintro e w1 ⟨k,o,t,a,n,c,ae,ne,ce,d',s',rfl,b1,-⟩;have r1:=r0.below b1;have r2:=r1.below (K0.below_new w1 (tObj k o t a n c ae ne ce d' s'));obtain ⟨i0,i1,i2,i3,i4,i5,i6,i7,i8,i9,i10,i11,i12⟩:=cells13 r2.res;obtain ⟨j0,j1,j2,j3,j4,j5,j6,j7,j8,j9,j10,j11,j12⟩:=free13 r2.res)
  obtain ⟨u0,u1,u2,u3,u4,u5,u6,u7,u8,u9,u10,u11,u12⟩:=cells13 (put13 r2.res (Iv 0) (Iv 0) (Iv 0) (.slice none 0 0) (.slice none 0 0) (Iv 0) (Iv 0) (Iv 0) (.string ⟨#[]⟩) (.slice none 0 0) (.string ⟨#[]⟩) (.slice none 0 0) (.slice none 0 0));refine bodyPost_ret (v:=.tuple #[tv 0 0 0 none 0 0 none 0 0 ln0 sl0,.slice none 0 0,.bool false]) (by simp[results,results153,go_sem,ln0,sl0,u0,u1,u2,u3,u4,u5,u6,u7,u8,u9,u10,u11,u12]) rfl ?_;exact HN.out _ _ _ _ _ _ _ _ _ _ _ _ _ _ _ (hv) (bel13 r2.bel (by omega) _ _ _ _ _ _ _ _ _ _ _ _ _)
 ·rw[g1] at HRL
  clear g1;go_enter func153,ntmps153
  go_wp2_with (go_at_call 159;refine HRL.out.mono ?_;rintro e w1 ⟨k,o,t,a,n,c,ae,ne,ce,d',s',rfl,b1,-⟩;have r1:=r0.below b1;have r2:=r1.below (K0.below_new w1 (tObj k o t a n c ae ne ce d' s'));obtain ⟨i0,i1,i2,i3,i4,i5,i6,i7,i8,i9,i10,i11,i12⟩:=cells13 r2.res;obtain ⟨j0,j1,j2,j3,j4,j5,j6,j7,j8,j9,j10,j11,j12⟩:=free13 r2.res)
  obtain ⟨u0,u1,u2,u3,u4,u5,u6,u7,u8,u9,u10,u11,u12⟩:=cells13 (put13 r2.res (Iv 0) (Iv 0) (Iv 0) (.slice none 0 0) (.slice none 0 0) (Iv 0) (Iv 0) (Iv 0) (.string ⟨#[]⟩) (.slice none 0 0) (.string ⟨#[]⟩) (.slice none 0 0) (.slice none 0 0));refine bodyPost_ret (v:=.tuple #[tv 0 0 0 none 0 0 none 0 0 ln0 sl0,.slice none 0 0,.bool false]) (by simp[results,results153,go_sem,ln0,sl0,u0,u1,u2,u3,u4,u5,u6,u7,u8,u9,u10,u11,u12]) rfl ?_;exact HN.out _ _ _ _ _ _ _ _ _ _ _ _ _ _ _ (hv) (bel13 r2.bel (by omega) _ _ _ _ _ _ _ _ _ _ _ _ _)
 ·rw[g1] at HRL
  have g8:((mem.size:Int) != 768)=false:=by simp;omega
  have HNd:Hid (∀ W,Calls prog 169 #[.string mem,Iv d.ino] W fun e w'=>∃ (k o t:Int) (a:Option Addr) (n c:Nat) (x:ByteArray) (ae:Option Addr) (ne ce:Nat),e=.returned (.tuple #[nv k o t a n c x ae ne ce,.bool (nodeOk mem d.ino)])/\Bq W w'/\
  (nodeOk mem d.ino=true->k=G0.gK (O0.recd mem d.ino)/\o=G0.gO (O0.recd mem d.ino)/\n=(G0.gZ (O0.recd mem d.ino)).length/\n<=c/\J0.Own W.heap.size w' a (G0.gZ (O0.recd mem d.ino))/\ne=(nodeE mem d.ino).length/\ne<=ce/\V1.OwnE W.heap.size w' ae (nodeE mem d.ino))):=fun W=>D1.readNode mem d.ino W g2
  rw[g3] at HNd;clear g1 g3;go_enter func153,ntmps153
  go_wp2_with (first
   | (go_at_call 159;refine HRL.out.mono ?_;rintro e w1 ⟨k,o,t,a,n,c,ae,ne,ce,d',s',rfl,b1,hy1⟩;obtain ⟨ed,es,hh⟩:=hy1 rfl;subst d';subst s';have HH1:Hid _:=hh;clear hh hy1;have r1:=r0.below b1;have n2:=K0.below_new w1 (tObj k o t a n c ae ne ce d s);have r2:=r1.below n2;have tb2:=K0.blk_new (tvs k o t a n c ae ne ce d s) w1 189;have hw1:w.heap.size+2<=w1.heap.size:=(by have:=b1.size;simp at this;omega);have c0:=r2.arg.c0)
   | (go_at_call 169;refine (HNd.out _).mono ?_;rintro e w3 ⟨k2,o2,t2,a2,n2',c2,x2,ae2,ne2,ce2,rfl,b3,hy3⟩;have HH3:Hid _:=hy3;clear hy3;have n3:=K0.below_new w3 (.cells #[Iv k2,Iv o2,Iv t2,.slice a2 n2' c2,.string x2,.slice ae2 ne2 ce2] 215);have lk:LK w d s (tvs k o t a n c ae ne ce d s) (nvs k2 o2 t2 a2 n2' c2 x2 ae2 ne2 ce2) w1.heap.size w3.heap.size (w3.alloc (.cells #[Iv k2,Iv o2,Iv t2,.slice a2 n2' c2,.string x2,.slice ae2 ne2 ce2] 215)):=⟨(r2.below b3).below n3,(tb2.below b3).below n3,K0.blk_new (nvs k2 o2 t2 a2 n2' c2 x2 ae2 ne2 ce2) w3 215,hw1,(by have h1:=b3.size;simp at h1;omega)⟩))
  obtain ⟨Bt,hBt⟩:∃ B,w1.heap.size=B:=⟨_,rfl⟩;obtain ⟨Bn,hBn⟩:∃ B,w3.heap.size=B:=⟨_,rfl⟩;obtain ⟨W4,hW4⟩:∃ W4,w3.alloc (.cells #[Iv k2,Iv o2,Iv t2,.slice a2 n2' c2,.string x2,.slice ae2 ne2 ce2] 215)=W4:=⟨_,rfl⟩;rw[hBt,hBn,hW4] at lk;simp only[hBt,hBn,hW4];have l4:=lk.below (W':=W4.drew) ((Below.refl _ _).drew);clear HH1 HH3
  try clear hk ho ht hn hne hk2 ho2 hn2 hne2
  refine wp_region_held (S:=fun W=>True) (by kernel_rfl) ?_;refine BT.r 0 (.bool false) trivial ?_;refine BT.r 1 (.bool true) trivial ?_;refine BT.r 2 (.bool true) trivial ?_;refine BT.u 3 trivial ?_;refine BT.u 4 trivial ?_;refine BT.u 5 trivial ?_;refine BT.u 6 trivial ?_;refine BT.u 7 trivial ?_;refine BT.u 8 trivial ?_;refine BT.r 9 (.bool true) trivial ?_;refine BT.r 10 (.bool true) trivial ?_;refine BT.u 11 trivial ?_;refine BT.u 12 trivial ?_;refine BT.u 13 trivial ?_;refine BT.u 14 trivial ?_;refine BT.u 15 trivial ?_;refine BT.u 16 trivial ?_;refine BT.u 17 trivial ?_;refine BT.u 18 trivial ?_;refine BT.u 19 trivial ?_;refine BT.u 20 trivial ?_;refine BT.u 21 trivial ?_;refine BT.r 22 (.bool true) trivial ?_;refine wpAnyH_done (by kernel_rfl) ?_ _;obtain ⟨i0,i1,i2,i3,i4,i5,i6,i7,i8,i9,i10,i11,i12⟩:=cells13 lk.r.res;obtain ⟨j0,j1,j2,j3,j4,j5,j6,j7,j8,j9,j10,j11,j12⟩:=free13 lk.r.res;go_wp2;obtain ⟨u0,u1,u2,u3,u4,u5,u6,u7,u8,u9,u10,u11,u12⟩:=cells13 (put13 lk.r.res (Iv 0) (Iv 0) (Iv 0) (.slice none 0 0) (.slice none 0 0) (Iv 0) (Iv 0) (Iv 0) (.string ⟨#[]⟩) (.slice none 0 0) (.string ⟨#[]⟩) (.slice none 0 0) (.slice none 0 0));refine bodyPost_ret (v:=.tuple #[tv 0 0 0 none 0 0 none 0 0 ln0 sl0,.slice none 0 0,.bool false]) (by simp[results,results153,go_sem,ln0,sl0,u0,u1,u2,u3,u4,u5,u6,u7,u8,u9,u10,u11,u12]) rfl ?_
  exact HN.out _ _ _ _ _ _ _ _ _ _ _ _ _ _ _ (hv) (bel13 lk.r.bel (by omega) _ _ _ _ _ _ _ _ _ _ _ _ _).drew
 ·rw[g1] at HRL
  have g8:((mem.size:Int) != 768)=false:=by simp;omega
  have HNd:Hid (∀ W,Calls prog 169 #[.string mem,Iv d.ino] W fun e w'=>∃ (k o t:Int) (a:Option Addr) (n c:Nat) (x:ByteArray) (ae:Option Addr) (ne ce:Nat),e=.returned (.tuple #[nv k o t a n c x ae ne ce,.bool (nodeOk mem d.ino)])/\Bq W w'/\
  (nodeOk mem d.ino=true->k=G0.gK (O0.recd mem d.ino)/\o=G0.gO (O0.recd mem d.ino)/\n=(G0.gZ (O0.recd mem d.ino)).length/\n<=c/\J0.Own W.heap.size w' a (G0.gZ (O0.recd mem d.ino))/\ne=(nodeE mem d.ino).length/\ne<=ce/\V1.OwnE W.heap.size w' ae (nodeE mem d.ino))):=fun W=>D1.readNode mem d.ino W g2
  rw[g3] at HNd;clear g1 g3;go_enter func153,ntmps153
  go_wp2_with (first
   | (go_at_call 159;refine HRL.out.mono ?_;rintro e w1 ⟨k,o,t,a,n,c,ae,ne,ce,d',s',rfl,b1,hy1⟩;obtain ⟨ed,es,hh⟩:=hy1 rfl;subst d';subst s';have HH1:Hid _:=hh;clear hh hy1;have r1:=r0.below b1;have n2:=K0.below_new w1 (tObj k o t a n c ae ne ce d s);have r2:=r1.below n2;have tb2:=K0.blk_new (tvs k o t a n c ae ne ce d s) w1 189;have hw1:w.heap.size+2<=w1.heap.size:=(by have:=b1.size;simp at this;omega);have c0:=r2.arg.c0)
   | (go_at_call 169;refine (HNd.out _).mono ?_;rintro e w3 ⟨k2,o2,t2,a2,n2',c2,x2,ae2,ne2,ce2,rfl,b3,hy3⟩;have HH3:Hid _:=hy3;clear hy3;have n3:=K0.below_new w3 (.cells #[Iv k2,Iv o2,Iv t2,.slice a2 n2' c2,.string x2,.slice ae2 ne2 ce2] 215);have lk:LK w d s (tvs k o t a n c ae ne ce d s) (nvs k2 o2 t2 a2 n2' c2 x2 ae2 ne2 ce2) w1.heap.size w3.heap.size (w3.alloc (.cells #[Iv k2,Iv o2,Iv t2,.slice a2 n2' c2,.string x2,.slice ae2 ne2 ce2] 215)):=⟨(r2.below b3).below n3,(tb2.below b3).below n3,K0.blk_new (nvs k2 o2 t2 a2 n2' c2 x2 ae2 ne2 ce2) w3 215,hw1,(by have h1:=b3.size;simp at h1;omega)⟩))
  obtain ⟨Bt,hBt⟩:∃ B,w1.heap.size=B:=⟨_,rfl⟩;obtain ⟨Bn,hBn⟩:∃ B,w3.heap.size=B:=⟨_,rfl⟩;obtain ⟨hk,ho,ht,hn,hnc,hown,hne,hnce,hownE⟩:=HH1.out;obtain ⟨hk2,ho2,hn2,hnc2,hown2,hne2,hnce2,hownE2⟩:=HH3.out (by trivial)
  have HLi:Hid (∀ W,Calls prog 182 #[N5.pv k o t a n c ae ne ce,I0.val k2 o2 t2 a2 n2' c2] W (Rb (.bool (like mem d)) W)):=fun W=>(D0.isLike k o t a n c ae ne ce k2 o2 t2 a2 n2' c2 W).mono fun _ _ ⟨he,hb⟩=>⟨by rw[he,hk2,ho2,hk,ho];rfl,hb⟩
  rw[g4] at HLi;obtain ⟨W4,hW4⟩:∃ W4,w3.alloc (.cells #[Iv k2,Iv o2,Iv t2,.slice a2 n2' c2,.string x2,.slice ae2 ne2 ce2] 215)=W4:=⟨_,rfl⟩;rw[hBt,hBn,hW4] at lk;simp only[hBt,hBn,hW4];have l4:=lk.below (W':=W4.drew) ((Below.refl _ _).drew);clear HH1 HH3
  try clear hk ho ht hn hne hk2 ho2 hn2 hne2
  obtain ⟨v0,v1,v2,v3,v4⟩:=D3.cells5 l4.tb;obtain ⟨z0,z1,z2,z3,-,-⟩:=cells6 l4.nb;have s4:(fun W:World=>Ce W Bt 0 (Iv k)/\Ce W Bt 1 (Iv o)/\Ce W Bt 2 (Iv t)/\Ce W Bt 3 (.slice a n c)/\Ce W Bt 4 (.slice ae ne ce)/\Ce W Bn 0 (Iv k2)/\Ce W Bn 1 (Iv o2)/\Ce W Bn 2 (Iv t2)/\Ce W Bn 3 (.slice a2 n2' c2)) W4.drew:=⟨v0,v1,v2,v3,v4,z0,z1,z2,z3⟩;refine wp_region_held (S:=fun W=>Ce W Bt 0 (Iv k)/\Ce W Bt 1 (Iv o)/\Ce W Bt 2 (Iv t)/\Ce W Bt 3 (.slice a n c)/\Ce W Bt 4 (.slice ae ne ce)/\Ce W Bn 0 (Iv k2)/\Ce W Bn 1 (Iv o2)/\Ce W Bn 2 (Iv t2)/\Ce W Bn 3 (.slice a2 n2' c2)) (by kernel_rfl) ?_;refine BT.r 0 (.bool true) s4 ?_;refine BT.r 1 (.bool false) s4 ?_;refine BT.r 2 (.bool false) s4 ?_;refine BT.s 3 (Pv Bt 0) s4 ?_;refine BT.s 4 (N5.pv k o t a n c ae ne ce) s4 ?_;refine BT.s 5 (Pv Bn 0) s4 ?_;refine BT.s 6 (I0.val k2 o2 t2 a2 n2' c2) s4 ?_;refine Y0.one_call2w (i:=7) (by kernel_rfl) rfl (by rfl) (.tmp 34) (.tmp 36) _ rfl (N5.pv k o t a n c ae ne ce) (I0.val k2 o2 t2 a2 n2' c2) (by rfl) (by rfl) (enters_of func182 (by kernel_rfl) rfl) ((HLi.out _).mono ?_);rintro e w5 ⟨rfl,b5⟩;have l5:=l4.below b5;obtain ⟨v0,v1,v2,v3,v4⟩:=D3.cells5 l5.tb;obtain ⟨z0,z1,z2,z3,-,-⟩:=cells6 l5.nb
  have s5:(fun W:World=>Ce W Bt 0 (Iv k)/\Ce W Bt 1 (Iv o)/\Ce W Bt 2 (Iv t)/\Ce W Bt 3 (.slice a n c)/\Ce W Bt 4 (.slice ae ne ce)/\Ce W Bn 0 (Iv k2)/\Ce W Bn 1 (Iv o2)/\Ce W Bn 2 (Iv t2)/\Ce W Bn 3 (.slice a2 n2' c2)) w5:=⟨v0,v1,v2,v3,v4,z0,z1,z2,z3⟩;refine ⟨_,rfl,s5,?_⟩;simp only[BZ.z,Act.put,Nat.reduceAdd];refine BT.r 8 (.bool true) s5 ?_;refine BT.r 9 (.bool true) s5 ?_;refine BT.r 10 (.bool true) s5 ?_;refine BT.u 11 s5 ?_;refine BT.u 12 s5 ?_;refine BT.u 13 s5 ?_;refine BT.u 14 s5 ?_;refine BT.u 15 s5 ?_;refine BT.u 16 s5 ?_;refine BT.u 17 s5 ?_;refine BT.u 18 s5 ?_;refine BT.u 19 s5 ?_;refine BT.u 20 s5 ?_;refine BT.u 21 s5 ?_;refine BT.r 22 (.bool true) s5 ?_;refine wpAnyH_done (by kernel_rfl) ?_ _;obtain ⟨i0,i1,i2,i3,i4,i5,i6,i7,i8,i9,i10,i11,i12⟩:=cells13 l5.r.res;obtain ⟨j0,j1,j2,j3,j4,j5,j6,j7,j8,j9,j10,j11,j12⟩:=free13 l5.r.res;go_wp2;obtain ⟨u0,u1,u2,u3,u4,u5,u6,u7,u8,u9,u10,u11,u12⟩:=cells13 (put13 l5.r.res (Iv 0) (Iv 0) (Iv 0) (.slice none 0 0) (.slice none 0 0) (Iv 0) (Iv 0) (Iv 0) (.string ⟨#[]⟩) (.slice none 0 0) (.string ⟨#[]⟩) (.slice none 0 0) (.slice none 0 0));refine bodyPost_ret (v:=.tuple #[tv 0 0 0 none 0 0 none 0 0 ln0 sl0,.slice none 0 0,.bool false]) (by simp[results,results153,go_sem,ln0,sl0,u0,u1,u2,u3,u4,u5,u6,u7,u8,u9,u10,u11,u12]) rfl ?_;exact HN.out _ _ _ _ _ _ _ _ _ _ _ _ _ _ _ (hv) (bel13 l5.r.bel (by omega) _ _ _ _ _ _ _ _ _ _ _ _ _)
 ·rw[g1] at HRL
  have g8:((mem.size:Int) != 768)=false:=by simp;omega
  have HNd:Hid (∀ W,Calls prog 169 #[.string mem,Iv d.ino] W fun e w'=>∃ (k o t:Int) (a:Option Addr) (n c:Nat) (x:ByteArray) (ae:Option Addr) (ne ce:Nat),e=.returned (.tuple #[nv k o t a n c x ae ne ce,.bool (nodeOk mem d.ino)])/\Bq W w'/\
  (nodeOk mem d.ino=true->k=G0.gK (O0.recd mem d.ino)/\o=G0.gO (O0.recd mem d.ino)/\n=(G0.gZ (O0.recd mem d.ino)).length/\n<=c/\J0.Own W.heap.size w' a (G0.gZ (O0.recd mem d.ino))/\ne=(nodeE mem d.ino).length/\ne<=ce/\V1.OwnE W.heap.size w' ae (nodeE mem d.ino))):=fun W=>D1.readNode mem d.ino W g2
  rw[g3] at HNd;clear g3;go_enter func153,ntmps153
  go_wp2_with (first
   | (go_at_call 159;refine HRL.out.mono ?_;rintro e w1 ⟨k,o,t,a,n,c,ae,ne,ce,d',s',rfl,b1,hy1⟩;obtain ⟨ed,es,hh⟩:=hy1 rfl;subst d';subst s';have HH1:Hid _:=hh;clear hh hy1;have r1:=r0.below b1;have n2:=K0.below_new w1 (tObj k o t a n c ae ne ce d s);have r2:=r1.below n2;have tb2:=K0.blk_new (tvs k o t a n c ae ne ce d s) w1 189;have hw1:w.heap.size+2<=w1.heap.size:=(by have:=b1.size;simp at this;omega);have c0:=r2.arg.c0)
   | (go_at_call 169;refine (HNd.out _).mono ?_;rintro e w3 ⟨k2,o2,t2,a2,n2',c2,x2,ae2,ne2,ce2,rfl,b3,hy3⟩;have HH3:Hid _:=hy3;clear hy3;have n3:=K0.below_new w3 (.cells #[Iv k2,Iv o2,Iv t2,.slice a2 n2' c2,.string x2,.slice ae2 ne2 ce2] 215);have lk:LK w d s (tvs k o t a n c ae ne ce d s) (nvs k2 o2 t2 a2 n2' c2 x2 ae2 ne2 ce2) w1.heap.size w3.heap.size (w3.alloc (.cells #[Iv k2,Iv o2,Iv t2,.slice a2 n2' c2,.string x2,.slice ae2 ne2 ce2] 215)):=⟨(r2.below b3).below n3,(tb2.below b3).below n3,K0.blk_new (nvs k2 o2 t2 a2 n2' c2 x2 ae2 ne2 ce2) w3 215,hw1,(by have h1:=b3.size;simp at h1;omega)⟩))
  obtain ⟨Bt,hBt⟩:∃ B,w1.heap.size=B:=⟨_,rfl⟩;obtain ⟨Bn,hBn⟩:∃ B,w3.heap.size=B:=⟨_,rfl⟩;obtain ⟨hk,ho,ht,hn,hnc,hown,hne,hnce,hownE⟩:=HH1.out;obtain ⟨hk2,ho2,hn2,hnc2,hown2,hne2,hnce2,hownE2⟩:=HH3.out (by trivial)
  have HLi:Hid (∀ W,Calls prog 182 #[N5.pv k o t a n c ae ne ce,I0.val k2 o2 t2 a2 n2' c2] W (Rb (.bool (like mem d)) W)):=fun W=>(D0.isLike k o t a n c ae ne ce k2 o2 t2 a2 n2' c2 W).mono fun _ _ ⟨he,hb⟩=>⟨by rw[he,hk2,ho2,hk,ho];rfl,hb⟩
  rw[g4] at HLi;have hZl:(G0.gZ (O0.recd mem d.ino)).length<=100:=D3.gZ_len _;obtain ⟨-,-,-,-,-,-,hp6,hp4,hp2,-,-,-,-⟩:=N0.loanOk_is g1
  have HCo:Hid (∀ W,Bq w W->Calls prog 104 #[Sv W.heap.size 2 2] (W.alloc (.cells #[.slice s.a1 d.pg.length s.c1,.slice s.a2 d.po.length s.c2] 32)) fun e w'=>∃ a' c',e=.returned (.slice a' (d.pg++d.po).length c')/\J0.Own (W.alloc (.cells #[.slice s.a1 d.pg.length s.c1,.slice s.a2 d.po.length s.c2] 32)).heap.size w' a' (d.pg++d.po)/\(d.pg++d.po).length<=c'/\Bq (W.alloc (.cells #[.slice s.a1 d.pg.length s.c1,.slice s.a2 d.po.length s.c2] 32)) w'):=fun W hb=>by
   have hk:=K0.blk_new [.slice s.a1 d.pg.length s.c1,.slice s.a2 d.po.length s.c2] W 32;have hl:=(HL.out W hb).alloc (.cells #[.slice s.a1 d.pg.length s.c1,.slice s.a2 d.po.length s.c2] 32);exact Q1.concat W.heap.size s.a1 s.a2 s.c1 s.c2 d.pg d.po _ hk.c0 hk.c1 hk.lt hl.r1 hl.r2 (by omega) (by omega)
  have row2:=hown2.row.below n3
  have HAm:Hid (∀ W a7 c7,Bq (w3.alloc (.cells #[Iv k2,Iv o2,Iv t2,.slice a2 n2' c2,.string x2,.slice ae2 ne2 ce2] 215)) W->P0.Row W a7 (d.pg++d.po)->Calls prog 183 #[.slice a2 n2' c2,.slice a7 (d.pg++d.po).length c7] W (Rw (.bool (N0.among (G0.gZ (O0.recd mem d.ino)) (d.pg++d.po))) W)):=fun W a7 c7 hb h7=>by
   have h:=D0.allAmong a2 a7 c2 c7 (G0.gZ (O0.recd mem d.ino)) (d.pg++d.po) W (by omega) (by rw[List.length_append];omega) (row2.below hb) h7
   rwa [<- hn2] at h
  rw[g5] at HAm;obtain ⟨W4,hW4⟩:∃ W4,w3.alloc (.cells #[Iv k2,Iv o2,Iv t2,.slice a2 n2' c2,.string x2,.slice ae2 ne2 ce2] 215)=W4:=⟨_,rfl⟩;rw[hBt,hBn,hW4] at lk;rw[hW4] at HAm;simp only[hBt,hBn,hW4];have l4:=lk.below (W':=W4.drew) ((Below.refl _ _).drew);clear HH1 HH3
  try clear hk ho ht hn hne hk2 ho2 hn2 hne2
  have s4:(fun W:World=>Ce W Bt 0 (Iv k)/\Ce W Bt 1 (Iv o)/\Ce W Bt 2 (Iv t)/\Ce W Bt 3 (.slice a n c)/\Ce W Bt 4 (.slice ae ne ce)/\Ce W Bn 0 (Iv k2)/\Ce W Bn 1 (Iv o2)/\Ce W Bn 2 (Iv t2)/\Ce W Bn 3 (.slice a2 n2' c2)/\Ce W w.heap.size 4 (.slice s.a1 d.pg.length s.c1)/\Ce W w.heap.size 6 (.slice s.a2 d.po.length s.c2)) (W4.drew):=(by obtain ⟨v0,v1,v2,v3,v4⟩:=D3.cells5 l4.tb;obtain ⟨z0,z1,z2,z3,-,-⟩:=cells6 l4.nb;exact ⟨v0,v1,v2,v3,v4,z0,z1,z2,z3,l4.r.arg.c4,l4.r.arg.c6⟩);refine wp_region_held (S:=fun W=>Ce W Bt 0 (Iv k)/\Ce W Bt 1 (Iv o)/\Ce W Bt 2 (Iv t)/\Ce W Bt 3 (.slice a n c)/\Ce W Bt 4 (.slice ae ne ce)/\Ce W Bn 0 (Iv k2)/\Ce W Bn 1 (Iv o2)/\Ce W Bn 2 (Iv t2)/\Ce W Bn 3 (.slice a2 n2' c2)/\Ce W w.heap.size 4 (.slice s.a1 d.pg.length s.c1)/\Ce W w.heap.size 6 (.slice s.a2 d.po.length s.c2)) (by kernel_rfl) ?_;refine BT.r 0 (.bool true) s4 ?_;refine BT.r 1 (.bool false) s4 ?_;refine BT.r 2 (.bool false) s4 ?_;refine BT.s 3 (Pv Bt 0) s4 ?_;refine BT.s 4 (N5.pv k o t a n c ae ne ce) s4 ?_;refine BT.s 5 (Pv Bn 0) s4 ?_;refine BT.s 6 (I0.val k2 o2 t2 a2 n2' c2) s4 ?_;refine Y0.one_call2w (i:=7) (by kernel_rfl) rfl (by rfl) (.tmp 34) (.tmp 36) _ rfl (N5.pv k o t a n c ae ne ce) (I0.val k2 o2 t2 a2 n2' c2) (by rfl) (by rfl) (enters_of func182 (by kernel_rfl) rfl) ((HLi.out _).mono ?_);rintro e w5 ⟨rfl,b5⟩;have l5:=l4.below b5
  have s5:(fun W:World=>Ce W Bt 0 (Iv k)/\Ce W Bt 1 (Iv o)/\Ce W Bt 2 (Iv t)/\Ce W Bt 3 (.slice a n c)/\Ce W Bt 4 (.slice ae ne ce)/\Ce W Bn 0 (Iv k2)/\Ce W Bn 1 (Iv o2)/\Ce W Bn 2 (Iv t2)/\Ce W Bn 3 (.slice a2 n2' c2)/\Ce W w.heap.size 4 (.slice s.a1 d.pg.length s.c1)/\Ce W w.heap.size 6 (.slice s.a2 d.po.length s.c2)) (w5):=(by obtain ⟨v0,v1,v2,v3,v4⟩:=D3.cells5 l5.tb;obtain ⟨z0,z1,z2,z3,-,-⟩:=cells6 l5.nb;exact ⟨v0,v1,v2,v3,v4,z0,z1,z2,z3,l5.r.arg.c4,l5.r.arg.c6⟩);refine ⟨_,rfl,s5,?_⟩;simp only[BZ.z,Act.put,Nat.reduceAdd];refine BT.r 8 (.bool false) s5 ?_;refine BT.r 9 (.bool false) s5 ?_;refine BT.r 10 (.bool false) s5 ?_;refine BT.s 11 (Pv Bn 0) s5 ?_;refine BT.s 12 (Pv Bn 3) s5 ?_;refine BT.s 13 (.slice a2 n2' c2) s5 ?_;refine BT.s 14 (Pv w.heap.size 4) s5 ?_;refine BT.s 15 (.slice s.a1 d.pg.length s.c1) s5 ?_;refine BT.s 16 (Pv w.heap.size 6) s5 ?_;refine BT.s 17 (.slice s.a2 d.po.length s.c2) s5 ?_
  have hW7:Bq W4 (w5.alloc (.cells #[.slice s.a1 d.pg.length s.c1,.slice s.a2 d.po.length s.c2] 32)):=(show Bq W4 w5 from ⟨b5.os,b5.tape,b5.output,b5.size,b5.block⟩).trans ((K0.below_new w5 (.cells #[.slice s.a1 d.pg.length s.c1,.slice s.a2 d.po.length s.c2] 32)).mono b5.size)
  have l6:=l5.below (K0.below_new w5 (.cells #[.slice s.a1 d.pg.length s.c1,.slice s.a2 d.po.length s.c2] 32));have s6:(fun W:World=>Ce W Bt 0 (Iv k)/\Ce W Bt 1 (Iv o)/\Ce W Bt 2 (Iv t)/\Ce W Bt 3 (.slice a n c)/\Ce W Bt 4 (.slice ae ne ce)/\Ce W Bn 0 (Iv k2)/\Ce W Bn 1 (Iv o2)/\Ce W Bn 2 (Iv t2)/\Ce W Bn 3 (.slice a2 n2' c2)/\Ce W w.heap.size 4 (.slice s.a1 d.pg.length s.c1)/\Ce W w.heap.size 6 (.slice s.a2 d.po.length s.c2)) (w5.alloc (.cells #[.slice s.a1 d.pg.length s.c1,.slice s.a2 d.po.length s.c2] 32)):=(by obtain ⟨v0,v1,v2,v3,v4⟩:=D3.cells5 l6.tb;obtain ⟨z0,z1,z2,z3,-,-⟩:=cells6 l6.nb;exact ⟨v0,v1,v2,v3,v4,z0,z1,z2,z3,l6.r.arg.c4,l6.r.arg.c6⟩);refine Y0.one_plain (i:=18) (u:=Sv w5.heap.size 2 2) (w':=w5.alloc (.cells #[.slice s.a1 d.pg.length s.c1,.slice s.a2 d.po.length s.c2] 32)) (by kernel_rfl) rfl (by rfl) ?_ s6 ?_
  ·go_simp
  simp only[BZ.z,Act.put,Nat.reduceAdd];refine Y0.one_callw (i:=19) (by kernel_rfl) rfl (by rfl) (.tmp 48) _ rfl (Sv w5.heap.size 2 2) (by rfl) (enters_of func104 (by kernel_rfl) rfl) ((HCo.out w5 (l5.r.bel)).mono ?_);rintro e w7 ⟨a7,c7,rfl,ho7,hc7,b7⟩;have l7:=l6.below b7;have s7:(fun W:World=>Ce W Bt 0 (Iv k)/\Ce W Bt 1 (Iv o)/\Ce W Bt 2 (Iv t)/\Ce W Bt 3 (.slice a n c)/\Ce W Bt 4 (.slice ae ne ce)/\Ce W Bn 0 (Iv k2)/\Ce W Bn 1 (Iv o2)/\Ce W Bn 2 (Iv t2)/\Ce W Bn 3 (.slice a2 n2' c2)/\Ce W w.heap.size 4 (.slice s.a1 d.pg.length s.c1)/\Ce W w.heap.size 6 (.slice s.a2 d.po.length s.c2)) (w7):=(by obtain ⟨v0,v1,v2,v3,v4⟩:=D3.cells5 l7.tb;obtain ⟨z0,z1,z2,z3,-,-⟩:=cells6 l7.nb;exact ⟨v0,v1,v2,v3,v4,z0,z1,z2,z3,l7.r.arg.c4,l7.r.arg.c6⟩);refine ⟨_,rfl,s7,?_⟩;simp only[BZ.z,Act.put,Nat.reduceAdd];refine Y0.one_call2w (i:=20) (by kernel_rfl) rfl (by rfl) (.tmp 43) (.tmp 49) _ rfl ((.slice a2 n2' c2)) (.slice a7 (d.pg++d.po).length c7) (by rfl) (by rfl) (enters_of func183 (by kernel_rfl) rfl) ((HAm.out w7 a7 c7 (Below.trans hW7 (b7.mono hW7.size)) ho7.row).mono ?_);rintro e w8 ⟨rfl,e8⟩;subst w8;refine ⟨_,rfl,s7,?_⟩;simp only[BZ.z,Act.put,Nat.reduceAdd];refine BT.r 21 (.bool true) s7 ?_;refine BT.r 22 (.bool true) s7 ?_;refine wpAnyH_done (by kernel_rfl) ?_ _;obtain ⟨i0,i1,i2,i3,i4,i5,i6,i7,i8,i9,i10,i11,i12⟩:=cells13 l7.r.res
  obtain ⟨j0,j1,j2,j3,j4,j5,j6,j7,j8,j9,j10,j11,j12⟩:=free13 l7.r.res;go_wp2;obtain ⟨u0,u1,u2,u3,u4,u5,u6,u7,u8,u9,u10,u11,u12⟩:=cells13 (put13 l7.r.res (Iv 0) (Iv 0) (Iv 0) (.slice none 0 0) (.slice none 0 0) (Iv 0) (Iv 0) (Iv 0) (.string ⟨#[]⟩) (.slice none 0 0) (.string ⟨#[]⟩) (.slice none 0 0) (.slice none 0 0));refine bodyPost_ret (v:=.tuple #[tv 0 0 0 none 0 0 none 0 0 ln0 sl0,.slice none 0 0,.bool false]) (by simp[results,results153,go_sem,ln0,sl0,u0,u1,u2,u3,u4,u5,u6,u7,u8,u9,u10,u11,u12]) rfl ?_;exact HN.out _ _ _ _ _ _ _ _ _ _ _ _ _ _ _ (hv) (bel13 l7.r.bel (by omega) _ _ _ _ _ _ _ _ _ _ _ _ _)
 ·rw[g1] at HRL
  have g8:((mem.size:Int) != 768)=false:=by simp;omega
  have HNd:Hid (∀ W,Calls prog 169 #[.string mem,Iv d.ino] W fun e w'=>∃ (k o t:Int) (a:Option Addr) (n c:Nat) (x:ByteArray) (ae:Option Addr) (ne ce:Nat),e=.returned (.tuple #[nv k o t a n c x ae ne ce,.bool (nodeOk mem d.ino)])/\Bq W w'/\
  (nodeOk mem d.ino=true->k=G0.gK (O0.recd mem d.ino)/\o=G0.gO (O0.recd mem d.ino)/\n=(G0.gZ (O0.recd mem d.ino)).length/\n<=c/\J0.Own W.heap.size w' a (G0.gZ (O0.recd mem d.ino))/\ne=(nodeE mem d.ino).length/\ne<=ce/\V1.OwnE W.heap.size w' ae (nodeE mem d.ino))):=fun W=>D1.readNode mem d.ino W g2
  rw[g3] at HNd;clear g3;go_enter func153,ntmps153
  go_wp2_with (first
   | (go_at_call 159;refine HRL.out.mono ?_;rintro e w1 ⟨k,o,t,a,n,c,ae,ne,ce,d',s',rfl,b1,hy1⟩;obtain ⟨ed,es,hh⟩:=hy1 rfl;subst d';subst s';have HH1:Hid _:=hh;clear hh hy1;have r1:=r0.below b1;have n2:=K0.below_new w1 (tObj k o t a n c ae ne ce d s);have r2:=r1.below n2;have tb2:=K0.blk_new (tvs k o t a n c ae ne ce d s) w1 189;have hw1:w.heap.size+2<=w1.heap.size:=(by have:=b1.size;simp at this;omega);have c0:=r2.arg.c0)
   | (go_at_call 169;refine (HNd.out _).mono ?_;rintro e w3 ⟨k2,o2,t2,a2,n2',c2,x2,ae2,ne2,ce2,rfl,b3,hy3⟩;have HH3:Hid _:=hy3;clear hy3;have n3:=K0.below_new w3 (.cells #[Iv k2,Iv o2,Iv t2,.slice a2 n2' c2,.string x2,.slice ae2 ne2 ce2] 215);have lk:LK w d s (tvs k o t a n c ae ne ce d s) (nvs k2 o2 t2 a2 n2' c2 x2 ae2 ne2 ce2) w1.heap.size w3.heap.size (w3.alloc (.cells #[Iv k2,Iv o2,Iv t2,.slice a2 n2' c2,.string x2,.slice ae2 ne2 ce2] 215)):=⟨(r2.below b3).below n3,(tb2.below b3).below n3,K0.blk_new (nvs k2 o2 t2 a2 n2' c2 x2 ae2 ne2 ce2) w3 215,hw1,(by have h1:=b3.size;simp at h1;omega)⟩))
  obtain ⟨Bt,hBt⟩:∃ B,w1.heap.size=B:=⟨_,rfl⟩;obtain ⟨Bn,hBn⟩:∃ B,w3.heap.size=B:=⟨_,rfl⟩;obtain ⟨hk,ho,ht,hn,hnc,hown,hne,hnce,hownE⟩:=HH1.out;obtain ⟨hk2,ho2,hn2,hnc2,hown2,hne2,hnce2,hownE2⟩:=HH3.out (by trivial)
  have HLi:Hid (∀ W,Calls prog 182 #[N5.pv k o t a n c ae ne ce,I0.val k2 o2 t2 a2 n2' c2] W (Rb (.bool (like mem d)) W)):=fun W=>(D0.isLike k o t a n c ae ne ce k2 o2 t2 a2 n2' c2 W).mono fun _ _ ⟨he,hb⟩=>⟨by rw[he,hk2,ho2,hk,ho];rfl,hb⟩
  rw[g4] at HLi;have hZl:(G0.gZ (O0.recd mem d.ino)).length<=100:=D3.gZ_len _;obtain ⟨-,-,-,-,-,-,hp6,hp4,hp2,-,-,-,-⟩:=N0.loanOk_is g1
  have HCo:Hid (∀ W,Bq w W->Calls prog 104 #[Sv W.heap.size 2 2] (W.alloc (.cells #[.slice s.a1 d.pg.length s.c1,.slice s.a2 d.po.length s.c2] 32)) fun e w'=>∃ a' c',e=.returned (.slice a' (d.pg++d.po).length c')/\J0.Own (W.alloc (.cells #[.slice s.a1 d.pg.length s.c1,.slice s.a2 d.po.length s.c2] 32)).heap.size w' a' (d.pg++d.po)/\(d.pg++d.po).length<=c'/\Bq (W.alloc (.cells #[.slice s.a1 d.pg.length s.c1,.slice s.a2 d.po.length s.c2] 32)) w'):=fun W hb=>by
   have hk:=K0.blk_new [.slice s.a1 d.pg.length s.c1,.slice s.a2 d.po.length s.c2] W 32;have hl:=(HL.out W hb).alloc (.cells #[.slice s.a1 d.pg.length s.c1,.slice s.a2 d.po.length s.c2] 32);exact Q1.concat W.heap.size s.a1 s.a2 s.c1 s.c2 d.pg d.po _ hk.c0 hk.c1 hk.lt hl.r1 hl.r2 (by omega) (by omega)
  have row2:=hown2.row.below n3
  have HAm:Hid (∀ W a7 c7,Bq (w3.alloc (.cells #[Iv k2,Iv o2,Iv t2,.slice a2 n2' c2,.string x2,.slice ae2 ne2 ce2] 215)) W->P0.Row W a7 (d.pg++d.po)->Calls prog 183 #[.slice a2 n2' c2,.slice a7 (d.pg++d.po).length c7] W (Rw (.bool (N0.among (G0.gZ (O0.recd mem d.ino)) (d.pg++d.po))) W)):=fun W a7 c7 hb h7=>by
   have h:=D0.allAmong a2 a7 c2 c7 (G0.gZ (O0.recd mem d.ino)) (d.pg++d.po) W (by omega) (by rw[List.length_append];omega) (row2.below hb) h7
   rwa [<- hn2] at h
  rw[g5] at HAm;have rowE:=hownE.row;have rowN:=hownE2.row.below n3;have hEW0:Bq w1 (w3.alloc (.cells #[Iv k2,Iv o2,Iv t2,.slice a2 n2' c2,.string x2,.slice ae2 ne2 ce2] 215)):=(n2.trans (b3.mono n2.size)).trans (n3.mono (Nat.le_trans n2.size b3.size))
  have HEn:Hid (∀ W,Bq (w3.alloc (.cells #[Iv k2,Iv o2,Iv t2,.slice a2 n2' c2,.string x2,.slice ae2 ne2 ce2] 215)) W->Calls prog 184 #[tv k o t a n c ae ne ce d s,.string mem,nv k2 o2 t2 a2 n2' c2 x2 ae2 ne2 ce2] W (Rb (.bool (D3.entOk mem d (G0.gZ (O0.recd mem d.ino)) (nodeE mem d.ino))) W)):=fun W hb=>by
   have hW:Bq w W:=((r2.below b3).below n3).bel.trans (hb.mono ((r2.below b3).below n3).bel.size);have hl:=HL.out W hW;have h:=D3.entriesOk k o t a n c ae ce d s mem k2 o2 t2 a2 c2 x2 ae2 ce2 (G0.gZ (O0.recd mem d.ino)) (nodeE mem d.ino) W hms hpo hfr (by omega) (nodeE_len _ _) (oldE_len _) hl.r2 hl.r3 (rowE.below (hEW0.trans (hb.mono hEW0.size))) (row2.below hb) (rowN.below hb);rw[<- hn2,<- hne2,<- hne] at h;exact h
  have HFin:Hid (∀ W,Bq (w3.alloc (.cells #[Iv k2,Iv o2,Iv t2,.slice a2 n2' c2,.string x2,.slice ae2 ne2 ce2] 215)) W->Bq w (W13 W (w.heap.size+1) (Iv k) (Iv o) (Iv t) (.slice a n c) (.slice ae ne ce) (Iv d.ino) (Iv d.cl) (Iv d.un) (.string d.rc) (.slice s.a1 d.pg.length s.c1) (.string d.sav) (.slice s.a2 d.po.length s.c2) (.slice s.a3 d.fr.length s.c3))->R (.returned (.tuple #[tv k o t a n c ae ne ce d s,.slice ae2 ne2 ce2,.bool (D3.entOk mem d (G0.gZ (O0.recd mem d.ino)) (nodeE mem d.ino))])) (W13 W (w.heap.size+1) (Iv k) (Iv o) (Iv t) (.slice a n c) (.slice ae ne ce) (Iv d.ino) (Iv d.cl) (Iv d.un) (.string d.rc) (.slice s.a1 d.pg.length s.c1) (.string d.sav) (.slice s.a2 d.po.length s.c2) (.slice s.a3 d.fr.length s.c3))):=fun W hb hbl=>by
   have e1:=hownE.below (hEW0.trans (hb.mono hEW0.size));have e2:=(hownE2.below n3).below hb
   have h1:w.heap.size+1<(N9.w00 w d s).heap.size:=by simp
   have f1:=N9.ownE13 e1 h1 (Iv k) (Iv o) (Iv t) (.slice a n c) (.slice ae ne ce) (Iv d.ino) (Iv d.cl) (Iv d.un) (.string d.rc) (.slice s.a1 d.pg.length s.c1) (.string d.sav) (.slice s.a2 d.po.length s.c2) (.slice s.a3 d.fr.length s.c3)
   have h2:w.heap.size+1<(w1.alloc (tObj k o t a n c ae ne ce d s)).heap.size:=by simp;omega
   have f2:=N9.ownE13 e2 h2 (Iv k) (Iv o) (Iv t) (.slice a n c) (.slice ae ne ce) (Iv d.ino) (Iv d.cl) (Iv d.un) (.string d.rc) (.slice s.a1 d.pg.length s.c1) (.string d.sav) (.slice s.a2 d.po.length s.c2) (.slice s.a3 d.fr.length s.c3);have h:=HI.out k o t a n c ae ce ae2 ce2 _ _ hv hbl f1.row f2.row
   rwa [<- hne,<- hne2] at h
  obtain ⟨eb,heb⟩:∃ eb,D3.entOk mem d (G0.gZ (O0.recd mem d.ino)) (nodeE mem d.ino)=eb:=⟨_,rfl⟩;rw[heb] at HEn HFin;obtain ⟨W4,hW4⟩:∃ W4,w3.alloc (.cells #[Iv k2,Iv o2,Iv t2,.slice a2 n2' c2,.string x2,.slice ae2 ne2 ce2] 215)=W4:=⟨_,rfl⟩;rw[hBt,hBn,hW4] at lk;rw[hW4] at HAm HEn HFin;simp only[hBt,hBn,hW4];have l4:=lk.below (W':=W4.drew) ((Below.refl _ _).drew);clear HH1 HH3
  try clear hk ho ht hn hne hk2 ho2 hn2 hne2
  have s4:(fun W:World=>Ce W Bt 0 (Iv k)/\Ce W Bt 1 (Iv o)/\Ce W Bt 2 (Iv t)/\Ce W Bt 3 (.slice a n c)/\Ce W Bt 4 (.slice ae ne ce)/\Ce W Bn 0 (Iv k2)/\Ce W Bn 1 (Iv o2)/\Ce W Bn 2 (Iv t2)/\Ce W Bn 3 (.slice a2 n2' c2)/\Ce W w.heap.size 4 (.slice s.a1 d.pg.length s.c1)/\Ce W w.heap.size 6 (.slice s.a2 d.po.length s.c2)) (W4.drew):=(by obtain ⟨v0,v1,v2,v3,v4⟩:=D3.cells5 l4.tb;obtain ⟨z0,z1,z2,z3,-,-⟩:=cells6 l4.nb;exact ⟨v0,v1,v2,v3,v4,z0,z1,z2,z3,l4.r.arg.c4,l4.r.arg.c6⟩);refine wp_region_held (S:=fun W=>Ce W Bt 0 (Iv k)/\Ce W Bt 1 (Iv o)/\Ce W Bt 2 (Iv t)/\Ce W Bt 3 (.slice a n c)/\Ce W Bt 4 (.slice ae ne ce)/\Ce W Bn 0 (Iv k2)/\Ce W Bn 1 (Iv o2)/\Ce W Bn 2 (Iv t2)/\Ce W Bn 3 (.slice a2 n2' c2)/\Ce W w.heap.size 4 (.slice s.a1 d.pg.length s.c1)/\Ce W w.heap.size 6 (.slice s.a2 d.po.length s.c2)) (by kernel_rfl) ?_;refine BT.r 0 (.bool true) s4 ?_;refine BT.r 1 (.bool false) s4 ?_;refine BT.r 2 (.bool false) s4 ?_;refine BT.s 3 (Pv Bt 0) s4 ?_;refine BT.s 4 (N5.pv k o t a n c ae ne ce) s4 ?_;refine BT.s 5 (Pv Bn 0) s4 ?_;refine BT.s 6 (I0.val k2 o2 t2 a2 n2' c2) s4 ?_;refine Y0.one_call2w (i:=7) (by kernel_rfl) rfl (by rfl) (.tmp 34) (.tmp 36) _ rfl (N5.pv k o t a n c ae ne ce) (I0.val k2 o2 t2 a2 n2' c2) (by rfl) (by rfl) (enters_of func182 (by kernel_rfl) rfl) ((HLi.out _).mono ?_);rintro e w5 ⟨rfl,b5⟩;have l5:=l4.below b5
  have s5:(fun W:World=>Ce W Bt 0 (Iv k)/\Ce W Bt 1 (Iv o)/\Ce W Bt 2 (Iv t)/\Ce W Bt 3 (.slice a n c)/\Ce W Bt 4 (.slice ae ne ce)/\Ce W Bn 0 (Iv k2)/\Ce W Bn 1 (Iv o2)/\Ce W Bn 2 (Iv t2)/\Ce W Bn 3 (.slice a2 n2' c2)/\Ce W w.heap.size 4 (.slice s.a1 d.pg.length s.c1)/\Ce W w.heap.size 6 (.slice s.a2 d.po.length s.c2)) (w5):=(by obtain ⟨v0,v1,v2,v3,v4⟩:=D3.cells5 l5.tb;obtain ⟨z0,z1,z2,z3,-,-⟩:=cells6 l5.nb;exact ⟨v0,v1,v2,v3,v4,z0,z1,z2,z3,l5.r.arg.c4,l5.r.arg.c6⟩);refine ⟨_,rfl,s5,?_⟩;simp only[BZ.z,Act.put,Nat.reduceAdd];refine BT.r 8 (.bool false) s5 ?_;refine BT.r 9 (.bool false) s5 ?_;refine BT.r 10 (.bool false) s5 ?_;refine BT.s 11 (Pv Bn 0) s5 ?_;refine BT.s 12 (Pv Bn 3) s5 ?_;refine BT.s 13 (.slice a2 n2' c2) s5 ?_;refine BT.s 14 (Pv w.heap.size 4) s5 ?_;refine BT.s 15 (.slice s.a1 d.pg.length s.c1) s5 ?_;refine BT.s 16 (Pv w.heap.size 6) s5 ?_;refine BT.s 17 (.slice s.a2 d.po.length s.c2) s5 ?_
  have hW7:Bq W4 (w5.alloc (.cells #[.slice s.a1 d.pg.length s.c1,.slice s.a2 d.po.length s.c2] 32)):=(show Bq W4 w5 from ⟨b5.os,b5.tape,b5.output,b5.size,b5.block⟩).trans ((K0.below_new w5 (.cells #[.slice s.a1 d.pg.length s.c1,.slice s.a2 d.po.length s.c2] 32)).mono b5.size)
  have l6:=l5.below (K0.below_new w5 (.cells #[.slice s.a1 d.pg.length s.c1,.slice s.a2 d.po.length s.c2] 32));have s6:(fun W:World=>Ce W Bt 0 (Iv k)/\Ce W Bt 1 (Iv o)/\Ce W Bt 2 (Iv t)/\Ce W Bt 3 (.slice a n c)/\Ce W Bt 4 (.slice ae ne ce)/\Ce W Bn 0 (Iv k2)/\Ce W Bn 1 (Iv o2)/\Ce W Bn 2 (Iv t2)/\Ce W Bn 3 (.slice a2 n2' c2)/\Ce W w.heap.size 4 (.slice s.a1 d.pg.length s.c1)/\Ce W w.heap.size 6 (.slice s.a2 d.po.length s.c2)) (w5.alloc (.cells #[.slice s.a1 d.pg.length s.c1,.slice s.a2 d.po.length s.c2] 32)):=(by obtain ⟨v0,v1,v2,v3,v4⟩:=D3.cells5 l6.tb;obtain ⟨z0,z1,z2,z3,-,-⟩:=cells6 l6.nb;exact ⟨v0,v1,v2,v3,v4,z0,z1,z2,z3,l6.r.arg.c4,l6.r.arg.c6⟩);refine Y0.one_plain (i:=18) (u:=Sv w5.heap.size 2 2) (w':=w5.alloc (.cells #[.slice s.a1 d.pg.length s.c1,.slice s.a2 d.po.length s.c2] 32)) (by kernel_rfl) rfl (by rfl) ?_ s6 ?_
  ·go_simp
  simp only[BZ.z,Act.put,Nat.reduceAdd];refine Y0.one_callw (i:=19) (by kernel_rfl) rfl (by rfl) (.tmp 48) _ rfl (Sv w5.heap.size 2 2) (by rfl) (enters_of func104 (by kernel_rfl) rfl) ((HCo.out w5 (l5.r.bel)).mono ?_);rintro e w7 ⟨a7,c7,rfl,ho7,hc7,b7⟩;have l7:=l6.below b7;have s7:(fun W:World=>Ce W Bt 0 (Iv k)/\Ce W Bt 1 (Iv o)/\Ce W Bt 2 (Iv t)/\Ce W Bt 3 (.slice a n c)/\Ce W Bt 4 (.slice ae ne ce)/\Ce W Bn 0 (Iv k2)/\Ce W Bn 1 (Iv o2)/\Ce W Bn 2 (Iv t2)/\Ce W Bn 3 (.slice a2 n2' c2)/\Ce W w.heap.size 4 (.slice s.a1 d.pg.length s.c1)/\Ce W w.heap.size 6 (.slice s.a2 d.po.length s.c2)) (w7):=(by obtain ⟨v0,v1,v2,v3,v4⟩:=D3.cells5 l7.tb;obtain ⟨z0,z1,z2,z3,-,-⟩:=cells6 l7.nb;exact ⟨v0,v1,v2,v3,v4,z0,z1,z2,z3,l7.r.arg.c4,l7.r.arg.c6⟩);refine ⟨_,rfl,s7,?_⟩;simp only[BZ.z,Act.put,Nat.reduceAdd];refine Y0.one_call2w (i:=20) (by kernel_rfl) rfl (by rfl) (.tmp 43) (.tmp 49) _ rfl ((.slice a2 n2' c2)) (.slice a7 (d.pg++d.po).length c7) (by rfl) (by rfl) (enters_of func183 (by kernel_rfl) rfl) ((HAm.out w7 a7 c7 (Below.trans hW7 (b7.mono hW7.size)) ho7.row).mono ?_);rintro e w8 ⟨rfl,e8⟩;subst w8;refine ⟨_,rfl,s7,?_⟩;simp only[BZ.z,Act.put,Nat.reduceAdd];refine BT.r 21 (.bool false) s7 ?_;refine BT.r 22 (.bool false) s7 ?_;refine wpAnyH_done (by kernel_rfl) ?_ _;have l9:=l7.below (W':=w7.drew) ((Below.refl _ _).drew)
  have hEW:Bq W4 w7.drew:=(hW7.trans (b7.mono hW7.size)).trans (((Below.refl _ _).drew).mono (Nat.le_trans hW7.size b7.size));go_wp2;have s9:(fun W:World=>Ce W Bt 0 (Iv k)/\Ce W Bt 1 (Iv o)/\Ce W Bt 2 (Iv t)/\Ce W Bt 3 (.slice a n c)/\Ce W Bt 4 (.slice ae ne ce)/\Ce W Bt 5 (Iv d.ino)/\Ce W Bt 6 (Iv d.cl)/\Ce W Bt 7 (Iv d.un)/\Ce W Bt 8 (.string d.rc)/\Ce W Bt 9 (.slice s.a1 d.pg.length s.c1)/\Ce W Bt 10 (.string d.sav)/\Ce W Bt 11 (.slice s.a2 d.po.length s.c2)/\Ce W Bt 12 (.slice s.a3 d.fr.length s.c3)/\Ce W Bn 0 (Iv k2)/\Ce W Bn 1 (Iv o2)/\Ce W Bn 2 (Iv t2)/\Ce W Bn 3 ((.slice a2 n2' c2))/\Ce W Bn 4 (.string x2)/\Ce W Bn 5 ((.slice ae2 ne2 ce2))) (w7.drew):=(by obtain ⟨v0,v1,v2,v3,v4,v5,v6,v7,v8,v9,v10,v11,v12⟩:=cells13 (l9.tb);obtain ⟨z0,z1,z2,z3,z4,z5⟩:=cells6 (l9.nb);exact ⟨v0,v1,v2,v3,v4,v5,v6,v7,v8,v9,v10,v11,v12,z0,z1,z2,z3,z4,z5⟩);refine wp_region_held (S:=fun W=>Ce W Bt 0 (Iv k)/\Ce W Bt 1 (Iv o)/\Ce W Bt 2 (Iv t)/\Ce W Bt 3 (.slice a n c)/\Ce W Bt 4 (.slice ae ne ce)/\Ce W Bt 5 (Iv d.ino)/\Ce W Bt 6 (Iv d.cl)/\Ce W Bt 7 (Iv d.un)/\Ce W Bt 8 (.string d.rc)/\Ce W Bt 9 (.slice s.a1 d.pg.length s.c1)/\Ce W Bt 10 (.string d.sav)/\Ce W Bt 11 (.slice s.a2 d.po.length s.c2)/\Ce W Bt 12 (.slice s.a3 d.fr.length s.c3)/\Ce W Bn 0 (Iv k2)/\Ce W Bn 1 (Iv o2)/\Ce W Bn 2 (Iv t2)/\Ce W Bn 3 ((.slice a2 n2' c2))/\Ce W Bn 4 (.string x2)/\Ce W Bn 5 ((.slice ae2 ne2 ce2))) (by kernel_rfl) ?_
  refine BT.s 0 (tv k o t a n c ae ne ce d s) s9 ?_;refine BT.s 1 (Pv Bn 5) s9 ?_;refine BT.s 2 (.slice ae2 ne2 ce2) s9 ?_;refine BT.s 3 (tv k o t a n c ae ne ce d s) s9 ?_;refine BT.r 4 (.string mem) s9 ?_;refine BT.s 5 (nv k2 o2 t2 a2 n2' c2 x2 ae2 ne2 ce2) s9 ?_;refine Y0.one_call3w (i:=6) (by kernel_rfl) rfl (by rfl) (.tmp 57) (.tmp 58) (.tmp 59) _ rfl (tv k o t a n c ae ne ce d s) (.string mem) (nv k2 o2 t2 a2 n2' c2 x2 ae2 ne2 ce2) (by rfl) (by rfl) (by rfl) (enters_of func184 (by kernel_rfl) rfl) ((HEn.out _ hEW).mono ?_);rintro e wa ⟨rfl,ba⟩;have la:=l9.below ba;obtain ⟨i0,i1,i2,i3,i4,i5,i6,i7,i8,i9,i10,i11,i12⟩:=cells13 la.r.res;obtain ⟨j0,j1,j2,j3,j4,j5,j6,j7,j8,j9,j10,j11,j12⟩:=free13 la.r.res
  have sa:(fun W:World=>Ce W Bt 0 (Iv k)/\Ce W Bt 1 (Iv o)/\Ce W Bt 2 (Iv t)/\Ce W Bt 3 (.slice a n c)/\Ce W Bt 4 (.slice ae ne ce)/\Ce W Bt 5 (Iv d.ino)/\Ce W Bt 6 (Iv d.cl)/\Ce W Bt 7 (Iv d.un)/\Ce W Bt 8 (.string d.rc)/\Ce W Bt 9 (.slice s.a1 d.pg.length s.c1)/\Ce W Bt 10 (.string d.sav)/\Ce W Bt 11 (.slice s.a2 d.po.length s.c2)/\Ce W Bt 12 (.slice s.a3 d.fr.length s.c3)/\Ce W Bn 0 (Iv k2)/\Ce W Bn 1 (Iv o2)/\Ce W Bn 2 (Iv t2)/\Ce W Bn 3 ((.slice a2 n2' c2))/\Ce W Bn 4 (.string x2)/\Ce W Bn 5 ((.slice ae2 ne2 ce2))) (wa):=(by obtain ⟨v0,v1,v2,v3,v4,v5,v6,v7,v8,v9,v10,v11,v12⟩:=cells13 (la.tb);obtain ⟨z0,z1,z2,z3,z4,z5⟩:=cells6 (la.nb);exact ⟨v0,v1,v2,v3,v4,v5,v6,v7,v8,v9,v10,v11,v12,z0,z1,z2,z3,z4,z5⟩)
  have sb:(fun W:World=>Ce W Bt 0 (Iv k)/\Ce W Bt 1 (Iv o)/\Ce W Bt 2 (Iv t)/\Ce W Bt 3 (.slice a n c)/\Ce W Bt 4 (.slice ae ne ce)/\Ce W Bt 5 (Iv d.ino)/\Ce W Bt 6 (Iv d.cl)/\Ce W Bt 7 (Iv d.un)/\Ce W Bt 8 (.string d.rc)/\Ce W Bt 9 (.slice s.a1 d.pg.length s.c1)/\Ce W Bt 10 (.string d.sav)/\Ce W Bt 11 (.slice s.a2 d.po.length s.c2)/\Ce W Bt 12 (.slice s.a3 d.fr.length s.c3)/\Ce W Bn 0 (Iv k2)/\Ce W Bn 1 (Iv o2)/\Ce W Bn 2 (Iv t2)/\Ce W Bn 3 ((.slice a2 n2' c2))/\Ce W Bn 4 (.string x2)/\Ce W Bn 5 ((.slice ae2 ne2 ce2))) (W13 wa (w.heap.size+1) (Iv k) (Iv o) (Iv t) (.slice a n c) (.slice ae ne ce) (Iv d.ino) (Iv d.cl) (Iv d.un) (.string d.rc) (.slice s.a1 d.pg.length s.c1) (.string d.sav) (.slice s.a2 d.po.length s.c2) (.slice s.a3 d.fr.length s.c3)):=(by obtain ⟨v0,v1,v2,v3,v4,v5,v6,v7,v8,v9,v10,v11,v12⟩:=cells13 (other13 la.tb (B:=w.heap.size+1) (by have:=la.lt;omega) (Iv k) (Iv o) (Iv t) (.slice a n c) (.slice ae ne ce) (Iv d.ino) (Iv d.cl) (Iv d.un) (.string d.rc) (.slice s.a1 d.pg.length s.c1) (.string d.sav) (.slice s.a2 d.po.length s.c2) (.slice s.a3 d.fr.length s.c3));obtain ⟨z0,z1,z2,z3,z4,z5⟩:=cells6 (other13 la.nb (B:=w.heap.size+1) (by have:=la.lt;omega) (Iv k) (Iv o) (Iv t) (.slice a n c) (.slice ae ne ce) (Iv d.ino) (Iv d.cl) (Iv d.un) (.string d.rc) (.slice s.a1 d.pg.length s.c1) (.string d.sav) (.slice s.a2 d.po.length s.c2) (.slice s.a3 d.fr.length s.c3));exact ⟨v0,v1,v2,v3,v4,v5,v6,v7,v8,v9,v10,v11,v12,z0,z1,z2,z3,z4,z5⟩)
  refine ⟨_,rfl,sa,?_⟩;simp only[BZ.z,Act.put,Nat.reduceAdd];refine Y0.one_skip (i:=7) (w':=W13 wa (w.heap.size+1) (Iv k) (Iv o) (Iv t) (.slice a n c) (.slice ae ne ce) (Iv d.ino) (Iv d.cl) (Iv d.un) (.string d.rc) (.slice s.a1 d.pg.length s.c1) (.string d.sav) (.slice s.a2 d.po.length s.c2) (.slice s.a3 d.fr.length s.c3)) (by kernel_rfl) rfl (by rfl) ?_ sb ?_
  ·go_simp
  simp only[BZ.z,Act.put,Nat.reduceAdd];refine BT.r 8 (.slice ae2 ne2 ce2) sb ?_;refine BT.r 9 (.bool eb) sb ?_;refine wpAnyH_done (by kernel_rfl) ?_ _;obtain ⟨u0,u1,u2,u3,u4,u5,u6,u7,u8,u9,u10,u11,u12⟩:=cells13 (put13 la.r.res (Iv k) (Iv o) (Iv t) (.slice a n c) (.slice ae ne ce) (Iv d.ino) (Iv d.cl) (Iv d.un) (.string d.rc) (.slice s.a1 d.pg.length s.c1) (.string d.sav) (.slice s.a2 d.po.length s.c2) (.slice s.a3 d.fr.length s.c3));go_wp2;refine bodyPost_ret (v:=.tuple #[tv k o t a n c ae ne ce d s,.slice ae2 ne2 ce2,.bool eb]) (by simp[results,results153,go_sem,u0,u1,u2,u3,u4,u5,u6,u7,u8,u9,u10,u11,u12]) rfl ?_;exact HFin.out wa (hEW.trans (ba.mono hEW.size)) (bel13 la.r.bel (by omega) _ _ _ _ _ _ _ _ _ _ _ _ _)
end D6
end Go.Proofs.YtlejhfnjmkdobaaGreatDoor
