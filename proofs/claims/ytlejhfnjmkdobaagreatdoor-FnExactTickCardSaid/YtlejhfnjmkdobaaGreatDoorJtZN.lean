/- Joined texts. -/
import Derived.Test.YtlejhfnjmkdobaaGreatDoorJtZK
set_option linter.unusedVariables false
set_option linter.unusedSimpArgs false
set_option maxRecDepth 10000
set_option maxHeartbeats 16000000
namespace Go.Proofs.YtlejhfnjmkdobaaGreatDoor
open ChangeShapes WideShapes ChangeAt RowKit
open Go.Proofs.Tryz
namespace AQ
open N0 (Ln)
open N1 (Sl)
open Z0 (dat Row Lns Kp kval kvals)
open KD (KA Small kob zk)
theorem hmf:∀ (fn:Fn) (first cap:Array Value) (w:World),(Instr.makeFunc fn first cap).run prog w=.ok (.func fn first cap) w:=fun _ _ _ _=>rfl
structure Bx (w:World) (k:Kp) (a:Option Addr) (c:Nat) (W:World):Prop where
 box:K0.Blk w.heap.size (kvals k a c) W
 ans:K0.Blk (w.heap.size+1) Z3.zero4 W
 code:K0.Blk (w.heap.size+1+1) [.int .i64 0] W
 bel:Bq w W
variable {w W W' : World} {k k' : Kp} {a : Option Addr} {c : Nat}
theorem Bx.below (h:Bx w k a c W) (hb:Bq W W'):Bx w k a c W':=⟨h.box.below hb,h.ans.below hb,h.code.below hb,h.bel.trans (hb.mono h.bel.size)⟩
theorem Bx.keep {B:Nat} (h:Bx w k a c W) (hb:Below B W W') (hB:w.heap.size+3<=B):Bx w k a c W':=
 ⟨J0.blk_keep h.box hb (by omega),J0.blk_keep h.ans hb (by omega),J0.blk_keep h.code hb (by omega),h.bel.trans (hb.mono (by omega))⟩
abbrev co:Obj:=.cells #[.int .i64 0] 3
theorem bx_new (w:World) (k:Kp) (a:Option Addr) (c:Nat):Bx w k a c (((w.alloc (kob k a c)).alloc zk).alloc co):=
 ⟨((K0.blk_new (kvals k a c) w 31).alloc _).alloc _,(K0.blk_at Z3.zero4 _ 31 (by simp)).alloc _,K0.blk_at [Iv 0] _ 3 (by simp),(((Below.refl _ _).alloc (Nat.le_refl _) _).alloc (by simp) _).alloc (by simp;omega) _⟩
theorem own_mono {lo lo':Nat} {ds:List Ln} (h:KD.Own lo a ds W) (hl:lo'<=lo):KD.Own lo' a ds W:=h.imp id fun ⟨g,b,ss,L,e,h1,h2⟩=>⟨g,b,ss,L,e,by omega,h2⟩
structure Sz (k:Kp):Prop where
 m:k.mem.size<=1048576
 d:k.dur.size<=1048576
 t:k.ds.length+Z1.tot k.ds k.ds.length<=1048576
theorem Sz.small (h:Sz k):Small k.ds:=fun j hj=>by
 have:=Z1.tot_one hj;have:=h.t;exact N12.sizes (d:=dat k.ds j) (by omega)
theorem Sz.fits (h:Sz k) (ss:Nat->Sl):Z4.Fits k.ds ss:=fun j hj=>by
 obtain ⟨z1,z2,z3,z4,z5⟩:=h.small j hj;exact ⟨⟨by omega,by omega,by omega⟩,z2,z3⟩
abbrev wo1 (k:Kp) (a:Option Addr) (c:Nat):Obj:=.cells #[.int .i32 1,.int .u32 0,.string k.mem,.string k.dur,.slice a k.ds.length c,.int .i64 k.ck] 63
abbrev wo (k:Kp) (a:Option Addr) (c:Nat):Obj:=.cells #[.int .i32 0,.int .u32 0,.string k.mem,.string k.dur,.slice a k.ds.length c,.int .i64 k.ck] 63
end AQ
namespace PD
open N0 (Ln)
open N1 (Sl)
open Z0 (dat Row Lns Kp kval kvals)
open KD (KA Small kob zk)
open AQ (Bx bx_new co Sz)
theorem ask_not (k:Kp) (a:Option Addr) (c:Nat) (s0:Nat->Sl) (q:Value) (w:World) (hz:Sz k) (hok:KI.iK k=false) (hR:Lns w a k.ds s0) :
  Calls prog 50 #[kval k a c,q] w fun e w'=>e=.returned (.tuple #[.agg #[.string ⟨#[]⟩,.string ⟨#[]⟩,.slice none 0 0,.int .i64 0],.int .i64 6])/\Below w.heap.size w w':=by
 have t0:=bx_new w k a c
 have HL:Hid (∀ W,Below w.heap.size w W->Lns W a k.ds s0):=fun W hb=>hR.below hb
 have hk0:=KI.impl_KeeperOk k a c s0 _ hz.m hz.d hz.t (hz.fits s0) (HL.out _ t0.bel);rw[hok] at hk0;have c0:=t0.box.c0;have c1:=t0.box.c1;have c2:=t0.box.c2;have c3:=t0.box.c3;obtain ⟨W0,hW0⟩:∃ W0,((w.alloc (kob k a c)).alloc zk).alloc co=W0:=⟨_,rfl⟩;rw[hW0] at t0 hk0 c0 c1 c2 c3;clear hR hok HL
 go_enter_defers func50,ntmps50
 go_wp2_with (go_at_call 78;refine hk0.mono ?_;rintro e w1 ⟨rfl,b1⟩;have t1:=t0.below b1;have y0:=t1.ans.c0;have y1:=t1.ans.c1;have y2:=t1.ans.c2;have y3:=t1.ans.c3;have g0:=t1.ans.f0;have g1:=t1.ans.f1;have g2:=t1.ans.f2;have g3:=t1.ans.f3;have j0:=t1.code.c0;have jf:=t1.code.f0)
 have n2:=(t1.ans.put4 (.string ⟨#[]⟩) (.string ⟨#[]⟩) (.slice none 0 0) (.int .i64 0)).setOther (B':=w.heap.size+1+1) (by omega) 0 (.int .i64 6);have k2:=((((t1.code.setOther (B':=w.heap.size+1) (by omega) 0 (.string ⟨#[]⟩)).setOther (B':=w.heap.size+1) (by omega) 1 (.string ⟨#[]⟩)).setOther (B':=w.heap.size+1) (by omega) 2 (.slice none 0 0)).setOther (B':=w.heap.size+1) (by omega) 3 (.int .i64 0)).set 0 (.int .i64 6);have l2:=((((t1.bel.setCell (p:=⟨w.heap.size+1,0,none⟩) (Nat.le_succ _) (.string ⟨#[]⟩)).setCell (p:=⟨w.heap.size+1,1,none⟩) (Nat.le_succ _) (.string ⟨#[]⟩)).setCell (p:=⟨w.heap.size+1,2,none⟩) (Nat.le_succ _) (.slice none 0 0)).setCell (p:=⟨w.heap.size+1,3,none⟩) (Nat.le_succ _) (.int .i64 0)).setCell (p:=⟨w.heap.size+1+1,0,none⟩) (by show w.heap.size<=w.heap.size+1+1;omega) (.int .i64 6);have v0:=n2.c0;have v1:=n2.c1;have v2:=n2.c2;have v3:=n2.c3;have v4:=k2.cell 0 (by simp);simp only[List.set_cons_zero,List.getElem_cons_zero] at v4;obtain ⟨W2,hW2⟩:∃ W2,((((w1.setCell ⟨w.heap.size+1,0,none⟩ (.string ⟨#[]⟩)).setCell ⟨w.heap.size+1,1,none⟩ (.string ⟨#[]⟩)).setCell ⟨w.heap.size+1,2,none⟩ (.slice none 0 0)).setCell ⟨w.heap.size+1,3,none⟩ (.int .i64 0)).setCell ⟨w.heap.size+1+1,0,none⟩ (.int .i64 6)=W2:=⟨_,rfl⟩;rw[hW2] at v0 v1 v2 v3 v4 l2 ⊢;clear c0 c1 c2 c3 y0 y1 y2 y3 g0 g1 g2 g3 j0 jf hk0 n2 k2 hW2
 simp[bodyPostD,Leaves,settle,results,results50,go_sem,v0,v1,v2,v3,v4];exact l2
structure B2 (w:World) (k:Kp) (a:Option Addr) (c:Nat) (W:World):Prop where
 box:K0.Blk w.heap.size (kvals k a c) W
 ans:K0.Blk (w.heap.size+1) Z3.zero4 W
 bel:Bq w W
theorem B2.below {w W W':World} {k:Kp} {a:Option Addr} {c:Nat} (h:B2 w k a c W) (hb:Bq W W'):B2 w k a c W':=⟨h.box.below hb,h.ans.below hb,h.bel.trans (hb.mono h.bel.size)⟩
theorem b2_new (w:World) (k:Kp) (a:Option Addr) (c:Nat):B2 w k a c ((w.alloc (kob k a c)).alloc zk):=
 ⟨(K0.blk_new (kvals k a c) w 31).alloc _,K0.blk_at Z3.zero4 _ 31 (by simp),((Below.refl _ _).alloc (Nat.le_refl _) _).alloc (by simp) _⟩
theorem own_mono {lo lo':Nat} {a:Option Addr} {ds:List Ln} {W:World} (h:KD.Own lo a ds W) (hl:lo'<=lo):KD.Own lo' a ds W:=AQ.own_mono h hl
theorem ends {A lo lo':Nat} {x0 x1 x2 x3:Value} {w W:World} (k:Kp) (a:Option Addr) (c:Nat) (h:K0.Blk A [x0,x1,x2,x3] W) (ho:KD.Own lo a k.ds W) (hA:A<lo) (hl:lo'<=lo) (hb:Below lo' w W) (hA':lo'<=A) :
  let V:=(((W.setCell ⟨A,0,none⟩ (.string k.mem)).setCell ⟨A,1,none⟩ (.string k.dur)).setCell ⟨A,2,none⟩ (.slice a k.ds.length c)).setCell ⟨A,3,none⟩ (Iv k.ck)
  K0.Blk A (kvals k a c) V/\KD.Own lo' a k.ds V/\Below lo' w V:=
 ⟨h.put4 _ _ _ _,own_mono ((((ho.set hA 0 _).set hA 1 _).set hA 2 _).set hA 3 _) hl,(((hb.setCell (p:=⟨A,0,none⟩) hA' _).setCell (p:=⟨A,1,none⟩) hA' _).setCell (p:=⟨A,2,none⟩) hA' _).setCell (p:=⟨A,3,none⟩) hA' _⟩
abbrev zo:Obj:=.cells #[.string ⟨#[]⟩,.string ⟨#[]⟩,.slice none 0 0,.int .i64 0] 31
theorem stay_not (k:Kp) (a:Option Addr) (c:Nat) (q:Value) (w:World) (HA:∀ W,Bq w W->Calls prog 50 #[kval k a c,q] W (Rb (.tuple #[.agg #[.string ⟨#[]⟩,.string ⟨#[]⟩,.slice none 0 0,Iv 0],Iv 6]) W))
  (HC:∀ W,Bq w W->Calls prog 51 #[kval k a c] W (KA k W)) :
  Calls prog 21 #[kval k a c,q] w (KA k w):=by
 have t0:=b2_new w k a c;have hq:=HA _ t0.bel;have HC':Hid (∀ W,Bq w W->Calls prog 51 #[kval k a c] W (KA k W)):=HC;have c0:=t0.box.c0;have c1:=t0.box.c1;have c2:=t0.box.c2;have c3:=t0.box.c3
 have z0:w.heap.size+2=((w.alloc (kob k a c)).alloc zk).heap.size:=by simp
 obtain ⟨W0,hW0⟩:∃ W0,(w.alloc (kob k a c)).alloc zk=W0:=⟨_,rfl⟩;rw[hW0] at t0 hq c0 c1 c2 c3 z0;clear HA HC;unfold KA;go_enter func21,ntmps21
 go_wp2_with (first
  | (go_at_call 50;refine hq.mono ?_;rintro e w1 ⟨rfl,b1⟩;have nw:=K0.below_new w1 zo;have t1:=(t0.below b1).below nw;have s1:=b1.size;have n1:=nw.size;have c0:=t1.box.c0;have c1:=t1.box.c1;have c2:=t1.box.c2;have c3:=t1.box.c3)
  | (go_at_call 51;refine (HC'.out _ t1.bel).mono ?_;rintro e w2 ⟨a2,c2',rfl,o2,b2⟩;have t2:=t1.below b2;have y0:=t2.ans.c0;have y1:=t2.ans.c1;have y2:=t2.ans.c2;have y3:=t2.ans.c3;have g0:=t2.ans.f0;have g1:=t2.ans.f1;have g2:=t2.ans.f2;have g3:=t2.ans.f3))
 obtain ⟨q1,q2,q3⟩:=ends k a2 c2' t2.ans o2 (A:=w.heap.size+1) (lo':=w.heap.size) (by omega) (by omega) t2.bel (Nat.le_succ _);have v0:=q1.c0;have v1:=q1.c1;have v2:=q1.c2;have v3:=q1.c3;exact bodyPost_ret (v:=kval k a2 c2') (by simp[results,results21,go_sem,v0,v1,v2,v3]) rfl ⟨a2,c2',rfl,q2,q3⟩
end PD
namespace PE
open N0 (Ln)
open N1 (Sl Lists Fit LB lb_new)
open HP (Rg at_)
open WI (rl)
open Z0 (dat Kp Lns kval)
open I2 (ints)
open X0 (mix mix_len)
open KQ (lay layN layS lay_size layN_size layS_size)
theorem wf_small {i:Int} (h0:0<=i) (h1:i<=768):(Lit.int .i64 i).wf=true:=by
 have e1:IntKind.i64.min = -9223372036854775808:=by decide +kernel
 have e2:IntKind.i64.max=9223372036854775807:=by decide +kernel
 simp[Lit.wf,e1,e2];omega
theorem flush_lay (a b:ByteArray) (i n:Int) (w:World) (ha:a.size=768) (hb:b.size=768) (hi:0<=i) (hn:1<=n) (hin:i+n<=768) :
  Calls prog 75 #[.agg #[.string a,.string b],Iv i,Iv n] w (Rb (.agg #[.string a,.string (lay a b (i,n))]) w):=by
 have h:=F3.spec_Flush a b i n w (by omega) (by omega) (wf_small hi (by omega)) (wf_small (by omega) (by omega))
 have e:F3.flushed a b i n=lay a b (i,n):=by
  unfold F3.flushed;rw[if_pos (by unfold F3.goes;rw[D1.ok_mk ha hb,ha];simp[B2.lies];omega)];rfl
 rw[e] at h;exact h
theorem l06Sync (a b:ByteArray) (d:Ln) (s:Sl) (w:World) (ha:a.size=768) (hb:b.size=768) (hF:Fit d s) (hpo:d.po.length<=1048576) (hfr:d.fr.length<=1048576) (hR:Lists w d s) :
  Calls prog 48 #[.agg #[.string a,.string b],N1.val d s] w (Rb (.agg #[.string a,.string (layN a b (rl d) (rl d).length)]) w):=by
 have dv:=K0.blk_new [.string a,.string b] w 28;have m0:=K0.below_new w (.cells #[.string a,.string b] 28)
 have e1:(w.alloc (.cells #[.string a,.string b] 28)).heap.size=w.heap.size+1:=by simp
 have m1:=K0.below_new (w.alloc (.cells #[.string a,.string b] 28)) (.cells (N1.Lc d s) 46);have lb:=N1.lb_new d s (w.alloc (.cells #[.string a,.string b] 28)) 46
 have e2:((w.alloc (.cells #[.string a,.string b] 28)).alloc (.cells (N1.Lc d s) 46)).heap.size=w.heap.size+2:=by simp
 have m2:=K0.below_new ((w.alloc (.cells #[.string a,.string b] 28)).alloc (.cells (N1.Lc d s) 46)) (.cells #[.string ⟨#[]⟩,.string ⟨#[]⟩] 28);have rs:=K0.blk_new [.string ⟨#[]⟩,.string ⟨#[]⟩] ((w.alloc (.cells #[.string a,.string b] 28)).alloc (.cells (N1.Lc d s) 46)) 28;have dv3:=(dv.below m1).below m2;have lb3:=lb.below m2;have M3:=(m0.trans (m1.mono m0.size)).trans (m2.mono (Nat.le_trans m0.size m1.size));rw[e1] at lb3;rw[e2] at rs;have L3:=hR.below M3;have c0:=lb3.c0;have c1:=lb3.c1;have c2:=lb3.c2;have c3:=lb3.c3;have c4:=lb3.c4;have c5:=lb3.c5;have c6:=lb3.c6;have c7:=lb3.c7
 have hrg:Hid (∀ W,Lists W d s->_):=fun W h=>R6.spec_Ranges d s W hF hpo hfr h
 have hlt3:w.heap.size+2<(((w.alloc (.cells #[.string a,.string b] 28)).alloc (.cells (N1.Lc d s) 46)).alloc (.cells #[.string ⟨#[]⟩,.string ⟨#[]⟩] 28)).heap.size:=rs.lt;have hnr:(rl d).length=R6.nR d:=WI.rl_len d;obtain ⟨n,hn⟩:∃ n,(rl d).length=n:=⟨_,rfl⟩;rw[hn] at hnr;rw[hn]
 have hn13:n<=13:=by rw[<- hn];exact WI.rl_small d
 have HN:Hid ((rl d).length=n):=hn;clear dv m0 m1 lb m2 e1 e2 hR hF hn;go_enter func48,ntmps48
 go_wp2_with (go_at_call 65;refine (hrg.out _ L3).mono ?_;rintro e w4 ⟨a4,c4',rfl,hq4,hc4,o4,b4⟩;have M4:=M3.trans (b4.mono M3.size);have dv4:=dv3.below b4;have rs4:=rs.below b4;have r4:=WI.row_of o4)
 rw[<- hnr] at *;clear c0 c1 c2 c3 c4 c5 c6 c7 dv3 lb3 rs M3 L3 b4 o4 hrg hq4 hc4;have hlt4:w.heap.size+3<=((((w.alloc (.cells #[.string a,.string b] 28)).alloc (.cells (N1.Lc d s) 46)).alloc (.cells #[.string ⟨#[]⟩,.string ⟨#[]⟩] 28))).heap.size:=hlt3
 have r4':rl d=[]\/∃ G,a4=some ⟨G,0,none⟩/\w.heap.size+3<=G/\K0.Blk G (ints (R6.rg d)) w4:=r4.imp id fun ⟨G,h1,h2,h3⟩=>⟨G,h1,Nat.le_trans hlt4 h2,h3⟩
 clear r4 hlt3 hlt4
 go_loopw [6] (fun i w'=>∃ k:Nat,k<=n/\i=Iv k/\K0.Blk w.heap.size [.string a,.string (layN a b (rl d) k)] w'/\K0.Blk (w.heap.size+2) [.string ⟨#[]⟩,.string ⟨#[]⟩] w'/\(rl d=[]\/∃ G,a4=some ⟨G,0,none⟩/\w.heap.size+3<=G/\K0.Blk G (ints (R6.rg d)) w')/\Bq w w') (fun i _=>n-(intOf i).toNat)
 case atStart=>exact ⟨0,Nat.zero_le _,rfl,dv4,rs4,r4',M4⟩
 case round=>
  obtain ⟨k,hk,rfl,dvk,rsk,rk,hbel⟩:=hrel;clear dv4 rs4 r4' M4
  by_cases hlt:k<n
  ·obtain ⟨G,rfl,hG,kG⟩:∃ G,a4=some ⟨G,0,none⟩/\w.heap.size+3<=G/\K0.Blk G (ints (R6.rg d)) wr:=by
    rcases rk with h0 | h0
    ·rw[h0] at HN
     have:=HN.out;simp at this;omega
    ·exact h0
   have hkl:k<(rl d).length:=by have:=HN.out;omega
   obtain ⟨y1,y2⟩:=WI.row_get kG hkl;obtain ⟨i1,i2,i3⟩:=WI.at_in d hkl;have hsz:=layN_size a b (rl d) hb k;have hu:layN a b (rl d) (k+1)=lay a (layN a b (rl d) k) (at_ (rl d) k):=rfl;obtain ⟨r,er⟩:∃ r,at_ (rl d) k=r:=⟨_,rfl⟩;rw[er] at y1 y2 i1 i2 i3 hu;obtain ⟨u,v⟩:=r;simp only at y1 y2 i1 i2 i3;obtain ⟨cur,ec⟩:∃ cur,layN a b (rl d) k=cur:=⟨_,rfl⟩;rw[ec] at dvk hsz hu;have HU:Hid (layN a b (rl d) (k+1)=lay a cur (u,v)):=hu
   have hfl:Hid (∀ W,_):=fun W=>flush_lay a cur u v W ha hsz i1 (by omega) i3
   have x1:(0:Int)<=(k:Int):=by omega
   have x2:(k:Int)<(n:Int):=by omega
   have d0:=dvk.c0;have d1:=dvk.c1;clear er ec hu rk hb;go_wp2
   go_region_with (go_at_call 75;refine (hfl.out _).mono ?_;rintro e w5 ⟨rfl,b5⟩;have dv5:=dvk.drew.below b5;have rs5:=rsk.drew.below b5;have k5:=kG.drew.below b5;have M5:=hbel.drew.trans (b5.mono hbel.drew.size);have f0:=dv5.c0;have f1:=dv5.c1;have g0:=dv5.f0;have g1:=dv5.f1)
   all_goals
    go_wp2;have q5:=dv5.put2 (.string a) (.string (lay a cur (u,v)));have rs6:=(rs5.setOther (B':=w.heap.size) (by omega) 0 (.string a)).setOther (B':=w.heap.size) (by omega) 1 (.string (lay a cur (u,v)));have k6:=(k5.setOther (B':=w.heap.size) (by omega) 0 (.string a)).setOther (B':=w.heap.size) (by omega) 1 (.string (lay a cur (u,v)));have M6:=(M5.setCell (p:=⟨w.heap.size,0,none⟩) (Nat.le_refl _) (.string a)).setCell (p:=⟨w.heap.size,1,none⟩) (Nat.le_refl _) (.string (lay a cur (u,v)))
    go_roundw
    case rel=>exact ⟨k+1,by omega,by go_num,by rw[HU.out];exact q5,rs6,Or.inr ⟨G,rfl,hG,k6⟩,M6⟩
    case measure=>simp[intOf];omega
  ·obtain rfl:k=n:=by omega
   have d0:=dvk.c0;have d1:=dvk.c1;have f0:=rsk.c0;have f1:=rsk.c1;have g0:=rsk.f0;have g1:=rsk.f1;have q:=rsk.put2 (.string a) (.string (layN a b (rl d) k));have MF:=(hbel.setCell (p:=⟨w.heap.size+2,0,none⟩) (Nat.le_add_right _ 2) (.string a)).setCell (p:=⟨w.heap.size+2,1,none⟩) (Nat.le_add_right _ 2) (.string (layN a b (rl d) k));clear rk;go_wp2;exact bodyPost_ret (v:=.agg #[.string a,.string (layN a b (rl d) k)]) (by simp[results,results48,go_sem,q.c0,q.c1]) rfl ⟨rfl,MF⟩
end PE
end Go.Proofs.YtlejhfnjmkdobaaGreatDoor
