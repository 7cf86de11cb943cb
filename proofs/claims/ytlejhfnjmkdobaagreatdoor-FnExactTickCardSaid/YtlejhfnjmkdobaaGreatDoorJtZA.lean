/- Joined texts. -/
import Derived.Test.YtlejhfnjmkdobaaGreatDoorJtW
import Derived.Test.YtlejhfnjmkdobaaGreatDoorJtV
import Derived.Test.YtlejhfnjmkdobaaGreatDoorJtX
import Derived.Stop.Asserts
set_option linter.unusedVariables false
set_option linter.unusedSimpArgs false
set_option maxRecDepth 10000
set_option maxHeartbeats 16000000
namespace Go.Proofs.YtlejhfnjmkdobaaGreatDoor
open ChangeShapes WideShapes ChangeAt RowKit
open Go.Proofs.Tryz
namespace Z4
open N0 (Ln)
open N1 (Sl Fit Lists val)
open N13 (undo uPg_size uFr_size laid_size)
open Z0 (dat Row Lns Kp kval kvals)
theorem undo_size (m:ByteArray) (d:Ln):(undo m d).size=m.size:=by
 unfold undo
 split
 ·rw[N13.undone,uFr_size,uPg_size,laid_size]
 ·rfl
def unAll (ds:List Ln) (m:ByteArray):Nat->ByteArray
 | 0=>m
 | k+1=>undo (unAll ds m k) (dat ds k)
theorem unAll_size (ds:List Ln) (m:ByteArray):∀ k,(unAll ds m k).size=m.size
 | 0=>rfl
 | k+1=>by rw[unAll,undo_size,unAll_size ds m k]
def truth (k:Kp):ByteArray:=unAll k.ds k.mem k.ds.length
structure Bk (w:World) (k:Kp) (a:Option Addr) (c:Nat) (W:World):Prop where
 arg:K0.Blk w.heap.size (kvals k a c) W
 bel:Bq w W
variable {w W W' : World} {k : Kp} {a : Option Addr} {c : Nat}
theorem Bk.below (h:Bk w k a c W) (hb:Bq W W'):Bk w k a c W':=⟨h.arg.below hb,h.bel.trans (hb.mono h.bel.size)⟩
theorem bk_new (w:World) (k:Kp) (a:Option Addr) (c:Nat):Bk w k a c (w.alloc (.cells #[.string k.mem,.string k.dur,.slice a k.ds.length c,Iv k.ck] 31)):=⟨K0.blk_new (kvals k a c) w 31,K0.below_new _ _⟩
def Fits (ds:List Ln) (ss:Nat->Sl):Prop:=∀ j,j<ds.length->Fit (dat ds j) (ss j)/\(dat ds j).po.length<=1048576/\(dat ds j).fr.length<=1048576
theorem spec_Truth (k:Kp) (a:Option Addr) (c:Nat) (ss:Nat->Sl) (w:World) (hms:k.mem.size<=281474976710656) (hn:k.ds.length<=1048576) (hF:Fits k.ds ss) (hR:Lns w a k.ds ss) :
  Calls prog 30 #[kval k a c] w (Rb (.string (truth k)) w):=by
 have x0:=bk_new w k a c
 have HL:Hid (∀ W,Bq w W->Lns W a k.ds ss):=fun W hb=>hR.below hb
 have HT:Hid (truth k=unAll k.ds k.mem k.ds.length):=rfl;have HF:Hid (Fits k.ds ss):=hF;clear hR hF;go_enter func30,ntmps30;go_wp2
 go_loopw [3,4] (fun v i w'=>∃ j:Nat,j<=k.ds.length/\i=Iv j/\v=.string (unAll k.ds k.mem j)/\Bk w k a c w') (fun _ i _=>k.ds.length-(intOf i).toNat)
 case atStart=>exact ⟨0,Nat.zero_le _,rfl,rfl,x0⟩
 case round=>
  obtain ⟨j,hj,rfl,rfl,xr⟩:=hrel;clear x0;have hus:=unAll_size k.ds k.mem j;have c2:=xr.arg.c2
  by_cases hlt:j<k.ds.length
  ·have ls:=(HL.out _ xr.bel).sub j hlt
   obtain ⟨hf,hpo,hfr⟩:=HF.out j hlt;obtain ⟨b,off,hab,hlt0,hc⟩:=(HL.out _ xr.bel).row.get hlt;obtain ⟨y0,y1,y2,y3,y4,y5,y6,y7⟩:=hc j hlt;have HS:Hid (undo (unAll k.ds k.mem j) (dat k.ds j)=unAll k.ds k.mem (j+1)):=rfl;obtain ⟨d,ed⟩:∃ d,dat k.ds j=d:=⟨_,rfl⟩;obtain ⟨s,es⟩:∃ s,ss j=s:=⟨_,rfl⟩;rw[ed,es] at ls hf;rw[ed] at y0 y1 y2 y3 y4 y5 y6 y7 HS hpo hfr;rw[es] at y4 y6 y7;rw[hab] at c2;clear hab
   have e1:(0:Int)<=(j:Int):=by omega
   have e2:(j:Int)<(k.ds.length:Int):=by omega
   have HU:Hid (Calls prog 44 #[.string (unAll k.ds k.mem j),val d s] wr (Rb (.string (undo (unAll k.ds k.mem j) d)) wr)):=N14.spec_Undo _ d s wr (by omega) hf hpo hfr ls;clear ed es hc ls hf
   go_wp2_with (go_at_call 44;refine HU.out.mono ?_;rintro e w1 ⟨rfl,b1⟩;have x1:=xr.below b1)
   go_roundw
   case rel=>exact ⟨j+1,by omega,by go_num,by rw[HS.out],x1⟩
   case measure=>simp[intOf];omega
  ·obtain rfl:j=k.ds.length:=by omega
   have e9:decide ((k.ds.length:Int)<(k.ds.length:Int))=false:=by simp
   go_wp2;go_ret;exact ⟨by rw[HT.out];rfl,xr.bel⟩
theorem impl_Truth (k:Kp) (a:Option Addr) (c:Nat) (ss:Nat->Sl) (w:World) (hms:k.mem.size<=281474976710656) (hn:k.ds.length<=1048576) (hF:Fits k.ds ss) (hR:Lns w a k.ds ss) :
  Calls prog 116 #[kval k a c] w (Rb (.string (truth k)) w):=by
 have x0:=bk_new w k a c
 have HL:Hid (∀ W,Bq w W->Lns W a k.ds ss):=fun W hb=>hR.below hb
 have HT:Hid (truth k=unAll k.ds k.mem k.ds.length):=rfl;have HF:Hid (Fits k.ds ss):=hF;clear hR hF;go_enter func116,ntmps116
 go_wp2_with (go_at_call 110;refine (B2.clone_any _ _ hms).mono ?_;rintro e w2 ⟨rfl,b2⟩;have x2:=x0.below b2;have c2:=x2.arg.c2)
 go_loopw [3,13] (fun v i w'=>∃ j:Nat,j<=k.ds.length/\i=Iv j/\v=.string (unAll k.ds k.mem j)/\Bk w k a c w') (fun _ i _=>k.ds.length-(intOf i).toNat)
 case atStart=>exact ⟨0,Nat.zero_le _,rfl,rfl,x2⟩
 case round=>
  obtain ⟨j,hj,rfl,rfl,xr⟩:=hrel;clear x0 x2 c2 b2;have hus:=unAll_size k.ds k.mem j
  by_cases hlt:j<k.ds.length
  ·have ls:=(HL.out _ xr.bel).sub j hlt
   obtain ⟨hf,hpo,hfr⟩:=HF.out j hlt;obtain ⟨b,off,hab,hlt0,hc⟩:=(HL.out _ xr.bel).row.get hlt;obtain ⟨y0,y1,y2,y3,y4,y5,y6,y7⟩:=hc j hlt;have HS:Hid (undo (unAll k.ds k.mem j) (dat k.ds j)=unAll k.ds k.mem (j+1)):=rfl;obtain ⟨d,ed⟩:∃ d,dat k.ds j=d:=⟨_,rfl⟩;obtain ⟨s,es⟩:∃ s,ss j=s:=⟨_,rfl⟩;rw[ed,es] at ls hf;rw[ed] at y0 y1 y2 y3 y4 y5 y6 y7 HS hpo hfr;rw[es] at y4 y6 y7;rw[hab]
   have e1:(0:Int)<=(j:Int):=by omega
   have e2:(j:Int)<(k.ds.length:Int):=by omega
   have HU:Hid (∀ W,Bq wr W->Calls prog 89 #[.string (unAll k.ds k.mem j),val d s] W (Rb (.string (undo (unAll k.ds k.mem j) d)) W)):=fun W hb=>N13.impl_Undo _ d s W (by omega) hf hpo hfr (ls.below hb)
   clear ed es hc ls hf;have hal:=K0.below_new wr (.cells (N1.Lc d s) 46);have x5:=xr.below hal
   go_wp2_with (go_at_call 89;refine (HU.out _ hal).mono ?_;rintro e w1 ⟨rfl,b1⟩;have x6:=x5.below b1)
   go_roundw
   case rel=>exact ⟨j+1,by omega,by go_num,by rw[HS.out],hab ▸ x6⟩
   case measure=>simp[intOf];omega
  ·obtain rfl:j=k.ds.length:=by omega
   go_wp2;go_ret;exact ⟨by rw[HT.out];rfl,xr.bel⟩
end Z4
namespace TK
def setM (a b:ByteArray) (i:Int) (t:ByteArray):ByteArray:=D2.stored a b i t
def setD (a b:ByteArray) (i:Int) (t:ByteArray):ByteArray:=F3.flushed (D2.stored a b i t) b i (t.size:Int)
theorem l06Set (a b:ByteArray) (i:Int) (t:ByteArray) (w:World) (ha:a.size<=281474976710656) (hb:b.size<=281474976710656) (ht:t.size<=1000) (wi:(Lit.int .i64 i).wf=true) (hs:(D2.stored a b i t).size<=281474976710656) :
  Calls prog 45 #[.agg #[.string a,.string b],Iv i,.string t] w (Rb (.agg #[.string (setM a b i t),.string (setD a b i t)]) w):=by
 have n0:=K0.below_new w (.cells #[.string a,.string b] 28);have k0:=K0.blk_new [.string a,.string b] w 28;have n1:=K0.below_new (w.alloc (.cells #[.string a,.string b] 28)) (.cells #[.string ⟨#[]⟩,.string ⟨#[]⟩] 28);have k1:K0.Blk (w.heap.size+1) [.string ⟨#[]⟩,.string ⟨#[]⟩] ((w.alloc (.cells #[.string a,.string b] 28)).alloc (.cells #[.string ⟨#[]⟩,.string ⟨#[]⟩] 28)):=K0.blk_at (B:=w.heap.size+1) [.string ⟨#[]⟩,.string ⟨#[]⟩] _ 28 (by simp);have b1:=n0.trans (n1.mono n0.size);have j0:=k0.below n1
 have wt:(Lit.int .i64 (t.size:Int)).wf=true:=by simp[Lit.wf,IntKind.min,IntKind.max,IntKind.signed,IntKind.bits];omega
 have HS:Hid (∀ W,Calls prog 76 #[.agg #[.string a,.string b],Iv i,.string t] W (Rb (.agg #[.string (setM a b i t),.string b]) W)):=fun W=>D2.spec_Store a b i t W ha hb (by omega)
 have HF:Hid (∀ W,Calls prog 75 #[.agg #[.string (setM a b i t),.string b],Iv i,Iv (t.size:Int)] W (Rb (.agg #[.string (setM a b i t),.string (setD a b i t)]) W)):=fun W=>F3.spec_Flush (D2.stored a b i t) b i t.size W hs hb wi wt
 generalize setM a b i t=x at HS HF ⊢
 generalize setD a b i t=y at HF ⊢
 have c0:=j0.c0;have c1:=j0.c1;clear wt hs wi n0 n1 k0;go_enter func45,ntmps45
 go_wp2_with (first
  | (go_at_call 76;refine (HS.out _).mono ?_;rintro e w2 ⟨rfl,b2⟩;have k2:=k1.below b2;have l2:=b1.trans (b2.mono b1.size))
  | (go_at_call 75;refine (HF.out _).mono ?_;rintro e w3 ⟨rfl,b3⟩;have k3:=k2.below b3;have l3:=l2.trans (b3.mono l2.size);have e0:=k3.c0;have e1:=k3.c1;have f0:=k3.f0;have f1:=k3.f1))
 have q:=(k3.set 0 (.string x)).set 1 (.string y);simp only[List.set_cons_zero,List.set_cons_succ] at q;have r0:=q.c0;have r1:=q.c1;have bE:=(l3.setCell (p:=⟨w.heap.size+1,0,none⟩) (Nat.le_succ _) (.string x)).setCell (p:=⟨w.heap.size+1,1,none⟩) (Nat.le_succ _) (.string y);refine bodyPost_ret (v:=.agg #[.string x,.string y]) (by simp[results,results45,go_sem,r0,r1]) rfl ?_;exact ⟨rfl,bE⟩
theorem callT3 {P:Program} {md:Region.Mode} {ops:Array Oper} {Q:Exit->Act->World->Prop} {S:World->Prop} {n:Nat} {a:Act} {w:World} {i f:Nat} {o:Oper} {listed:Array Bool} {fuel:Nat} (hr:Region.ready md ops listed=[i]) (ho:ops[i]? = some o) (hw:Region.wanted o (yielded ops a.tmps)=true)
  (x y z:Operand) (ts:Array TypeId) (hop:o.op=.call { callee:=.value (.func f),args:=#[x,y,z],argTypes:=ts }) (v u1 u2:Value) (hx0:a.eval x=v) (hx1:a.eval y=u1) (hx2:a.eval z=u2) (eg:∀ args w,(callFunc f args).run P w=.ok (.enter f args) w)
  (hc:Calls P f #[v,u1,u2] w fun e w'=>∃ u,e=.returned u/\S w'/\AT.wpAnyT P md ops Q S n fuel (listed.setIfInBounds i true) (a.put o.dst u) w'):AT.wpAnyT P md ops Q S n (fuel+1) listed a w:=by
 refine AT.all hr (by simp) ?_;intro j hj
 obtain rfl:j=i:=by simpa using hj
 unfold wpOp;rw[ho];refine Y0.of_if hw (.inl ?_)
 have he:(execOp a.eval o).run P w=.ok (.enter f #[v,u1,u2]) w:=by
  subst hx0 hx1 hx2;simp[execOp,hop,resolve,go_sem,invoke,eg]
 unfold Oper.wp;rw[he];refine Calls.mono hc ?_;rintro e w' ⟨u,rfl,hS,h⟩;exact ⟨fun _=>hS,h⟩
theorem plainT {P:Program} {md:Region.Mode} {ops:Array Oper} {Q:Exit->Act->World->Prop} {S:World->Prop} {n:Nat} {a:Act} {w w':World} {u:Value} {i:Nat} {o:Oper} {listed:Array Bool} {fuel:Nat} (hr:Region.ready md ops listed=[i]) (ho:ops[i]? = some o) (hw:Region.wanted o (yielded ops a.tmps)=true)
  (he:(execOp a.eval o).run P w=.ok (.value u) w') (hS:S w') (h:AT.wpAnyT P md ops Q S n fuel (listed.setIfInBounds i true) (a.put o.dst u) w'):AT.wpAnyT P md ops Q S n (fuel+1) listed a w:=by
 refine AT.all hr (by simp) ?_;intro j hj
 obtain rfl:j=i:=by simpa using hj
 unfold wpOp;rw[ho];refine Y0.of_if hw (.inl ?_);unfold Oper.wp;rw[he];exact ⟨fun _=>hS,h⟩
theorem wipe (P:Nat) (x0 x1 x4 x5:Value) (a b:ByteArray) (i n:Int) (w:World) (hk:K0.Blk P [x0,x1,.string a,.string b,x4,x5] w) (ha:a.size<=281474976710656) (hb:b.size<=281474976710656) (hz:(B4.zeros n).size<=281474976710656) (hs:(D2.stored a b i (B4.zeros n)).size<=281474976710656) :
  Calls prog 129 #[Pv P 0,Iv i,Iv n] w fun e w'=>e=.returned (.tuple #[])/\K0.Blk P [x0,x1,.string (D2.stored a b i (B4.zeros n)),.string (F3.flushed (D2.stored a b i (B4.zeros n)) b i n),x4,x5] w'/\∃ V,Bq w V/\w'=(V.setCell ⟨P,2,none⟩ (.string (D2.stored a b i (B4.zeros n)))).setCell ⟨P,3,none⟩ (.string (F3.flushed (D2.stored a b i (B4.zeros n)) b i n)):=by
 have HZ:Hid (∀ W,_):=fun W=>B4.impl_Zeros n W
 have HS:Hid (∀ W,_):=fun W=>D2.impl_Store a b i (B4.zeros n) W ha hb hz
 have HF:Hid (∀ W,_):=fun W=>F4.impl_Flush (D2.stored a b i (B4.zeros n)) b i n W hs hb
 generalize F3.flushed (D2.stored a b i (B4.zeros n)) b i n=y at HF ⊢
 generalize D2.stored a b i (B4.zeros n)=x at HS HF hs ⊢
 generalize B4.zeros n=z at HZ HS hz
 have kd:=hk.drew;have s0:w.drew.cell? ⟨P,2,none⟩=some (.string a)/\w.drew.cell? ⟨P,3,none⟩=some (.string b):=⟨kd.c2,kd.c3⟩;go_enter func129,ntmps129;go_wp2;refine AT.region (n:=16) (S:=fun W=>Ce W P 2 (.string a)/\Ce W P 3 (.string b)) (by kernel_rfl) ?_;refine BU.r 0 (Pv P 0) s0 ?_;refine BU.r 1 (Pv P 0) s0 ?_;refine BU.s 2 (Pv P 0) s0 ?_;refine BU.s 3 (Pv P 2) s0 ?_;refine BU.s 4 (Pv P 2) s0 ?_;refine BU.s 5 (.agg #[.string a,.string b]) s0 ?_;refine BU.r 6 (Iv i) s0 ?_;refine BU.r 7 (Iv n) s0 ?_;refine BU.r 10 (Iv i) s0 ?_;refine BU.r 11 (Iv n) s0 ?_;refine AT.call1 (i:=8) (by kernel_rfl) rfl (by rfl) (.tmp 13) _ rfl (Iv n) (by rfl) (enters_of func125 (by kernel_rfl) rfl) ((HZ.out _).mono ?_);rintro e w1 ⟨rfl,b1⟩;have k1:=kd.below b1;refine ⟨_,rfl,⟨k1.c2,k1.c3⟩,?_⟩;simp only[BZ.z,Act.put,Nat.reduceAdd];refine callT3 (i:=9) (by kernel_rfl) rfl (by rfl) (.tmp 11) (.tmp 12) (.tmp 14) _ rfl (.agg #[.string a,.string b]) (Iv i) (.string z) (by rfl) (by rfl) (by rfl) (enters_of func164 (by kernel_rfl) rfl) ((HS.out _).mono ?_);rintro e w2 ⟨rfl,b2⟩;have k2:=k1.below b2;refine ⟨_,rfl,⟨k2.c2,k2.c3⟩,?_⟩;simp only[BZ.z,Act.put,Nat.reduceAdd];refine callT3 (i:=12) (by kernel_rfl) rfl (by rfl) (.tmp 15) (.tmp 16) (.tmp 17) _ rfl (.agg #[.string x,.string b]) (Iv i) (Iv n) (by rfl) (by rfl) (by rfl) (enters_of func127 (by kernel_rfl) rfl) ((HF.out _).mono ?_);rintro e w3 ⟨rfl,b3⟩;have k3:=k2.below b3
 refine ⟨_,rfl,⟨k3.c2,k3.c3⟩,?_⟩;simp only[BZ.z,Act.put,Nat.reduceAdd];refine plainT (i:=13) (u:=Pv P 0) (w':=w3) (by kernel_rfl) rfl (by rfl) ?_ ⟨k3.c2,k3.c3⟩ ?_
 ·go_simp
 simp only[BZ.z,Act.put,Nat.reduceAdd];refine plainT (i:=14) (u:=Pv P 2) (w':=w3) (by kernel_rfl) rfl (by rfl) ?_ ⟨k3.c2,k3.c3⟩ ?_
 ·go_simp
 simp only[BZ.z,Act.put,Nat.reduceAdd];refine plainT (i:=15) (u:=Pv P 2) (w':=w3) (by kernel_rfl) rfl (by rfl) ?_ ⟨k3.c2,k3.c3⟩ ?_
 ·go_simp
 simp only[BZ.z,Act.put,Nat.reduceAdd];have e2:=k3.c2;have e3:=k3.c3;have f2:=k3.f2;have f3:=k3.f3;have q:=(k3.set 2 (.string x)).set 3 (.string y);simp only[List.set_cons_zero,List.set_cons_succ] at q;refine AT.store (i:=16) (w':=(w3.setCell ⟨P,2,none⟩ (.string x)).setCell ⟨P,3,none⟩ (.string y)) (by kernel_rfl) rfl (by decide) (by rfl) ?_ ?_
 ·go_simp
 simp only[BZ.z,Act.put,Nat.reduceAdd];refine AT.done (by kernel_rfl) ?_ _;have d0:Bq w w.drew:=(Below.refl _ _).drew;have l1:=d0.trans (b1.mono d0.size);have l2:=l1.trans (b2.mono l1.size);have l3:=l2.trans (b3.mono l2.size)
 try go_wp2
 refine bodyPost_end (v:=.tuple #[]) (by simp[results,results129,go_sem]) rfl ?_;exact ⟨rfl,q,w3,l3,rfl⟩
end TK
namespace TE
open Go.Extern.Stop Go.Stop Go.Extern
open LF (Btw)
abbrev er (p:Addr):Value:=.iface 273 (.pointer (some p))
theorem check_yes (p:Addr) (w:World):Calls prog 86 #[.bool true,er p] w (Rw (.tuple #[]) w):=by
 go_enter func86,ntmps86;go_wp2;refine bodyPost_end (v:=.tuple #[]) (by simp[results,results86,go_sem]) rfl ?_;exact ⟨rfl,rfl⟩
theorem tOf (v:Value) (w:World):(callFunc 112 #[.iface 273 v]).run prog w=.ok (.value (.iface 176 (.agg #[Pv (5) (273)]))) w:=by kernel_rfl
theorem tCmp (w:World):(callFunc 252 #[.agg #[Pv (5) (273)]]).run prog w=.ok (.value (.bool true)) w:=by kernel_rfl
theorem mCmp (v:Value) (w:World):(Go.method 407 176 v "Comparable").run prog w=.ok (252,v) w:=by kernel_rfl
theorem cmpE:(prog.info? 273).map (·.comparable)=some true:=by kernel_rfl
theorem szE:(prog.info? 296).map (·.size)=some 1:=by kernel_rfl
theorem noIs (v:Value) (xT:TypeId) (w:World):(Instr.typeAssert (.iface 273 v) xT 178 true).run prog w=.ok (.tuple #[.nilIface,.bool false]) w:=run_typeAssert_lacksB underlying178 (by kernel_rfl) (by kernel_rfl) v xT w
theorem noUn (v:Value) (xT:TypeId) (w:World):(Instr.typeAssert (.iface 273 v) xT 181 true).run prog w=.ok (.tuple #[.nilIface,.bool false]) w:=run_typeAssert_lacksB underlying181 (by kernel_rfl) (by kernel_rfl) v xT w
theorem noUns (v:Value) (xT:TypeId) (w:World):(Instr.typeAssert (.iface 273 v) xT 183 true).run prog w=.ok (.tuple #[.nilIface,.bool false]) w:=run_typeAssert_lacksB underlying183 (by kernel_rfl) (by kernel_rfl) v xT w
def Lies (p:Addr) (w:World):Prop:=∃ cs t,w.heap[p.block]? = some (.cells cs t (0,0))
theorem Lies.lt {p:Addr} {w:World} (h:Lies p w):p.block<w.heap.size:=by
 obtain ⟨cs,t,h⟩:=h;exact (Array.getElem?_eq_some_iff.1 h).1
theorem Lies.below {p:Addr} {w W:World} (h:Lies p w) (hb:Bq w W):Lies p W:=by
 have hl:=h.lt;obtain ⟨cs,t,h⟩:=h;exact ⟨cs,t,by rw[hb.block _ hl];exact h⟩
theorem Lies.btw {p:Addr} {lo hi:Nat} {w W:World} (h:Lies p w) (hb:Btw lo hi w W) (hp:p.block<lo):Lies p W:=by
 have hl:=h.lt;obtain ⟨cs,t,h⟩:=h;exact ⟨cs,t,by rw[hb.block _ hl (Or.inl hp)];exact h⟩
theorem is_not (a b:Addr) (w:World) (hne:a≠b) (ha:Lies a w) (hb:Lies b w) :
  Calls prog 84 #[er a,er b] w (Rw (.bool false) w):=by
 obtain ⟨i,hi,hcmp⟩:=Option.map_eq_some_iff.1 cmpE;obtain ⟨j,hj,hjs⟩:=Option.map_eq_some_iff.1 szE;have tT:=tOf;have cT:=tCmp;have mR:=mCmp;have nE:=noIs;have uE:=noUn;have vE:=noUns;obtain ⟨ca,ta,ha1⟩:=ha;obtain ⟨cb,tb,hb1⟩:=hb;have heq:=run_eql_iface_ptr_other (P:=prog) w underlying54 underlying273 hi hcmp hj (by rw[hjs];decide) hne ha1 hb1;go_enter func84,ntmps84;go_wp2;refine wp_loop_rounds 1 ?_;rw[rounds_succ];go_wp2;go_ret;exact ⟨rfl,rfl⟩
theorem is_yes (b:Addr) (w:World) :
  Calls prog 84 #[er b,er b] w (Rw (.bool true) w):=by
 obtain ⟨i,hi,hcmp⟩:=Option.map_eq_some_iff.1 cmpE;obtain ⟨j,hj,hjs⟩:=Option.map_eq_some_iff.1 szE;have tT:=tOf;have cT:=tCmp;have mR:=mCmp;have heq:=run_eql_iface_ptr_same (P:=prog) w b underlying54 underlying273 hi hcmp hj;go_enter func84,ntmps84;go_wp2;refine wp_loop_rounds 1 ?_;rw[rounds_succ];go_wp2;go_ret;exact ⟨rfl,rfl⟩
structure Errs (pN pD pB pF pR:Addr) (lo:Nat) (w:World):Prop where
 gN:w.cell? ⟨0,0,none⟩=some (er pN)
 gD:w.cell? ⟨1,0,none⟩=some (er pD)
 gB:w.cell? ⟨2,0,none⟩=some (er pB)
 gF:w.cell? ⟨3,0,none⟩=some (er pF)
 gR:w.cell? ⟨4,0,none⟩=some (er pR)
 lN:Lies pN w
 lD:Lies pD w
 lB:Lies pB w
 lF:Lies pF w
 lR:Lies pR w
 sN:pN.block<lo
 sD:pD.block<lo
 sB:pB.block<lo
 sF:pF.block<lo
 sR:pR.block<lo
 s0:0<lo/\1<lo/\2<lo/\3<lo/\4<lo
 nN:pR≠pN
 nD:pR≠pD
 nB:pR≠pB
 nF:pR≠pF
variable {pN pD pB pF pR : Addr} {lo hi : Nat} {w W : World}
theorem Errs.keep {n:Nat} (h:Errs pN pD pB pF pR lo w) (hb:Below n w W) (hn:lo<=n) (hs:lo<=w.heap.size):Errs pN pD pB pF pR lo W:=by
 obtain ⟨s1,s2,s3,s4,s5⟩:=h.s0
 have cell:∀ (x:Nat) (v:Value),x<lo->w.cell? ⟨x,0,none⟩=some v->W.cell? ⟨x,0,none⟩=some v:=fun x v hx hc=>by
  rw[World.cell?_of_block (a:=⟨x,0,none⟩) (hb.block x (by omega))];exact hc
 have lies:∀ p:Addr,p.block<lo->Lies p w->Lies p W:=fun p hp ⟨cs,t,h⟩=>⟨cs,t,by rw[hb.block _ (by omega)];exact h⟩
 exact ⟨cell _ _ s1 h.gN,cell _ _ s2 h.gD,cell _ _ s3 h.gB,cell _ _ s4 h.gF,cell _ _ s5 h.gR,lies _ h.sN h.lN,lies _ h.sD h.lD,lies _ h.sB h.lB,lies _ h.sF h.lF,lies _ h.sR h.lR,h.sN,h.sD,h.sB,h.sF,h.sR,h.s0,h.nN,h.nD,h.nB,h.nF⟩
theorem codeOf_rej (w:World) (h:Errs pN pD pB pF pR lo w) :
  Calls prog 53 #[er pR] w (Rw (Iv 5) w):=by
 have c1:=h.gN;have c2:=h.gD;have c3:=h.gB;have c4:=h.gF;have c5:=h.gR;have H1:=is_not pR pN w h.nN h.lR h.lN;have H2:=is_not pR pD w h.nD h.lR h.lD;have H3:=is_not pR pB w h.nB h.lR h.lB;have H4:=is_not pR pF w h.nF h.lR h.lF;have H5:=is_yes pR w;go_enter func53,ntmps53
 go_wp2_with (first
  | (go_at_call 84;have q4':=q4;refine H5.mono ?_;rintro e v5 ⟨rfl,hv5⟩;subst v5)
  | (go_at_call 84;have q3':=q3;refine H4.mono ?_;rintro e v4 ⟨rfl,hv4⟩;subst v4;have q4:=trivial;clear H4)
  | (go_at_call 84;have q2':=q2;refine H3.mono ?_;rintro e v3 ⟨rfl,hv3⟩;subst v3;have q3:=trivial;clear H3)
  | (go_at_call 84;have q1':=q1;refine H2.mono ?_;rintro e v2 ⟨rfl,hv2⟩;subst v2;have q2:=trivial;clear H2)
  | (go_at_call 84;refine H1.mono ?_;rintro e v1 ⟨rfl,hv1⟩;subst v1;have q1:=trivial;clear H1))
 go_ret;exact ⟨rfl,rfl⟩
end TE
end Go.Proofs.YtlejhfnjmkdobaaGreatDoor
