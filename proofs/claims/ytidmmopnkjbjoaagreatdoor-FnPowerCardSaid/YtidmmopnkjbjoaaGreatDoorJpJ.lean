/- Joined texts. -/
import Derived.Test.YtidmmopnkjbjoaaGreatDoorJpE
import Derived.Test.YtidmmopnkjbjoaaGreatDoorJpG
set_option linter.unusedVariables false
set_option linter.unusedSimpArgs false
set_option maxRecDepth 10000
set_option maxHeartbeats 16000000
namespace Go.Proofs.YtidmmopnkjbjoaaGreatDoor
open ChangeShapes WideShapes ChangeAt RowKit
open Go.Proofs.Tryz
def fD (d:ak):Nat:=d.rc.size+d.pg.length+d.aH.size+d.po.length+d.fr.length
section
abbrev Pj:List Value:=[.int .i64 0,.int .i64 0,.int .i64 0,.string ⟨#[]⟩,.slice none 0 0,.string ⟨#[]⟩,.slice none 0 0,.slice none 0 0]
variable {w W W' : World} {d : ak} {s : aA} {vs : List Value}
variable {B g1 g2 g3 : Nat}
theorem me {B:Nat} {x0 x1 x2 x3 x4 x5 x6 x7 y0 y1 y2 y3 y4 y5 y6 y7:Value} (h:av B [x0,x1,x2,x3,x4,x5,x6,x7] W):av B [y0,y1,y2,y3,y4,y5,y6,y7] ((((((((W.setCell ⟨B,0,none⟩ y0).setCell ⟨B,1,none⟩ y1).setCell ⟨B,2,none⟩ y2).setCell ⟨B,3,none⟩ y3).setCell ⟨B,4,none⟩ y4).setCell ⟨B,5,none⟩ y5).setCell ⟨B,6,none⟩ y6).setCell ⟨B,7,none⟩ y7):=(((((((h.set 0 y0).set 1 y1).set 2 y2).set 3 y3).set 4 y4).set 5 y5).set 6 y6).set 7 y7
theorem pQ {B B':Nat} {vs:List Value} (h:av B' vs W) (hne:B≠B') (y0 y1 y2 y3 y4 y5 y6 y7:Value):av B' vs ((((((((W.setCell ⟨B,0,none⟩ y0).setCell ⟨B,1,none⟩ y1).setCell ⟨B,2,none⟩ y2).setCell ⟨B,3,none⟩ y3).setCell ⟨B,4,none⟩ y4).setCell ⟨B,5,none⟩ y5).setCell ⟨B,6,none⟩ y6).setCell ⟨B,7,none⟩ y7):=(((((((h.aR hne 0 y0).aR hne 1 y1).aR hne 2 y2).aR hne 3 y3).aR hne 4 y4).aR hne 5 y5).aR hne 6 y6).aR hne 7 y7
theorem zi {B b:Nat} (h:Below b w W) (hb:b<=B) (y0 y1 y2 y3 y4 y5 y6 y7:Value):Below b w ((((((((W.setCell ⟨B,0,none⟩ y0).setCell ⟨B,1,none⟩ y1).setCell ⟨B,2,none⟩ y2).setCell ⟨B,3,none⟩ y3).setCell ⟨B,4,none⟩ y4).setCell ⟨B,5,none⟩ y5).setCell ⟨B,6,none⟩ y6).setCell ⟨B,7,none⟩ y7):=(((((((h.setCell (p:=⟨B,0,none⟩) hb y0).setCell (p:=⟨B,1,none⟩) hb y1).setCell (p:=⟨B,2,none⟩) hb y2).setCell (p:=⟨B,3,none⟩) hb y3).setCell (p:=⟨B,4,none⟩) hb y4).setCell (p:=⟨B,5,none⟩) hb y5).setCell (p:=⟨B,6,none⟩) hb y6).setCell (p:=⟨B,7,none⟩) hb y7
end
section
theorem Zr:(prog.info? 147).map (fun i=>(i.zero,i.size,i.bytes))=some (some (.agg #[ad 0,.string ⟨#[]⟩]),2,24):=by kernel_rfl
structure EG (g n:Nat) (es:List aV) (k:Nat) (W:World):Prop where
 done:∀ j,j<k->W.cell? ⟨g,j*2,none⟩=some (.int .i64 (bS es j).1)/\W.cell? ⟨g,j*2+1,none⟩=some (.string (bS es j).2)
 there:∀ j,j<n*2->(W.cell? ⟨g,j,none⟩).isSome=true
 free:∀ j,j<n*2->W.frozen? ⟨g,j,none⟩=false
 lt:g<W.heap.size
variable {g n k : Nat} {es : List aV} {w W W' : World}
theorem EG.below (h:EG g n es k W) (hb:aj W W'):EG g n es k W':=
  ⟨fun j hj=>⟨(hb.cell (p:=⟨g,j*2,none⟩) h.lt).trans (h.done j hj).1,(hb.cell (p:=⟨g,j*2+1,none⟩) h.lt).trans (h.done j hj).2⟩,
   fun j hj=>by rw[hb.cell (p:=⟨g,j,none⟩) h.lt];exact h.there j hj,fun j hj=>(hb.frozen (p:=⟨g,j,none⟩) h.lt).trans (h.free j hj),cS h.lt hb.size⟩
end
section
def tN:List aV->List Value
 | []=>[]
 | e :: r=>.int .i64 e.1 :: .string e.2 :: tN r
theorem Pk:∀ (es:List aV) (e:aV),tN es ++ [ad e.1,.string e.2]=tN (es ++ [e])
 | [],e=>rfl
 | x :: r,e=>by simp[tN,<- Pk r e]
theorem Pm:∀ (es:List aV) (j:Nat),j<es.length->(tN es)[j*2]? = some (ad (bS es j).1)/\(tN es)[j*2+1]? = some (.string (bS es j).2)
 | [],j,h=>by simp at h
 | e :: r,0,_=>⟨rfl,rfl⟩
 | e :: r,j+1,h=>by
  have:=Pm r j (by simpa using h);have e1:(j+1)*2=j*2+1+1:=by omega
  have e2:bS (e :: r) (j+1)=bS r j:=rfl;rw[e1,e2];exact this
def lj (base:Nat) (w:World) (a:Option Addr) (n cap:Nat) (es:List aV):Prop:=n=es.length/\w.ownsRow base 147 2 (.slice a n cap) n (tN es)
variable {base n cap : Nat} {a : Option Addr} {w W : World} {es : List aV}
theorem lj.below (h:lj base w a n cap es) (hb:aj w W):lj base W a n cap es:=⟨h.1,uO h.2 hb⟩
theorem lj.alloc (h:lj base w a n cap es) (o:Obj):lj base (w.alloc o) a n cap es:=h.below ((aK _ _).alloc (aq _) o)
theorem Pn (w:World) (hb:base<=w.heap.size):lj base (w.alloc (.cells #[] 147)) (some ⟨w.heap.size,0,none⟩) 0 0 []:=⟨rfl,tu w #[] 0 hb (aS _) rfl⟩
theorem lj.fits (h:lj base w a n cap es):n<=cap:=by
 rcases h.2.2 with ⟨h0,h1⟩ | ⟨g,c,cur,hv,_,_,hle,_⟩;·omega
 simp at hv;omega
def dK (base:Nat) (W:World) (a:Option Addr) (es:List aV):Prop:=es=[]\/∃ g,a=some ⟨g,0,none⟩/\base<=g/\EG g es.length es es.length W
theorem lj.own (h:lj base w a n cap es):dK base w a es:=by
 rcases h.2.2 with ⟨h0,h1⟩ | ⟨g,c,cur,hv,hg,hc,hle,_,hs,ht⟩
 ·left;exact mW (by rw[<- h.1];exact h1)
 right;simp at hv;have hcell:∀ j,w.cell? ⟨g,j,none⟩=cur[j]?:=fun j=>by unfold World.cell?;rw[hc];simp
 have hn:=h.1;have hget:∀ j,j<n*2->cur[j]? = (tN es)[j]?:=fun j hj=>by
  have e1:(cur.toList.take (n*2))[j]? = (tN es)[j]?:=by rw[ht]
  rw[AW hj] at e1;rw[<- Hq,e1]
 refine ⟨g,hv.1,hg,⟨fun j hj=>?_,fun j hj=>?_,fun j hj=>?_,(mY.1 hc).1⟩⟩
 ·have:=Pm es j hj;rw[hcell,hcell,hget _ (by omega),hget _ (by omega)];exact this
 ·rw[hcell];have:j<cur.size:=by omega
  simp[this]
 unfold World.frozen?;rw[hc];simp
theorem dK.row (h:dK base W a es):mE W a es:=by
 rcases h with h | ⟨g,rfl,_,hm⟩;·exact Or.inl h
 exact Or.inr ⟨g,0,rfl,hm.lt,fun j hj=>by rw[cR];exact hm.done j hj⟩
theorem dK.below {W':World} (h:dK base W a es) (hb:aj W W'):dK base W' a es:=h.imp id fun ⟨g,e,hg,hk⟩=>⟨g,e,hg,hk.below hb⟩
theorem dK.mono {base':Nat} (h:dK base W a es) (hb:base'<=base):dK base' W a es:=h.imp id fun ⟨g,e,hg,hk⟩=>⟨g,e,bt hb hg,hk⟩
theorem Zs (u:Int) (v:ByteArray):∀ x ∈ [Value.int .i64 u,.string v],x.oneCell'=true:=by intro x h;simp at h;rcases h with rfl | rfl <;> rfl
theorem Po {ops:Array Oper} {rest:List Oper} {o:Oper} {A:Act} {Q:Exit->Act->World->Prop} (hgd:o.guard=none) (sl x:Operand) (ho:o.op=.call { callee:=.builtin .append,args:=#[sl,x],argTypes:=#[129,129] }) (hbuf:lj base w a n cap es) (u:Int) (v:ByteArray) (hs:A.eval sl=.slice a n cap) {H:Nat} (hH:w.heap.size=H) (hx:A.eval x=bg H 1 1) (hlen:n+1<=1048576) (hb:base<=w.heap.size) (h:∀ g' cap' w',lj base w' (some ⟨g',0,none⟩) (n+1) cap' (es ++ [(u,v)])->Below base w w'->wpList prog ops Q rest (A.put o.dst (bg g' (n+1) cap')) w'):wpList prog ops Q (o :: rest) A (w.alloc (.cells #[ad u,.string v] 147)):=by
 subst hH;obtain ⟨i0,hi,hz0,hz1,hz2⟩:=iW Zr;have hb2:=hbuf.alloc (.cells #[ad u,.string v] 147);refine rY _ hgd sl x 129 ho base 147 i0 (.agg #[ad 0,.string ⟨#[]⟩]) 2 24 underlying129 hi hz0 hz1 hz2 rfl (by omega) _ n _ hs hb2.2 ⟨w.heap.size,0,none⟩ 1 1 [ad u,.string v] hx rfl (rZ (pF w _)) (Zs u v) (by omega) (by unfold maxLen;omega) (by omega) (by simp;omega) _ rfl ?_;intro g' cap' w' ho' hg' _ _;refine h g' cap' w' ⟨by rw[hbuf.1];simp,?_⟩ ?_
 ·rw[<- Pk];exact ho'
 exact lY ((aK _ _).alloc hb _) hg' (fun g hg=>(hbuf.2.lt g hg).1) (by simp;omega)
def nZ (s:ByteArray) (w:World) (e:Ending) (w':World):Prop:=∃ a c,e=.returned (.tuple #[.slice a (dI s).length c,.bool (cO s)])/\dK w.heap.size w' a (dI s)/\(dI s).length<=c/\aj w w'
theorem Pp {s:ByteArray} {w w':World} {a:Option Addr} {c:Nat} (h:cO s=false) (hb:aj w w'):nZ s w (.returned (.tuple #[.slice a 0 c,.bool false])) w':=by
 have hd:dI s=[]:=by rw[dI,h];rfl
 exact ⟨a,c,by rw[hd,h];rfl,by rw[hd];exact Or.inl rfl,by rw[hd];exact aS _,hb⟩
theorem Zt {s:ByteArray} {w w':World} {a:Option Addr} {c:Nat} (h:cO s=true) (ho:dK w.heap.size w' a (dX s (dQ s))) (hc:dQ s<=c) (hb:aj w w'):nZ s w (.returned (.tuple #[.slice a (dQ s) c,.bool true])) w':=by
 have hd:dI s=dX s (dQ s):=by rw[dI,h];rfl
 exact ⟨a,c,by rw[hd,h,kZ],by rw[hd];exact ho,by rw[hd,kZ];exact hc,hb⟩
theorem Zu (x:ByteArray):(jl x).size<=x.size:=by
 unfold jl;split;·exact nn _ _ _
 exact aS _
theorem Pq (s:ByteArray) (k:Nat) (hs:s.size<=281474976710656):El (dX s k):=fun j hj=>by rw[kZ] at hj;rw[Iy s k j hj];have h1:=Zu (dP s j);have h2:=nn s ((j:Int)*16) 16;have h3:(dP s j).size<=s.size:=h2;simp only;omega
end
theorem Pt {s:ByteArray} {W:World} {r:Bool} (hs:s.size<=281474976710656) (hr:gJ s=r):Calls prog 194 #[.string s] W (aT (.tuple #[.agg #[ad (jU s),.string (jl s)],.bool r]) W):=(XH s W hs).mono fun _ _ ⟨he,hb⟩=>⟨by rw[he,nU,hr],hb⟩
def EH (s:ByteArray) (w:World) (e:Ending) (w':World):Prop:=∃ a c,e=.returned (.tuple #[.slice a (dI s).length c,.bool (cO s)])/\dK w.heap.size w' a (dI s)/\(dI s).length<=c/\aj w w'/\(cO s=true->lj w.heap.size w' a (dI s).length c (dI s))
theorem Zv (s:ByteArray) (w:World) (hs:s.size<=281474976710656):Calls prog 143 #[.string s] w (EH s w):=by
 have HN:Hid (∀ a c w',cO s=false->aj w w'->EH s w (.returned (.tuple #[.slice a 0 c,.bool false])) w'):=fun a c w' h hb=>by obtain ⟨a',c',h1,h2,h3,h4⟩:=Pp (a:=a) (c:=c) h hb;exact ⟨a',c',h1,h2,h3,h4,fun x=>absurd x (by rw[h];simp)⟩
 have HF:Hid (∀ k,cO s=true->k<s.size / 16->gJ (dP s k)=true):=fun k h hk=>(uQ h).2.2.2.1 k hk;have HD:Hid (cO s=true->gL (dX s (s.size / 16))=true):=fun h=>(uQ h).2.2.2.2;have HY:Hid (∀ a c w',s.size<=192->s.size % 16=0->(∀ j,j<s.size / 16->gJ (dP s j)=true)->gL (dX s (s.size / 16))=true->lj w.heap.size w' a (s.size / 16) c (dX s (s.size / 16))->aj w w'->EH s w (.returned (.tuple #[.slice a (s.size / 16) c,.bool true])) w'):=fun a c w' h1 h2 h3 h4 ho hb=>by
  obtain ⟨hi,hk⟩:=X5 h1 h2 h3 h4;have hd:dI s=dX s (dQ s):=by rw[dI,hi];rfl
  have hl:=kZ s (dQ s);rw[<- hk] at ho ⊢;refine ⟨a,c,by rw[hd,hi,hl],by rw[hd];exact ho.own,by rw[hd,hl];exact ho.fits,hb,fun _=>?_⟩;rw[hd,hl];exact ho
 obtain ⟨R,hR⟩:∃ R,EH s w=R:=⟨_,rfl⟩;by_cases h1:192<(s.size:Int)
 ·have hi:cO s=false:=by
   cases h:cO s with
   | false=>rfl
   | true=>have:=(uQ h).1;omega
  rw[hR] at HN ⊢;go_enter func143,ntmps143;go_wp2;exact HN.out _ _ _ hi (aB _ _)
 by_cases h2:s.size % 16=0
 ·have h2':((s.size:Int) % 16 != 0)=false:=by simp;omega
  have b0:=Pn w (aq _);have l0:=aB w (.cells #[] 147);rw[hR] at HN HY ⊢;clear hR;go_enter func143,ntmps143;go_wp2;go_loopw [4,5] (fun v i w'=>∃ (k c:Nat) (a:Option Addr),k<=s.size / 16/\(∀ j,j<k->gJ (dP s j)=true)/\i=ad ((k:Int)*16)/\v=.slice a k c/\lj w.heap.size w' a k c (dX s k)/\aj w w') (fun _ i _=>s.size-(intOf i).toNat);case atStart=>exact ⟨0,0,_,aS _,fun j hj=>absurd hj (tF _),rfl,rfl,b0,l0⟩
  case round=>
  obtain ⟨k,c,a,hk,hE,rfl,rfl,hbuf,hbel⟩:=hrel;clear b0 l0;by_cases hlt:k<s.size / 16
  ·have e1:(k:Int)*16<(s.size:Int):=by omega
   have hcs:(dP s k).size<=281474976710656:=by have:=nn s ((k:Int)*16) 16;unfold dP;omega
   have hpt:Hid (∀ W,Calls prog 90 #[.string s,ad ((k:Int)*16),ad 16] W (aT (.string (dP s k)) W)):=fun W=>sn _ _ _ _ hs;have HS:Hid (dX s k ++ [(jU (dP s k),jl (dP s k))]=dX s (k+1)):=Oo s k;by_cases hi:gJ (dP s k)=true
   ·have HE:Hid (∀ j,j<k+1->gJ (dP s j)=true):=fun j hj=>by
     by_cases e:j=k;·rw[e];exact hi
     exact hE j (by omega)
    clear hE;go_wp2_with (first
     | (go_at_call 90;refine (hpt.out _).mono ?_;rintro e w1 ⟨rfl,b1⟩;have f1:=hbel.trans (b1.mono hbel.size))
     | (go_at_call 194;refine (Pt hcs hi).mono ?_;rintro e w2 ⟨rfl,b2⟩;have f2:=f1.trans (b2.mono f1.size);have u2:=((hbuf.below b1).below b2).alloc (.cells #[ad (jU (dP s k)),.string (jl (dP s k))] 147);have f3:=f2.alloc f2.size (.cells #[ad (jU (dP s k)),.string (jl (dP s k))] 147))
     | (at_builtin;refine Po rfl (.tmp 35) (.tmp 37) rfl u2 _ _ (by rfl) (H:=w2.heap.size+1) (by simp) (by rfl) (by omega) f3.size ?_;intro g1 ij w4 C9 tf))
    go_roundw;case rel=>exact ⟨k+1,ij,_,by omega,HE.out,by go_num,rfl,by rw[<- HS.out];exact C9,f3.trans tf⟩
    case measure=>simp[intOf];omega
   have hi':gJ (dP s k)=false:=by simpa using hi
   have hn:cO s=false:=by
    cases h:cO s with
    | false=>rfl
    | true=>exact absurd (HF.out k h hlt) hi
   clear hE;go_wp2_with (first
    | (go_at_call 90;refine (hpt.out _).mono ?_;rintro e w1 ⟨rfl,b1⟩;have f1:=hbel.trans (b1.mono hbel.size))
    | (go_at_call 194;refine (Pt hcs hi').mono ?_;rintro e w2 ⟨rfl,b2⟩;have f2:=f1.trans (b2.mono f1.size);have f3:=f2.alloc f2.size (.cells #[ad (jU (dP s k)),.string (jl (dP s k))] 147);have f4:=f3.alloc f3.size (.cells #[] 147)))
   exact HN.out _ _ _ hn f4
  obtain rfl:k=s.size / 16:=by omega
  have e1:¬ ((s.size / 16:Nat):Int)*16<(s.size:Int):=by omega
  have hfit:=hbuf.fits;have hdl:Hid (∀ r,gL (dX s (s.size / 16))=r->Calls prog 195 #[.slice a (s.size / 16) c] wr (aT (.bool r) wr)):=fun r hr=>by have:=Yj (a:=a) (c:=c) (W:=wr) (es:=dX s (s.size / 16)) (by rw[kZ];omega) (by rw[kZ];exact hfit) (Pq s _ hs) hbuf.own.row hr;rw[kZ] at this;exact this
  by_cases hd:gL (dX s (s.size / 16))=true
  ·go_wp2_with (go_at_call 195;refine (hdl.out true hd).mono ?_;rintro e w1 ⟨rfl,b1⟩);exact HY.out _ _ _ (by omega) h2 hE hd (hbuf.below b1) (hbel.trans (b1.mono hbel.size))
  have hd':gL (dX s (s.size / 16))=false:=by simpa using hd
  have hn:cO s=false:=by
   cases h:cO s with
   | false=>rfl
   | true=>exact absurd (HD.out h) hd
  go_wp2_with (go_at_call 195;refine (hdl.out false hd').mono ?_;rintro e w1 ⟨rfl,b1⟩;have f1:=hbel.trans (b1.mono hbel.size);have f2:=f1.alloc f1.size (.cells #[] 147));exact HN.out _ _ _ hn f2
 have h2':((s.size:Int) % 16 != 0)=true:=by simp;omega
 have hi:cO s=false:=by
  cases h:cO s with
  | false=>rfl
  | true=>exact absurd (uQ h).2.1 h2
 rw[hR] at HN ⊢;go_enter func143,ntmps143;go_wp2;exact HN.out _ _ _ hi (aB _ _)
theorem Pu (s:ByteArray) (w:World) (hs:s.size<=281474976710656):Calls prog 143 #[.string s] w (nZ s w):=(Zv s w hs).mono fun _ _ ⟨a,c,h1,h2,h3,h4,_⟩=>⟨a,c,h1,h2,h3,h4⟩
theorem Zw (n:Int) (h0 : -9223372036854775808<=n) (h1:n<=9223372036854775807):(Lit.int .i64 n).wf=true:=by simp[Lit.wf,IntKind.min,IntKind.max,IntKind.signed,IntKind.bits];omega
theorem Zx {s:ByteArray} {W:World} (hs:s.size<=281474976710656):Calls prog 178 #[.string s] W (aT (.tuple #[.agg #[ad (jU s),.string (jl s)],.bool (gJ s)]) W):=XG s W hs
theorem Zy (s:ByteArray) (k:Nat):k<dQ s ↔ k*16<s.size/\k<13:=by unfold dQ;omega
theorem EI (s:ByteArray) (w:World) (hs:s.size<=281474976710656):Calls prog 136 #[.string s] w (nZ s w):=by
 have hm:s.size<=maxLen:=by unfold maxLen;omega
 have HN:Hid (∀ a c w',cO s=false->aj w w'->nZ s w (.returned (.tuple #[.slice a 0 c,.bool false])) w'):=fun a c w' h hb=>Pp h hb;have HY:Hid (∀ a c w',cO s=true->dK w.heap.size w' a (dX s (dQ s))->dQ s<=c->aj w w'->nZ s w (.returned (.tuple #[.slice a (dQ s) c,.bool true])) w'):=fun a c w' h1 ho hc hb=>Zt h1 ho hc hb;obtain ⟨R,hR⟩:∃ R,nZ s w=R:=⟨_,rfl⟩;rw[hR] at HN HY ⊢;clear hR;have hct:=Zy s;have b0:=Pn w (aq _);have l0:=aB w (.cells #[] 147);go_enter func136,ntmps136;go_wp2;go_loopw [4,5] (fun v i w'=>∃ (k c:Nat) (a:Option Addr),k<=dQ s/\i=ad ((k:Int)*16)/\v=.slice a k c/\lj w.heap.size w' a k c (dX s k)/\aj w w') (fun _ i _=>208-(intOf i).toNat);case atStart=>exact ⟨0,0,_,aS _,rfl,rfl,b0,l0⟩
 case round=>
 obtain ⟨k,c,a,hk,rfl,rfl,hbuf,hbel⟩:=hrel;clear b0 l0;by_cases hlt:k<dQ s
 ·obtain ⟨h1,h2⟩:=(hct k).1 hlt;have e1:(k:Int)*16<(s.size:Int):=by omega
  have e2:(k:Int)*16<208:=by omega
  have hcs:(dP s k).size<=281474976710656:=by have:=nn s ((k:Int)*16) 16;unfold dP;omega
  have hpt:Hid (∀ W,Calls prog 78 #[.string s,ad ((k:Int)*16),ad 16] W fun e w'=>e=.returned (.string (dP s k))/\W=w'):=fun W=>(np _ _ _ _ hm (Zw _ (by omega) (by omega)) (by decide)).mono fun _ _ h=>⟨h.1,h.2.symm⟩;have HS:Hid (dX s k ++ [(jU (dP s k),jl (dP s k))]=dX s (k+1)):=Oo s k;clear hct;go_wp2_with (first
   | (go_at_call 78;refine (hpt.out _).mono ?_;rintro e w1 ⟨rfl,rfl⟩)
   | (go_at_call 178;refine (Zx hcs).mono ?_;rintro e w2 ⟨rfl,b2⟩;have f2:=hbel.trans (b2.mono hbel.size);have u2:=(hbuf.below b2).alloc (.cells #[ad (jU (dP s k)),.string (jl (dP s k))] 147);have f3:=f2.alloc f2.size (.cells #[ad (jU (dP s k)),.string (jl (dP s k))] 147))
   | (at_builtin;refine Po rfl (.tmp 26) (.tmp 28) rfl u2 _ _ (by rfl) (H:=w2.heap.size+1) (by simp) (by rfl) (by omega) f3.size ?_;intro g1 ij w4 C9 tf))
  go_roundw;case rel=>exact ⟨k+1,ij,_,by omega,by go_num,rfl,by rw[<- HS.out];exact C9,f3.trans tf⟩
  case measure=>simp[intOf];omega
 obtain rfl:k=dQ s:=by omega
 have hfit:=hbuf.fits;have Uw:Hid (Calls prog 112 #[.slice a (dQ s) c] wr (aT (.string (gu (dX s (dQ s)))) wr)):=by have hc13:dQ s<=13:=Nat.min_le_right _ _;have:=OH a c (dX s (dQ s)) wr (by rw[kZ];omega) (by rw[kZ];exact hfit) (Pq s _ hs) hbuf.own.row;rw[kZ] at this;exact this
 have hex:decide ((dQ s:Int)*16<(s.size:Int))=false\/((dQ s:Int)*16<(s.size:Int)/\decide ((dQ s:Int)*16<208)=false):=by
  by_cases h:(dQ s:Int)*16<(s.size:Int)
  ·right;refine ⟨h,?_⟩;simp;by_cases h13:dQ s<13;·exact absurd ((hct _).2 ⟨by omega,h13⟩) hlt
   omega
  left;simpa using h
 clear hct hlt hk;by_cases h0:s.size=0
 ·have hI:cO s=true:=by rw[cO,bF h0];rfl
  have hemp:s.toList.isEmpty=true:=by rw[pH];have:s.data.toList=[]:=mW (by rw[<- cV];exact h0);rw[this];rfl
  rcases hex with e3 | ⟨e4,e3⟩
  ·go_wp2;exact HY.out _ _ _ hI hbuf.own hfit hbel
  exfalso;omega
 have hemp:s.toList.isEmpty=false:=by
  rw[pH];cases hl:s.data.toList with
  | nil=>rw[cV,hl] at h0;exact absurd rfl h0
  | cons x r=>rfl
 by_cases hP:((gu (dX s (dQ s))).toList == s.toList)=true
 ·have hI:cO s=true:=by rw[cO,hP,Hv]
  rcases hex with e3 | ⟨e4,e3⟩;all_goals
   go_wp2_with (go_at_call 112;refine Uw.out.mono ?_;rintro e w2 ⟨rfl,b2⟩);exact HY.out _ _ _ hI (hbuf.own.below b2) hfit (hbel.trans (b2.mono hbel.size))
 have hP':((gu (dX s (dQ s))).toList == s.toList)=false:=by simpa using hP
 have hI:cO s=false:=by rw[cO,hP',bq h0];rfl
 rcases hex with e3 | ⟨e4,e3⟩;all_goals
  go_wp2_with (go_at_call 112;refine Uw.out.mono ?_;rintro e w2 ⟨rfl,b2⟩;have f2:=hbel.trans (b2.mono hbel.size);have f3:=f2.alloc f2.size (.cells #[] 147));exact HN.out _ _ _ hI f3
section
theorem Zz:(prog.info? 168).map (fun i=>(i.zero,i.size))=some (some (.agg (Array.replicate 768 (.int .u8 0))),768):=by kernel_rfl
theorem ZA:(prog.info? 5).map (·.size)=some 1:=by kernel_rfl
theorem EJ:(prog.info? 166).map (·.size)=some 8:=by kernel_rfl
variable {P : Program}
theorem ZB (w:World) (dT sT ty elem:TypeId) (b o n cap:Nat) (t:ByteArray) (hu:P.underlying dT=some (.slice elem)) (hs:(P.info? elem).map (·.size)=some 1) (hle:n<=t.size) (ht:w.there b o n):(Builtin.copy_ #[dT,sT] ty #[.slice (some ⟨b,o,none⟩) n cap,.string t]).run P w=.ok (goInt n) (w.setCells b o (Lib.byteCells (t.data.toList.take n))):=by
 have hlen:(Lib.byteCells (t.data.toList.take n)).length=n:=by rw[my,fO,<- cV];omega
 have hst:=run_storeCells_cells (P:=P) b o (Lib.byteCells (t.data.toList.take n)) 0 w (by rw[hlen];intro j hj;simpa using (ht j hj).1) (by rw[hlen];intro j hj;simpa using (ht j hj).2) (DR _);have hmin:Nat.min t.size n=n:=Nat.min_eq_right hle;have htk:List.take n (List.map (fun b:UInt8=>Value.int IntKind.u8 (b.toNat:Int)) t.data.toList)=Lib.byteCells (t.data.toList.take n):=by simp[Lib.byteCells,List.map_take]
 cases hq:P.info? elem with
 | none=>simp[hq] at hs
 | some i=>
  simp only[mZ] at hst;simp[Builtin.copy_,Ho hu,Builtin.lenOf,Builtin.firstCells,sizeOf,typeInfo,hq,hmin,htk,hst]
theorem EK {fn:Func} {p:Tmp} {ty:TypeId} (h:fn.results=#[.cell p ty]) (tmps:Array Value) (P:Program) (w:World):(results fn tmps).run P w=((asAddr (tmps.getD p undef)).run P w).andThen fun a w₁=>(loadVar ty a).run P w₁:=by simp only[results,h];simp[Nz,Result.andThen]
theorem ZD {w:World} {b o:Nat} {l:List UInt8} (h:w.rangeAt b o (Lib.byteCells l)):tG w b o l:=fun j hj=>h j _ (by simp[Lib.byteCells,hj])
theorem zj {w:World} {b o:Nat} {x:List Value} (h:w.rangeAt b o x) (k n:Nat):w.rangeAt b (o+k) ((x.drop k).take n):=fun j v hj=>by
 rw[tD] at hj;split at hj
 ·rw[qD] at hj;have:=h _ v hj;rwa [<- mD] at this
 cases hj
theorem BI (l:List UInt8) (k n:Nat):((Lib.byteCells l).drop k).take n=Lib.byteCells ((l.drop k).take n):=by simp[Lib.byteCells,List.map_drop,List.map_take]
theorem EL (w:World) (C:Array Value) (T:TypeId):(w.alloc (.cells C T)).there w.heap.size 0 C.size:=fun j hj=>by
 rw[cR];refine ⟨?_,?_⟩;·rw[rV];simp[hj]
 simp[AP]
theorem Px (w:World) (b o:Nat):w.rangeAt b o []:=fun j v h=>by simp at h
theorem EM {w:World} {b o:Nat} {x y:List Value} (h:w.rangeAt b o x) (k:w.rangeAt b (o+x.length) y):w.rangeAt b o (x++y):=fun j v hj=>by
 by_cases hl:j<x.length;·rw[pK hl] at hj;exact h j v hj
 rw[ng (by omega)] at hj;have:=k _ v hj;rwa [show o+x.length+(j-x.length)=o+j by omega] at this
theorem IT {w w':World} {B b o:Nat} {x:List Value} (h:w.rangeAt b o x) (hb:Below B w w') (hB:b<B):w'.rangeAt b o x:=fun j v hj=>(hb.cell (p:=⟨b,o+j,none⟩) hB).trans (h j v hj)
theorem ZE {w w':World} {B b o n:Nat} (h:w.there b o n) (hb:Below B w w') (hB:b<B):w'.there b o n:=fun j hj=>by rw[hb.cell (p:=⟨b,o+j,none⟩) hB,hb.frozen (p:=⟨b,o+j,none⟩) hB];exact h j hj
theorem zm {w:World} {b o n o' n':Nat} (h:w.there b o n) (h1:o<=o') (h2:o'+n'<=o+n):w.there b o' n':=fun j hj=>by have:=h (o'-o+j) (by omega);rwa [show o+(o'-o+j)=o'+j by omega] at this
theorem ZF {w w':World} {v' sv xv:Value} {ops:Array Oper} {rest:List Oper} {o:Oper} {a:Act} {Q:Exit->Act->World->Prop} (hgd:o.guard=none) (s x:Operand) (t:TypeId) (ho:o.op=.call { callee:=.builtin .append,args:=#[s,x],argTypes:=#[t,t] }) (hs:a.eval s=sv) (hx:a.eval x=xv) (hr:(Builtin.append_ #[t,t] o.type #[sv,xv]).run P w=.ok v' w') (h:wpList P ops Q rest (a.put o.dst v') w'):wpList P ops Q (o :: rest) a w:=by refine wpList_plain hgd fun K hK=>?_;unfold Oper.wp execOp;simp only[ho,resolve,invoke,builtin,Nz,H4,H5,List.map_toArray,mX,AS,hs,hx,hr];exact hK _ _ h
theorem IU (off:Nat):∀ (l:List Value) (n:Nat) (Z:Array Value),off+n+l.length<=Z.size->((l.zipIdx n).foldl (fun (cs:Array Value) (p:Value × Nat)=>cs.setIfInBounds (off+p.2) p.1) Z).toList=Z.toList.take (off+n)++l++Z.toList.drop (off+n+l.length)
 | [],n,Z,h=>by simp
 | v :: r,n,Z,h=>by
  simp only[dA] at h;rw[List.zipIdx_cons,List.foldl_cons,IU off r (n+1) _ (by simp;omega)];have hlt:off+n<Z.toList.length:=by simp;omega
  rw[show off+(n+1)=off+n+1 by omega];simp only[Array.toList_setIfInBounds,dA];have hm:min (off+n) Z.toList.length=off+n:=by omega
  have e1:(Z.toList.set (off+n) v).take (off+n+1)=Z.toList.take (off+n) ++ [v]:=by rw[List.set_eq_take_append_cons_drop,aF hlt,List.take_append,fO,hm,WV];rw[show min (off+n+1) (off+n)=off+n by omega,show off+n+1-(off+n)=1 by omega];rfl
  have e2:(Z.toList.set (off+n) v).drop (off+n+1+r.length)=Z.toList.drop (off+n+(r.length+1)):=by rw[List.drop_set_of_lt (by omega)];congr 1;omega
  rw[e1,e2];simp
theorem ZG (A B Z:Array Value) (h:Z.size=A.size+B.size):(Array.foldl (fun (cs:Array Value) (x:Value × Nat)=>cs.setIfInBounds (0+x.snd) x.fst) Z A.zipIdx).size=Z.size/\Array.foldl (fun (cs:Array Value) (x:Value × Nat)=>cs.setIfInBounds (A.size+x.snd) x.fst) (Array.foldl (fun (cs:Array Value) (x:Value × Nat)=>cs.setIfInBounds (0+x.snd) x.fst) Z A.zipIdx) B.zipIdx=A++B:=by
 have GY:A.toList.length=A.size:=by simp
 have hBl:B.toList.length=B.size:=by simp
 have Dh:Z.toList.length=Z.size:=by simp
 have hf1:=IU 0 A.toList 0 Z (by rw[GY];omega);have e1:(Array.foldl (fun (cs:Array Value) (x:Value × Nat)=>cs.setIfInBounds (0+x.snd) x.fst) Z A.zipIdx).toList=A.toList++Z.toList.drop A.size:=by rw[<- Array.foldl_toList,Array.toList_zipIdx,hf1,GY,cR,cR];rfl
 generalize Array.foldl (fun (cs:Array Value) (x:Value × Nat)=>cs.setIfInBounds (0+x.snd) x.fst) Z A.zipIdx=G at e1;have hGl:G.toList.length=G.size:=by simp
 have hG:G.size=Z.size:=by rw[<- hGl,e1,bY,jC,GY,Dh];omega
 refine ⟨hG,?_⟩;have hf2:=IU A.size B.toList 0 G (by rw[hBl];omega);apply jB.1;rw[<- Array.foldl_toList,Array.toList_zipIdx,hf2,mZ,hBl,e1,aiN (by omega),qx (by omega),List.drop_of_length_le (by rw[bY,jC,GY,Dh];omega),tA,rX]
end
structure vd (B:Nat) (w:World) (l:List UInt8) (k:Nat) (W:World):Prop where
 t0:W.there B 0 768
 t1:W.there (B+1) 0 768
 row:W.rangeAt (B+1) 0 (Lib.byteCells (l.take (k*8)))
 ah:Below B w W
 lt:B+1<W.heap.size
theorem ZH (w:World) (Z:Array Value) (hZ:Z.size=768) (l:List UInt8):vd w.heap.size w l 0 ((w.alloc (.cells Z 168)).alloc (.cells Z 168)):=by have h0:=EL w Z 168;have h1:=EL (w.alloc (.cells Z 168)) Z 168;rw[AZ] at h1;rw[hZ] at h0 h1;exact ⟨World.there_alloc h0 _,h1,by simpa [Lib.byteCells] using Px _ _ _,((aK _ _).alloc (aq _) _).alloc (by simp) _,by simp⟩
theorem vd.drew {B:Nat} {w W:World} {l:List UInt8} {k:Nat} (h:vd B w l k W):vd B w l k W.drew:=⟨by simpa using h.t0,by simpa using h.t1,by simpa using h.row,h.ah.drew,h.lt⟩
theorem vd.step {B:Nat} {w W:World} {l:List UInt8} {k:Nat} (h:vd B w l k W) (hl:l.length=768) (hk:k<96):vd B w l (k+1) (W.setCells (B+1) (k*8) (Lib.byteCells ((l.drop (k*8)).take 8))):=by
 have hlen:(Lib.byteCells ((l.drop (k*8)).take 8)).length=8:=by rw[my,fO,jC];omega
 have hpl:(Lib.byteCells (l.take (k*8))).length=k*8:=by rw[my,fO];omega
 refine ⟨DW h.t0 _ _ _,DW h.t1 _ _ _,?_,qF (by omega) _ _ _ h.ah,by rw[yP];exact h.lt⟩;rw[show (k+1)*8=k*8+8 by omega,Nt,NA];refine EM (A6 h.row _ _ _ (by rw[hpl];omega)) ?_;rw[hpl,cR];exact A7 _ _ _ _ (by rw[hlen];exact zm h.t1 (by omega) (by omega))
theorem ZI (s:ByteArray) (k:Nat) (h:k+8<=768):(s.extract k 768).data.toList.take 8=(s.data.toList.drop k).take 8:=by rw[pE,WV];congr 1;omega
theorem ZJ (s:ByteArray) (w:World) (hs:s.size=768):Calls prog 173 #[.string s] w (aT (.agg (Lib.byteCells s.data.toList).toArray) w):=by
 have hl:s.data.toList.length=768:=by rw[<- cV];exact hs
 obtain ⟨hz0,hsz⟩:=zero_of_info Zz;obtain ⟨Z,C3,hZ⟩:∃ Z:Array Value,Z=Array.replicate 768 (.int .u8 0)/\Z.size=768:=⟨_,rfl,by simp⟩;rw[<- C3] at hz0;clear C3;have h0:=ZH w Z hZ s.data.toList;obtain ⟨C,hC⟩:∃ C,(Lib.byteCells s.data.toList).toArray=C:=⟨_,rfl⟩;rw[hC];go_enter func173,ntmps173;go_wp2;go_loopw [5] (fun i w'=>∃ k:Nat,k<=96/\i=ad k/\vd w.heap.size w s.data.toList k w') (fun i _=>96-(intOf i).toNat);case atStart=>exact ⟨0,aS _,rfl,h0⟩
 case round=>
 obtain ⟨k,hk,rfl,hc⟩:=hrel;by_cases hlt:k<96
 ·have e1:(0:Int)<=(k:Int):=by omega
  have e2:(k:Int)<96:=by omega
  have e3:(0:Int)<=(k:Int)*8:=by omega
  have e4:(k:Int)*8<=(s.size:Int):=by omega
  have hd:=hc.drew;have hcp:=ZB (P:=prog) wr.drew 22 9 3 5 (w.heap.size+1) (k*8) 8 8 (s.extract (k*8) 768) underlying22 ZA (by rw[lU];omega) (zm hd.t1 (by omega) (by omega));rw[ZI s (k*8) (by omega)] at hcp;have h1:=hd.step hl hlt;obtain ⟨W1,hW1⟩:∃ W1,wr.drew.setCells (w.heap.size+1) (k*8) (Lib.byteCells ((s.data.toList.drop (k*8)).take 8))=W1:=⟨_,rfl⟩;rw[hW1] at hcp h1;clear hW1;go_wp2;go_region
  all_goals
   go_wp2;go_roundw;case rel=>exact ⟨k+1,by omega,by go_num,h1⟩
   case measure=>simp[intOf];omega
 obtain rfl:k=96:=by omega
 have hr:=hc.row;rw[qx (by omega)] at hr;have hn:(Lib.byteCells s.data.toList).length=768:=by rw[my,hl]
 have hrr:(wr.setCells w.heap.size 0 (Lib.byteCells s.data.toList)).rangeAt w.heap.size 0 (Lib.byteCells s.data.toList):=A7 _ _ _ _ (by rw[hn];exact hc.t0);have hlr:=NB (P:=prog) _ w.heap.size 0 168 _ _ hrr underlying168 rfl (by rw[hsz,hn]);have hb:aj w (wr.setCells w.heap.size 0 (Lib.byteCells s.data.toList)):=qF (aq _) _ _ _ hc.ah;have DB:C.toList=Lib.byteCells s.data.toList:=by rw[<- hC]
 have hCs:C.size=768:=by rw[<- hC];simpa using hn
 have h1:C.all (·.oneCell')=true:=by rw[<- hC];exact all_oneCell_toArray (DR _)
 obtain ⟨W1,hW1⟩:∃ W1,wr.setCells w.heap.size 0 (Lib.byteCells s.data.toList)=W1:=⟨_,rfl⟩;rw[hW1] at hlr hb;rw[hC] at hlr;go_wp2_with (first
  | (refine WW rfl 168 (.tmp 3) rfl (w.heap.size+1) 0 rfl _ _ hr underlying168 rfl (by rw[hsz,hn]) ?_;rw[hC])
  | (refine wpList_store_mid rfl 168 (.tmp 2) (.tmp 17) rfl w.heap.size 0 C rfl rfl (by rw[hCs];exact hc.t0) (by rw[hsz,hCs]) h1 ?_;rw[DB,hW1]))
 refine bL (v:=.agg C) ?_ rfl ⟨rfl,hb⟩;rw[EK rfl];show ((asAddr (aD w.heap.size 0)).run prog W1).andThen _=_
 simp only[asAddr,H4,H5,hlr]
section
structure vf (B:Nat) (w:World) (a b:ByteArray) (W:World):Prop where
 c0:W.cell? ⟨B,0,none⟩=some (.string a)
 c1:W.cell? ⟨B,1,none⟩=some (.string b)
 lt:B<W.heap.size
 ah:Below B w W
variable {B : Nat} {w W W' : World} {a b : ByteArray}
theorem vf.below (h:vf B w a b W) (hb:aj W W'):vf B w a b W':=⟨(hb.cell (p:=⟨B,0,none⟩) h.lt).trans h.c0,(hb.cell (p:=⟨B,1,none⟩) h.lt).trans h.c1,cS h.lt hb.size,h.ah.trans (hb.mono (iH h.lt))⟩
theorem ZK (a b:ByteArray) (w:World):vf w.heap.size w a b (w.alloc (.cells #[.string a,.string b] 25)):=by refine ⟨?_,?_,?_,?_⟩;all_goals first | exact (aK _ _).alloc (aq _) _ | (simp[go_sem];done) | (simp;done)
end
section
theorem ZL:(prog.info? 170).map (fun i=>(i.zero,i.size))=some (some (.agg (Array.replicate 1536 (.int .u8 0))),1536):=by kernel_rfl
variable {B : Nat} {w W : World} {a b : ByteArray}
theorem ZM (s:ByteArray) (hs:s.size=768) (h:vf B w a b W):Calls prog 173 #[.string s] W fun e w'=>e=.returned (.agg (Lib.byteCells s.data.toList).toArray)/\vf B w a b w':=(ZJ s W hs).mono fun _ _ ⟨he,hb⟩=>⟨he,h.below hb⟩
theorem ZN (h:vf B w a b W):vf B w a b W.drew:=⟨h.c0,h.c1,h.lt,h.ah.drew⟩
structure kB (G:Nat) (la lb:List UInt8) (W:World):Prop where
 m:W.rangeAt G 0 (Lib.byteCells la)
 d:W.rangeAt G 768 (Lib.byteCells lb)
 t:W.there G 0 1536
 lt:G<W.heap.size
theorem ZO (la lb:List UInt8) (h1:la.length=768) (h2:lb.length=768) (w:World):kB w.heap.size la lb (w.alloc (.cells ((Lib.byteCells la).toArray++(Lib.byteCells lb).toArray) 170)):=by
 have hs:((Lib.byteCells la).toArray++(Lib.byteCells lb).toArray).size=1536:=by simp[Lib.byteCells,h1,h2]
 have h0:=EL w ((Lib.byteCells la).toArray++(Lib.byteCells lb).toArray) 170;rw[hs] at h0;refine ⟨?_,?_,h0,by simp⟩
 ·intro j v hj;have hjl:j<(Lib.byteCells la).length:=(pI.1 hj).1;rw[cR,rV,aiO (by simpa using hjl)];simpa using hj
 intro j v hj;have hla:(Lib.byteCells la).length=768:=by rw[my,h1]
 rw[rV,Array.getElem?_append_right (by simp[hla])];simpa [hla] using hj
set_option maxRecDepth 20000 in
theorem Py (a b:ByteArray) (w:World) (ha:a.size=768) (hb:b.size=768):Calls prog 129 #[.agg #[.string a,.string b]] w fun e w'=>∃ G,e=.returned (aD G 0)/\w.heap.size<=G/\kB G a.data.toList b.data.toList w'/\aj w w':=by
 have hla:a.data.toList.length=768:=by rw[<- cV];exact ha
 have hlb:b.data.toList.length=768:=by rw[<- cV];exact hb
 have h0:=ZK a b w;have hnew:=ZO a.data.toList b.data.toList hla hlb;obtain ⟨X,hX⟩:∃ X,(Lib.byteCells a.data.toList).toArray=X:=⟨_,rfl⟩;obtain ⟨Y,hY⟩:∃ Y,(Lib.byteCells b.data.toList).toArray=Y:=⟨_,rfl⟩;have yG:X.size=768:=by rw[<- hX];simp[Lib.byteCells,hla]
 have hYs:Y.size=768:=by rw[<- hY];simp[Lib.byteCells,hlb]
 obtain ⟨hz0,-⟩:=zero_of_info ZL;obtain ⟨Z0,C3,aiw⟩:∃ Z:Array Value,Z=Array.replicate 1536 (Value.int .u8 0)/\Z.size=1536:=⟨_,rfl,by rw[Array.size_replicate]⟩;rw[<- C3] at hz0;clear C3;obtain ⟨g1,g2⟩:=ZG X Y Z0 (by omega);simp only[cR,Array.size_zipIdx,yG,hYs,aiw] at g1 g2;rw[hX,hY] at hnew;obtain ⟨Z,hZ⟩:∃ Z,X++Y=Z:=⟨_,rfl⟩;rw[hZ] at g2 hnew;go_enter func129,ntmps129;go_wp2;obtain ⟨W,hW⟩:∃ W,w.alloc (.cells #[.string a,.string b] 25)=W:=⟨_,rfl⟩;rw[hW] at h0 ⊢;have c0:=h0.c0;have c1:=h0.c1;have hd:=ZN h0;go_region_with (go_at_call 173;refine (ZM (B:=w.heap.size) (w:=w) (a:=a) (b:=b) _ (by assumption) (by assumption)).mono ?_;rintro e w4 ⟨rfl,h4⟩;(first | rw[hX] | rw[hY]);have d0:=h4.c0;have d1:=h4.c1)
 all_goals
  go_wp2;go_ret;exact ⟨w4.heap.size,rfl,h4.ah.size,hnew w4,h4.ah.alloc h4.ah.size _⟩
end
theorem Pz (w:World):(sizeOf 5).run prog w=.ok 1 w:=sizeOf5 w
theorem EN {α:Type} (x:List α) (h:x.length=8):∃ a b c d e f g i,x=[a,b,c,d,e,f,g,i]:=by
 match x,h with
 | [a,b,c,d,e,f,g,i],_=>exact ⟨a,b,c,d,e,f,g,i,rfl⟩
theorem ZP (C:Array Value) (o:Nat) (v:Value) (w:World) (h:C[o]? = some v):(part 5 C o).run prog w=.ok v w:=by have ha:=isAgg5 w;simp[part,Nz,ha,Pz,h]
theorem ZQ (x y:UInt8) (w:World):(Op.equalIn 9999 5 (.int .u8 (x.toNat:Int)) (.int .u8 (y.toNat:Int))).run prog w=.ok (decide (x=y)) w:=by
 rw[show (9999:Nat)=9998+1 from rfl,run_equalIn_int w 9998 5 .u8 .u8 _ _ underlying5]
 congr 1;by_cases h:x=y;·subst h;simp
 have:¬ x.toNat=y.toNat:=fun e=>h (UInt8.toNat_inj.1 e);simp[h];omega
theorem ZR (x y:List UInt8) (hx:x.length=8) (hy:y.length=8) (w:World):(Op.equalIn 10000 166 (.agg (Lib.byteCells x).toArray) (.agg (Lib.byteCells y).toArray)).run prog w=.ok (decide (x=y)) w:=by
 obtain ⟨a,b,c,d,e,f,g,i,rfl⟩:=EN x hx;obtain ⟨a',b',c',d',e',f',g',i',rfl⟩:=EN y hy;rw[show (10000:Nat)=9998+1+1 from rfl]
 unfold Op.equalIn;simp[Ho underlying166,Nz,Pz,Lib.byteCells,Std.Legacy.Range.forIn_eq_forIn_range',List.range',ZP,ZQ];by_cases h1:a=a' <;> by_cases h2:b=b' <;> by_cases h3:c=c' <;> by_cases h4:d=d' <;> by_cases h5:e=e' <;> by_cases h6:f=f' <;> by_cases h7:g=g' <;> by_cases h8:i=i' <;> simp[h1,h2,h3,h4,h5,h6,h7,h8]
theorem ZS:(prog.info? 5).map (fun i=>(i.zero,i.size,i.bytes))=some (some (.int .u8 0),1,1):=by kernel_rfl
structure BJ (w:World) (l:List UInt8) (k:Nat) (W:World):Prop where
 t0:W.there w.heap.size 0 768
 row:W.rangeAt w.heap.size 0 (Lib.byteCells (l.take (k*8)))
 ah:aj w W
 lt:w.heap.size<W.heap.size
theorem ZT (w:World) (M:Array Value) (hM:M.size=768) (l:List UInt8):BJ w l 0 (w.alloc (.cells M 5)):=by have h0:=EL w M 5;rw[hM] at h0;exact ⟨h0,by simpa [Lib.byteCells] using Px _ _ _,(aK _ _).alloc (aq _) _,by simp⟩
theorem BJ.step {w W:World} {l:List UInt8} {k:Nat} (h:BJ w l k W) (hl:l.length=768) (hk:k<96):BJ w l (k+1) (W.setCells w.heap.size (k*8) (Lib.byteCells ((l.drop (k*8)).take 8))):=by
 have hlen:(Lib.byteCells ((l.drop (k*8)).take 8)).length=8:=by rw[my,fO,jC];omega
 have hpl:(Lib.byteCells (l.take (k*8))).length=k*8:=by rw[my,fO];omega
 refine ⟨DW h.t0 _ _ _,?_,qF (aq _) _ _ _ h.ah,by rw[yP];exact h.lt⟩;rw[show (k+1)*8=k*8+8 by omega,Nt,NA];refine EM (A6 h.row _ _ _ (by rw[hpl];omega)) ?_;rw[hpl,cR];exact A7 _ _ _ _ (by rw[hlen];exact zm h.t0 (by omega) (by omega))
theorem IV (l:List UInt8) (B o:Nat) (w:World) (hl:l.length=768) (hB:B<w.heap.size) (hr:w.rangeAt B o (Lib.byteCells l)):Calls prog 132 #[aD B o] w (aT (.string ⟨l.toArray⟩) w):=by
 obtain ⟨i0,hi,hz0,hz1,hz2⟩:=iW ZS;obtain ⟨M,hM⟩:∃ M,M=madeCells (Value.int .u8 0).cells ((768:Int).toNat*i0.size):=⟨_,rfl⟩;have hMs:M.size=768:=by rw[hM,size_madeCells,hz1];rfl
 have hmk:(Instr.makeSlice 22 (ad 0) (ad 768)).run prog w=.ok (bg w.heap.size 0 768) (w.alloc (.cells M 5)):=by have h:=run_make (P:=prog) w 22 5 i0 (.int .u8 0) underlying22 hi hz0 .i64 .i64 0 768 (by omega) (by omega) (by rw[hz2];decide) (by decide);rw[<- hM] at h;exact h
 clear hM;have h0:=ZT w M hMs l;go_enter func132,ntmps132;go_wp2;go_loopw [3,6] (fun d i w'=>∃ k:Nat,k<=96/\i=ad k/\d=bg w.heap.size (k*8) 768/\BJ w l k w') (fun _ i _=>96-(intOf i).toNat);case atStart=>exact ⟨0,aS _,rfl,rfl,h0⟩
 case round=>
 obtain ⟨k,hk,rfl,rfl,hc⟩:=hrel;by_cases hlt:k<96
 ·have e1:(0:Int)<=(k:Int):=by omega
  have e2:(k:Int)<96:=by omega
  have hrow:wr.rangeAt B (o+k*8) (Lib.byteCells ((l.drop (k*8)).take 8)):=by rw[<- BI];exact zj (IT hr hc.ah hB) _ _
  have hlen:(Lib.byteCells ((l.drop (k*8)).take 8)).length=8:=by rw[my,fO,jC];omega
  have hap:=run_append_room_cells (P:=prog) wr 22 22 5 i0 underlying22 hi w.heap.size 0 (k*8) 768 ⟨B,o+k*8,none⟩ 8 8 (Lib.byteCells ((l.drop (k*8)).take 8)) (by rw[hlen,hz1])
   (fun j u hu=>by rw[Addr.add_mid];exact hrow j u hu) (DR _) (by omega)
   (fun j hj=>by rw[hlen] at hj;rw[hz1];have:=(hc.t0 (k*8+j) (by omega)).1;simpa using this)
   (fun j hj=>by rw[hlen] at hj;rw[hz1];have:=(hc.t0 (k*8+j) (by omega)).2;simpa using this)
  rw[hz1,cR,Nat.mul_one] at hap;have h1:=hc.step hl hlt;obtain ⟨W1,hW1⟩:∃ W1,wr.setCells w.heap.size (k*8) (Lib.byteCells ((l.drop (k*8)).take 8))=W1:=⟨_,rfl⟩;rw[hW1] at hap h1;clear hW1;go_wp2_with (at_builtin;refine ZF rfl (.tmp 9) (.tmp 14) 22 rfl rfl rfl hap ?_);go_roundw;case rel=>exact ⟨k+1,by omega,by go_num,by rw[show (k+1)*8=k*8+8 by omega],h1⟩
  case measure=>simp[intOf];omega
 obtain rfl:k=96:=by omega
 have hrw:=hc.row;rw[qx (by omega)] at hrw;have hcv:=qE (P:=prog) wr 22 9 5 w.heap.size 0 768 l underlying22 underlying5 underlying9 (ZD hrw) 768 hl.symm;go_wp2;go_ret;exact ⟨rfl,hc.ah⟩
section
variable {P : Program} {ops : Array Oper} {Q : Exit → Act → World → Prop} {md : Region.Mode} {S : World → Prop} {n : Nat}
def fZ (P:Program) (md:Region.Mode) (ops:Array Oper) (Q:Exit->Act->World->Prop) (S:World->Prop) (n:Nat):Nat->Array Bool->Act->World->Prop
 | 0,listed,a,w=>Region.ready md ops listed=[]/\Q .normal a w
 | fuel+1,listed,a,w=>
  (Region.ready md ops listed=[]->Q .normal a w)/\
  ∀ i ∈ Region.ready md ops listed,wpOp P ops Q i (fun a' w'=>(i<n->S w')/\fZ P md ops Q S n fuel (listed.setIfInBounds i true) a' w') a w
theorem PA:∀ (fuel:Nat) (listed:Array Bool) (a:Act) (w:World),fZ P md ops Q S n fuel listed a w->wpAny P md ops Q fuel listed a w
 | 0,_,_,_,h=>h
 | fuel+1,_,_,_,h=>⟨h.1,fun i hi=>wpOp_mono (fun a' w' h'=>PA fuel _ a' w' h'.2) (h.2 i hi)⟩
theorem ZU {i:Nat} {oi:Oper} {v:Value} (hi:ops[i]? = some oi) (hin:i<n) (KU:∀ (j:Nat) (o:Oper),ops[j]? = some o->n<=j->∃ e ∈ o.after,Region.binds md e=true/\e.on=i) (hsel:∀ (j:Nat) (o:Oper) cs b,ops[j]? = some o->o.op ≠ .select cs b) (hQ:∀ c a w,Q (.panic c) (a.put oi.dst v) w->Q (.panic c) a w):∀ (fuel:Nat) (listed:Array Bool) (a:Act) (w:World),(∀ j oj,ops[j]? = some oj->j≠i->listed.getD j true=false->(∀ e ∈ oj.after,Region.binds md e=true->e.on≠i)->oi.apart ops oj=true)->i ∈ Region.ready md ops listed->YieldsIf P ops S oi v a->S w->fZ P md ops Q S n fuel (listed.setIfInBounds i true) (a.put oi.dst v) w->fZ P md ops Q S n (fuel+1) listed a w:=by
 intro fuel;induction fuel with
 | zero=>
  intro listed a w _ hr hy hS H;refine ⟨fun h=>(by rw[h] at hr;cases hr),fun j hj=>?_⟩;by_cases hji:j=i;·subst hji;exact hy.wpOp hi hS ⟨fun _=>hS,H⟩
  ·have:=DX hj hji;rw[H.1] at this;cases this
 | succ fuel ih=>
  intro listed a w hfree hr hy hS H;refine ⟨fun h=>(by rw[h] at hr;cases hr),fun j hj=>?_⟩;by_cases hji:j=i;·subst hji;exact hy.wpOp hi hS ⟨fun _=>hS,H⟩
  ·have h1:=H.2 j (DX hj hji);obtain ⟨hjun,oj,hoj,hall⟩:=mem_ready.1 hj;have hnot:∀ e ∈ oj.after,Region.binds md e=true->e.on≠i:=fun e he hb heq=>by
    have h1:=hall e he hb;have h0:=(mem_ready.1 hr).1;rw[heq] at h1;rcases DY i listed.size with h' | h';·simp[h'] at h0 h1;rw[h0] at h1;cases h1
    simp[NC h'] at h1
   have hjn:j<n:=by
    rcases DY j n with h' | h';·exact h'
    obtain ⟨e,he,hb,ho⟩:=KU j oj hoj h';exact absurd ho (hnot e he hb)
   have h2:=wpOp_putIf hoj (hfree j oj hoj hji hjun hnot) (fun cs b=>hsel i oi cs b hi) (fun cs b=>hsel j oj cs b hoj) hQ hy h1;have hfree':∀ k ok,ops[k]? = some ok->k≠i->(listed.setIfInBounds j true).getD k true=false->
     (∀ e ∈ ok.after,Region.binds md e=true->e.on≠i)->oi.apart ops ok=true:=fun k ok hk hki hun hno=>by
    refine hfree k ok hk hki ?_ hno;by_cases hjk:j=k;·subst hjk;exact hjun
    rw[getD_set_ne true hjk] at hun;exact hun
   refine wpOp_mono (fun a' w' h3=>⟨h3.2.1,ih (listed.setIfInBounds j true) a' w' hfree' (DX hr (Ne.symm hji)) h3.1 (h3.2.1 hjn) ?_⟩) h2;rw[WX _ _ hji];exact h3.2.2
def vg (md:Region.Mode) (ops:Array Oper) (n i:Nat):Bool:=(List.range ops.size).all fun j=>decide (j<n) || match ops[j]? with
 | some o=>o.after.any fun e=>Region.binds md e && e.on == i
 | none=>true
theorem PB {i:Nat} (h:vg md ops n i=true) (j:Nat) (o:Oper) (hj:ops[j]? = some o) (hn:n<=j):∃ e ∈ o.after,Region.binds md e=true/\e.on=i:=by
 simp only[vg,AV,mA] at h;have h1:=h j (mY.1 hj).1;simp only[hj,kY,dC] at h1;rcases h1 with h1 | h1;·omega
 obtain ⟨e,he,hb⟩:=Array.any_eq_true'.1 h1;simp only[cj,qB] at hb;exact ⟨e,he,hb.1,hb.2⟩
theorem pR {i:Nat} {oi:Oper} {v:Value} {fuel:Nat} {listed:Array Bool} {a:Act} {w:World} (hi:ops[i]? = some oi) (hin:i<n) (hl:vg md ops n i=true) (hs:Region.noSelect ops=true) (hf:Region.free md ops listed i=true) (hr:(Region.ready md ops listed).contains i=true) (hQ:∀ c a w,Q (.panic c) (a.put oi.dst v) w->Q (.panic c) a w) (hy:YieldsIf P ops S oi v a) (hS:S w) (h:fZ P md ops Q S n fuel (listed.setIfInBounds i true) (a.put oi.dst v) w):fZ P md ops Q S n (fuel+1) listed a w:=ZU hi hin (PB hl) (Region.noSelect_spec hs) hQ fuel listed a w (Region.free_spec hi hf) (by simpa using hr) hy hS h
theorem wY {rs:List Nat} {fuel:Nat} {listed:Array Bool} {a:Act} {w:World} (hr:Region.ready md ops listed=rs) (hne:rs ≠ []) (h:∀ i ∈ rs,wpOp P ops Q i (fun a' w'=>(i<n->S w')/\fZ P md ops Q S n fuel (listed.setIfInBounds i true) a' w') a w):fZ P md ops Q S n (fuel+1) listed a w:=⟨fun h0=>absurd (hr ▸ h0) hne,hr ▸ h⟩
theorem BK {listed:Array Bool} {a:Act} {w:World} (hr:Region.ready md ops listed=[]) (h:Q .normal a w):∀ fuel,fZ P md ops Q S n fuel listed a w
 | 0=>⟨hr,h⟩
 | _+1=>⟨fun _=>h,by rw[hr];simp⟩
theorem BL {id:Nat} {a:Act} {w:World} (hm:P.follows .mixedOrders=true) (h:fZ P .any ops Q S n ops.size (Array.replicate ops.size false) a w.drew):(Code.region id ops true).wp P Q a w:=wp_region_any hm (PA _ _ _ _ h)
theorem zp {a:Act} {w:World} {i f:Nat} {o:Oper} {listed:Array Bool} {fuel:Nat} (hr:Region.ready md ops listed=[i]) (ho:ops[i]? = some o) (hw:Region.wanted o (yielded ops a.tmps)=true) (x:Operand) (ts:Array TypeId) (hop:o.op=.call { callee:=.value (.func f),args:=#[x],argTypes:=ts }) (v:Value) (hx:a.eval x=v) (eg:∀ args w,(callFunc f args).run P w=.ok (.enter f args) w) (hc:Calls P f #[v] w fun e w'=>∃ u,e=.returned u/\S w'/\fZ P md ops Q S n fuel (listed.setIfInBounds i true) (a.put o.dst u) w'):fZ P md ops Q S n (fuel+1) listed a w:=by
 refine wY hr (by simp) ?_;intro j hj;obtain rfl:j=i:=by simpa using hj
 unfold wpOp;rw[ho];refine gT hw (.inl ?_);have he:(execOp a.eval o).run P w=.ok (.enter f #[v]) w:=by subst hx;simp[execOp,hop,resolve,go_sem,invoke,eg]
 unfold Oper.wp;rw[he];refine mC hc ?_;rintro e w' ⟨u,rfl,hS,h⟩;exact ⟨fun _=>hS,h⟩
theorem wZ {a:Act} {w w':World} {i:Nat} {o:Oper} {listed:Array Bool} {fuel:Nat} (hr:Region.ready md ops listed=[i]) (ho:ops[i]? = some o) (hn:n<=i) (hw:Region.wanted o (yielded ops a.tmps)=true) (he:(execOp a.eval o).run P w=.ok .skip w') (h:fZ P md ops Q S n fuel (listed.setIfInBounds i true) (a.put o.dst undef) w'):fZ P md ops Q S n (fuel+1) listed a w:=by
 refine wY hr (by simp) ?_;intro j hj;obtain rfl:j=i:=by simpa using hj
 unfold wpOp;rw[ho];refine gT hw (.inl ?_);unfold Oper.wp;rw[he];exact ⟨fun h'=>absurd h' (by omega),h⟩
theorem PI {a:Act} {w w':World} {u:Value} {i:Nat} {o:Oper} {listed:Array Bool} {fuel:Nat} (hr:Region.ready md ops listed=[i]) (ho:ops[i]? = some o) (hn:n<=i) (hw:Region.wanted o (yielded ops a.tmps)=true) (he:(execOp a.eval o).run P w=.ok (.value u) w') (h:fZ P md ops Q S n fuel (listed.setIfInBounds i true) (a.put o.dst u) w'):fZ P md ops Q S n (fuel+1) listed a w:=by
 refine wY hr (by simp) ?_;intro j hj;obtain rfl:j=i:=by simpa using hj
 unfold wpOp;rw[ho];refine gT hw (.inl ?_);unfold Oper.wp;rw[he];exact ⟨fun h'=>absurd h' (by omega),h⟩
end
section
variable {P : Program} {ops : Array Oper} {Q : Exit → Act → World → Prop} {md : Region.Mode} {S : World → Prop} {oi : Oper} {n fuel : Nat} {listed l' : Array Bool} {a a' : Act} {w : World}
theorem jY (i:Nat) (v:Value) (hS:S w) (h:fZ P md ops Q S n fuel l' a' w) (hi:ops[i]? = some oi:=by exact rfl) (hin:i<n:=by decide) (hb:vg md ops n i=true:=by kernel_rfl) (hl:listed.setIfInBounds i true=l':=by (try simp only[ao]);exact rfl) (ha:a.put oi.dst v=a':=by (try simp only[ao,Act.put,Nat.reduceAdd]);exact rfl) (hs:Region.noSelect ops=true:=by kernel_rfl) (hf:Region.free md ops listed i=true:=by kernel_rfl) (hr:(Region.ready md ops listed).contains i=true:=by kernel_rfl) (hQ:∀ c a w,Q (.panic c) (a.put oi.dst v) w->Q (.panic c) a w:=by exact fun _ _ _ h=>h) (hw:Region.wanted oi (yielded ops a.tmps)=true:=by rfl) (hy:∀ w,S w->(execOp a.eval oi).run P w=.ok (.value v) w:=by exact fun w' hS'=>by rfl):fZ P md ops Q S n (fuel+1) listed a w:=by subst hl ha;exact pR hi hin hb hs hf hr hQ (Or.inl ⟨hw,hy⟩) hS h
theorem sH (i:Nat) (v:Value) (hS:S w) (h:fZ P md ops Q S n fuel l' a' w) (hi:ops[i]? = some oi:=by exact rfl) (hin:i<n:=by decide) (hb:vg md ops n i=true:=by kernel_rfl) (hl:listed.setIfInBounds i true=l':=by (try simp only[ao]);exact rfl) (ha:a.put oi.dst v=a':=by (try simp only[ao,Act.put,Nat.reduceAdd]);exact rfl) (hs:Region.noSelect ops=true:=by kernel_rfl) (hf:Region.free md ops listed i=true:=by kernel_rfl) (hr:(Region.ready md ops listed).contains i=true:=by kernel_rfl) (hQ:∀ c a w,Q (.panic c) (a.put oi.dst v) w->Q (.panic c) a w:=by exact fun _ _ _ h=>h) (hw:Region.wanted oi (yielded ops a.tmps)=true:=by rfl) (hy:∀ w,S w->(execOp a.eval oi).run P w=.ok (.value v) w:=by intro w' hS';(try dsimp only at hS');go_split_ands;go_simp):fZ P md ops Q S n (fuel+1) listed a w:=by subst hl ha;exact pR hi hin hb hs hf hr hQ (Or.inl ⟨hw,hy⟩) hS h
end
def zq (u:Nat):List UInt8:=if u=0 then [] else Lib.decDigits u
theorem PJ (u:Nat) (h:u<=9223372036854775808):(zq u).length<=21:=by
 unfold zq;split;·simp
 have:=Lib.itoa_length_le (-(u:Int)) (by omega) (by omega);rw[Lib.itoa_neg u (by omega)] at this;simp at this;omega
theorem ZV (u:Nat) (h:u≠0):Lib.itoa (u:Int)=zq u:=by rw[Lib.itoa_nonneg,zq,aG h]
theorem ZW (u:Nat) (h:u≠0):Lib.itoa (-(u:Int))=45 :: zq u:=by rw[Lib.itoa_neg u (by omega),zq,aG h]
end Go.Proofs.YtidmmopnkjbjoaaGreatDoor
