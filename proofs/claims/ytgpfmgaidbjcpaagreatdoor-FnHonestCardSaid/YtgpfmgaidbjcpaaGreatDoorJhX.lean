/- Joined texts. -/
import Derived.Test.YtgpfmgaidbjcpaaGreatDoorJhN
set_option linter.unusedVariables false
set_option linter.unusedSimpArgs false
set_option maxRecDepth 10000
set_option maxHeartbeats 16000000
namespace Go.Proofs.YtgpfmgaidbjcpaaGreatDoor
open ChangeShapes WideShapes ChangeAt RowKit
open Go.Proofs.Tryz
def oU (w:World) (a:Option Addr) (len:Nat):Prop:=∀ k,k<len->∃ b off z,a=some ⟨b,off,none⟩/\b<w.heap.size/\0<=z/\z<256/\w.cell? ⟨b,off+k,none⟩=some (.int .u8 z)
theorem oU.below {w w':World} {a:Option Addr} {len:Nat} (h:oU w a len) (hb:Below w.heap.size w w'):oU w' a len:=fun k hk=>by obtain ⟨b,off,z,ha,hlt,h0,h1,hc⟩:=h k hk;exact ⟨b,off,z,ha,cv hlt hb.size,h0,h1,(hb.cell (p:=⟨b,off+k,none⟩) hlt).trans hc⟩
structure F9 (w:World) (c:Nat) (a:Option Addr) (len cap:Nat):Prop where
 lt:c<w.heap.size
 cells:∃ (k:Nat) (h:Int),k<=len/\w.cell? ⟨c,0,none⟩=some (.slice a len cap)/\w.cell? ⟨c,1,none⟩=some (.int .i64 (k:Int))/\w.cell? ⟨c,2,none⟩=some (.int .i64 h)
 H5:w.frozen? ⟨c,1,none⟩=false
 Hm:w.frozen? ⟨c,2,none⟩=false
structure fu (w0 w:World) (c:Nat) (a:Option Addr) (len cap:Nat):Prop where
 au:Below w0.heap.size w0 w
 new:w0.heap.size<=c
 cur:F9 w c a len cap
theorem F9.XJ {w w':World} {c:Nat} {a:Option Addr} {len cap:Nat} (h:F9 w c a len cap) (hz:c<w'.heap.size) (hb:w'.heap[c]? = w.heap[c]?):F9 w' c a len cap:=by have e:∀ j,w'.cell? ⟨c,j,none⟩=w.cell? ⟨c,j,none⟩:=fun j=>mv (a:=⟨c,j,none⟩) hb;have f:∀ j,w'.frozen? ⟨c,j,none⟩=w.frozen? ⟨c,j,none⟩:=fun j=>yY (a:=⟨c,j,none⟩) hb;obtain ⟨k,x,hk,c0,c1,c2⟩:=h.cells;exact ⟨hz,⟨k,x,hk,by rw[e];exact c0,by rw[e];exact c1,by rw[e];exact c2⟩,by rw[f];exact h.H5,by rw[f];exact h.Hm⟩
theorem fu.below {w0 w w':World} {c:Nat} {a:Option Addr} {len cap:Nat} (h:fu w0 w c a len cap) (hb:Below w.heap.size w w'):fu w0 w' c a len cap:=⟨h.au.trans (hb.mono h.au.size),h.new,h.cur.XJ (cv h.cur.lt hb.size) (hb.block c h.cur.lt)⟩
theorem Tw (w:World) (row:Option Nat):w.grownBy w row:=⟨rfl,rfl,rfl,av _,fun _ _ _=>rfl⟩
theorem Ku {w w1 w2:World} {row:Option Nat} (h:w.grownBy w1 row) (h':w1.grownBy w2 row):w.grownBy w2 row:=
 ⟨h'.os.trans h.os,h'.tape.trans h.tape,h'.output.trans h.output,br h.size h'.size,fun k hk hr=>by rw[h'.block k (cv hk h.size) hr];exact h.block k hk hr⟩
theorem Kv {w w1:World} {row:Option Nat} (h:w.grownBy w1 row) (n:Nat):w.grownBy (w1.drewN n) row:=⟨h.os,h.tape,h.output,h.size,h.block⟩
theorem Kw {w w1:World} {g j:Nat} (h:w.grownBy w1 (some g)) (v:Value):w.grownBy (w1.setCell ⟨g,j,none⟩ v) (some g):=by
 refine ⟨h.os,h.tape,h.output,?_,fun k hk hr=>?_⟩;·simpa using h.size
 have hne:k≠g:=fun e=>hr (by rw[e]);rw[<- h.block k hk hr];exact Ij w1 ⟨g,j,none⟩ v k hne
theorem fu.XQ {w0 w:World} {c:Nat} {a:Option Addr} {len cap:Nat} (h:fu w0 w c a len cap) (x:Int):fu w0 (w.setCell ⟨c,2,none⟩ (.int .i64 x)) c a len cap:=by
 obtain ⟨k,y,hk,c0,c1,c2⟩:=h.cur.cells;refine ⟨h.au.setCell (p:=⟨c,2,none⟩) h.new _,h.new,⟨by simpa using h.cur.lt,⟨k,x,hk,?_,?_,?_⟩,?_,?_⟩⟩;·rw[gH _ _ _ _ (fun e=>by cases e)];exact c0
 ·rw[gH _ _ _ _ (fun e=>by cases e)];exact c1
 ·exact ov _ _ _ c2
 ·rw[iu];exact h.cur.H5
 rw[iu];exact h.cur.Hm
theorem fu.aly {w0 w:World} {c:Nat} {a:Option Addr} {len cap:Nat} (h:fu w0 w c a len cap) (x:Int) (n:Nat) (hx:x=(n:Int)) (hn:n<=len):fu w0 (w.setCell ⟨c,1,none⟩ (.int .i64 x)) c a len cap:=by
 subst hx;obtain ⟨k,y,hk,c0,c1,c2⟩:=h.cur.cells;refine ⟨h.au.setCell (p:=⟨c,1,none⟩) h.new _,h.new,⟨by simpa using h.cur.lt,⟨n,y,hn,?_,?_,?_⟩,?_,?_⟩⟩;·rw[gH _ _ _ _ (fun e=>by cases e)];exact c0
 ·exact ov _ _ _ c1
 ·rw[gH _ _ _ _ (fun e=>by cases e)];exact c2
 ·rw[iu];exact h.cur.H5
 rw[iu];exact h.cur.Hm
theorem fu.drewN {w0 w:World} {c:Nat} {a:Option Addr} {len cap:Nat} (h:fu w0 w c a len cap) (n:Nat):fu w0 (w.drewN n) c a len cap:=h.below ⟨rfl,rfl,rfl,av _,fun _ _=>rfl⟩
theorem af2 (n:Int):bits .and .i64 n 255=n % 256:=by
 have al2:(BitVec.ofInt 64 255).toNat=2 ^ 8-1:=by decide
 have key:(BitVec.ofInt 64 n &&& BitVec.ofInt 64 255).toNat=(n % ((2 ^ 64:Nat):Int)).toNat % 2 ^ 8:=by rw[BitVec.toNat_and,BitVec.toNat_ofInt,al2,Nat.and_two_pow_sub_one_eq_mod]
 show IntKind.i64.wrap ((BitVec.ofInt 64 n &&& BitVec.ofInt 64 255).toNat:Nat)=n % 256
 rw[key,Be];omega
theorem CR {w0 w:World} {c:Nat} {a:Option Addr} {len cap:Nat} (hcode:oU w0 a len) (h:fu w0 w c a len cap) (hlen:len<=1048576):Calls prog 75 #[.pointer (some ⟨c,0,none⟩)] w fun e w'=>(∃ x:Int,0<=x/\x<256/\e=.returned (.int .i64 x))/\fu w0 w' c a len cap/\w.grownBy w' (some c):=by
 obtain ⟨k,y,hk,c0,c1,c2⟩:=h.cur.cells;have f1:=h.cur.H5;have f2:=h.cur.Hm;have hlt:=h.cur.lt;have ha:=af2;by_cases hkl:k<len
 ·obtain ⟨b,off,z,rfl,hb,z0,z1,hz⟩:=hcode k hkl;have hne:b≠c:=by have:=h.new;omega
  have hz2:∀ v,(w.setCell ⟨c,2,none⟩ v).cell? ⟨b,off+k,none⟩=some (.int .u8 z):=fun v=>by rw[gH _ _ _ _ (fun e=>hne (uR e).1.symm),h.au.cell (p:=⟨b,off+k,none⟩) hb];exact hz
  have e1:(0:Int)<=(k:Int):=by omega
  have e2:(k:Int)<(len:Int):=by omega
  clear hz;go_enter func75,ntmps75;go_wp2;go_quiet (fail);go_wp2;go_quiet (fail);go_wp2;go_quiet (fail);go_wp2;go_ret;exact ⟨⟨_,by omega,by omega,rfl⟩,((h.XQ _).drewN _).aly _ (k+1) (by omega) (by omega),Kw (Kv (Kw (Tw _ _) _) _) _⟩
 go_enter func75,ntmps75;go_wp2;go_quiet (fail);go_wp2;go_quiet (fail);go_wp2;go_ret;exact ⟨⟨_,by omega,by omega,rfl⟩,((h.XQ _).drewN _).drewN _,Kv (Kv (Kw (Tw _ _) _) _) _⟩
theorem Tz {w0 w:World} {c:Nat} {a:Option Addr} {len cap:Nat} (hcode:oU w0 a len) (h:fu w0 w c a len cap) (hlen:len<=1048576) (n:Int) (h0:0<n) (h1:n<=2147483648):Calls prog 29 #[.pointer (some ⟨c,0,none⟩),.int .i64 n] w fun e w'=>(∃ x:Int,0<=x/\x<n/\e=.returned (.int .i64 x))/\fu w0 w' c a len cap/\w.grownBy w' (some c):=by
 have h0':¬ n<=0:=by omega
 by_cases h2:n<=256
 ·go_enter func29,ntmps29;go_wp2_with (go_at_call 75;refine (CR hcode h hlen).mono ?_;rintro e w1 ⟨⟨x,x0,x1,rfl⟩,s1,g1⟩);go_ret;exact ⟨⟨_,Int.emod_nonneg _ (by omega),Int.emod_lt_of_pos _ h0,rfl⟩,s1,g1⟩
 go_enter func29,ntmps29;go_wp2_with (first
  | (go_at_call 75;refine (CR hcode s3 hlen).mono ?_;rintro e w4 ⟨⟨x4,x40,x41,rfl⟩,s4,g4⟩)
  | (go_at_call 75;refine (CR hcode s2 hlen).mono ?_;rintro e w3 ⟨⟨x3,x30,x31,rfl⟩,s3,g3⟩)
  | (go_at_call 75;refine (CR hcode s1 hlen).mono ?_;rintro e w2 ⟨⟨x2,x20,x21,rfl⟩,s2,g2⟩)
  | (go_at_call 75;refine (CR hcode h hlen).mono ?_;rintro e w1 ⟨⟨x1,Hp,uN,rfl⟩,s1,g1⟩))
 go_ret;exact ⟨⟨_,Int.emod_nonneg _ (by omega),Int.emod_lt_of_pos _ h0,rfl⟩,s4,Ku (Ku (Ku g1 g2) g3) g4⟩
structure sW (w:World) (l n:Nat) (Q:Value->Prop):Prop where
 lt:l<w.heap.size
 cell:∀ j,j<n->∃ v,Q v/\w.cell? ⟨l,j,none⟩=some v
theorem sW.grown {w w':World} {l n c:Nat} {Q:Value->Prop} (h:sW w l n Q) (hg:w.grownBy w' (some c)) (hne:l≠c):sW w' l n Q:=
 ⟨cv h.lt hg.size,fun j hj=>by obtain ⟨v,hv,hc⟩:=h.cell j hj;refine ⟨v,hv,?_⟩;rw[mv (a:=⟨l,j,none⟩) (hg.block l h.lt (fun e=>hne (gw e)))];exact hc⟩
theorem sW.new (w:World) (C:Array Value) (T:TypeId) (Q:Value->Prop) (h:∀ j (hj:j<C.size),Q C[j]):sW (w.alloc (.cells C T)) w.heap.size C.size Q:=⟨by show _<(w.heap.push _).size;simp,fun j hj=>⟨C[j],h j hj,by rw[uQ,ama hj]⟩⟩
def CS (zs:List Int) (v:Value):Prop:=∃ z ∈ zs,v=.int .i64 z
theorem Ga {w0 w:World} {c l n cp:Nat} {a:Option Addr} {len cap:Nat} (zs:List Int) (hcode:oU w0 a len) (h:fu w0 w c a len cap) (hlen:len<=1048576) (hof:sW w l n (CS zs)) (hne:l≠c) (h0:0<n) (h1:n<=100):Calls prog 14 #[ao c 0,aH l n cp] w fun e w'=>(∃ z ∈ zs,e=.returned (.int .i64 z))/\fu w0 w' c a len cap/\w.grownBy w' (some c):=by go_enter func14,ntmps14;go_wp2_with (go_at_call 29;refine (Tz hcode h hlen (n:Int) (by omega) (by omega)).mono ?_;rintro e w1 ⟨⟨x,x0,x1,rfl⟩,s1,g1⟩;obtain ⟨j,rfl⟩:∃ j:Nat,x=(j:Int):=⟨x.toNat,by omega⟩;obtain ⟨v,⟨z,hz,rfl⟩,hc⟩:=(hof.grown g1 hne).cell j (by omega));go_ret;exact ⟨⟨z,hz,rfl⟩,s1,g1⟩
theorem Gb (w:World) (T:TypeId):∀ (zs:List Int),sW (w.alloc (.cells (zs.map (Value.int .i64)).toArray T)) w.heap.size (zs.map (Value.int .i64)).toArray.size (CS zs):=fun zs=>sW.new w _ T (CS zs) (fun j hj=>by
 have hj':j<zs.length:=by simpa using hj
 exact ⟨zs[j],ny hj',by simp⟩)
def ku:ByteArray:=⟨#[97,108,108,32,116,104,101,32,98,121,116,101,115,32,116,104,97,116,32,97,32,102,105,108,101,32,109,97,121,32,104,97,118,101,44,32,97,110,100,32,115,111,109,101,32,109,111,114,101,32,111,102,32,116,104,101,109,44,32,115,111,32,116,104,97,116,32,105,116,32,103,111,101,115,32,111,118,101,114,32,112,97,103,101,115,59,32,97,108,108,32,116,104,101,32,98,121,116,101,115,32,116,104,97,116,32,97,32,102,105,108,101,32,109,97,121,32,104,97,118,101,44,32,97,110,100,32,115,111,109,101,32,109,111,114,101,32,111,102,32,116,104,101,109,44,32,115,111,32,116,104,97,116,32,105,116,32,103,111,101,115,32,111,118,101,114,32,112,97,103,101,115,32,97,110,100,32,101,110,100,115,59,32,97,110,100,32,98,101,104,105,110,100,46,46,46,46,46,46,46]⟩
theorem TA (n:Int) (h0:0<=n) (h1:n<=10000):(Lit.int .i64 n).wf=true:=by simp[Lit.wf,IntKind.min,IntKind.max,IntKind.signed,IntKind.bits];omega
theorem af3 {w0 w:World} {c:Nat} {a:Option Addr} {len cap:Nat} (hcode:oU w0 a len) (h:fu w0 w c a len cap) (hlen:len<=1048576):Calls prog 13 #[ao c 0] w fun e w'=>(∃ z ∈ ([0,5,32,33,100,160,192,193,70]:List Int),e=.returned (.string (aX ku 0 z)))/\fu w0 w' c a len cap/\(w.heap.size<=w'.heap.size/\∀ k,k<w.heap.size->k≠c->w'.heap[k]? = w.heap[k]?):=by
 have hc:=h.cur.lt;have hp:=Ga (n:=9) [0,5,32,33,100,160,192,193,70] hcode (h.below ((aQ _ _).alloc (av _) (.cells #[aa 0,aa 5,aa 32,aa 33,aa 100,aa 160,aa 192,aa 193,aa 70] 3))) hlen (cp:=9) (Gb w 3 [0,5,32,33,100,160,192,193,70]) (by omega) (by decide) (by decide);have HP:Hid (∀ z W,z ∈ ([0,5,32,33,100,160,192,193,70]:List Int)->_):=fun z W hz=>pM ku 0 z W (by decide +kernel) (by decide) (TA z (by simp at hz;omega) (by simp at hz;omega));have nb:=aA w (.cells #[aa 0,aa 5,aa 32,aa 33,aa 100,aa 160,aa 192,aa 193,aa 70] 3);go_enter func13,ntmps13;go_wp2_with (first
  | (go_at_call 14;refine hp.mono ?_;rintro e w1 ⟨⟨z,hz,rfl⟩,s1,g1⟩)
  | (go_at_call 12;refine kZ (show Calls prog 12 _ _ _ from HP.out z w1 hz) ?_;rintro e w2 ⟨rfl,hw2⟩;subst w2))
 go_ret;refine ⟨⟨z,hz,rfl⟩,s1,br nb.size g1.size,fun k hk hn=>?_⟩;exact (g1.block k (cv hk nb.size) (fun e=>hn (gw e))).trans (nb.block k hk)
theorem TB {w:World} {a:Option Addr} {len cap:Nat} (x:Int) (T:TypeId):fu w (w.alloc (.cells #[.slice a len cap,.int .i64 0,.int .i64 x] T)) w.heap.size a len cap:=by
 refine ⟨(aQ _ _).alloc (av _) _,av _,⟨by show _<(w.heap.push _).size;simp,⟨0,x,bh _,?_,?_,?_⟩,?_,?_⟩⟩;·rw[uQ];rfl
 ·rw[uQ];rfl
 ·rw[uQ];rfl
 ·have:=DO w #[.slice a len cap,.int .i64 0,.int .i64 x] T 0 0 1;rw[this];simp
 have:=DO w #[.slice a len cap,.int .i64 0,.int .i64 x] T 0 0 2;rw[this];simp
theorem af4 {w:World} {a:Option Addr} {len cap:Nat} (hcode:oU w a len) (hlen:len<=1048576):Calls prog 10 #[.slice a len cap] w fun e w'=>∃ c,e=.returned (.pointer (some ⟨c,0,none⟩))/\fu w w' c a len cap:=by
 go_enter func10,ntmps10;go_wp2;go_loop [3,4] (fun t i=>∃ (k:Nat) (x:Int),k<=len/\i=.int .i64 k/\t=.int .i64 x) (fun _ i=>len-(intOf i).toNat)
 case atStart=>exact ⟨0,_,bh _,rfl,rfl⟩
 case round=>
 obtain ⟨k,x,hk,rfl,rfl⟩:=hrel;by_cases hlt:k<len
 ·have e1:(0:Int)<=(k:Int):=by omega
  have e2:(k:Int)<(len:Int):=by omega
  obtain ⟨b,off,z,rfl,hb,z0,z1,hz⟩:=hcode k hlt;by_cases h4:(k:Int)<4000
  ·go_wp2;go_round;case rel=>exact ⟨k+1,_,by omega,by go_num,rfl⟩
   case measure=>simp[intOf];omega
  have h4':decide ((k:Int)<4000)=false:=by simpa using h4
  go_wp2;go_ret;exact ⟨_,rfl,TB _ _⟩
 have hf:decide ((k:Int)<(len:Int))=false:=by simp;omega
 go_wp2;go_ret;exact ⟨_,rfl,TB _ _⟩
end Go.Proofs.YtgpfmgaidbjcpaaGreatDoor
