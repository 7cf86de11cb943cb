/- Joined texts. -/
import Derived.Test.YtlejhfnjmkdobaaGreatDoorJtR
set_option linter.unusedVariables false
set_option linter.unusedSimpArgs false
set_option maxRecDepth 10000
set_option maxHeartbeats 16000000
namespace Go.Proofs.YtlejhfnjmkdobaaGreatDoor
open ChangeShapes WideShapes ChangeAt RowKit
open Go.Proofs.Tryz
namespace E7
open N0 (Ln)
open N1 (Sl Lists Fit)
open N7 (tv tObj)
theorem impl_Verdict (mem:ByteArray) (d:Ln) (s:Sl) (w:World) (hms:mem.size<=281474976710656) (hF:Fit d s) (hpo:d.po.length<=1048576) (hfr:d.fr.length<=1048576) (hR:Lists w d s) :
  Calls prog 117 #[.string mem,N1.val d s] w (Rb (.bool (D6.verdict mem d)) w):=by
 have l0:=K0.below_new w (.cells (N1.Lc d s) 46)
 have HK:Hid (∀ W,Bq w W->Calls prog 153 #[.string mem,N1.val d s] W fun e w'=>∃ (k o t:Int) (a:Option Addr) (n c:Nat) (ae:Option Addr) (ne ce:Nat) (d':Ln) (s':Sl) (be:Option Addr) (n2 c2:Nat),e=.returned (.tuple #[tv k o t a n c ae ne ce d' s',.slice be n2 c2,.bool (D6.verdict mem d)])/\Bq W w'):=fun W hb=>(D6.lookBack mem d s W hms hF hpo hfr (hR.below hb)).mono fun e w' ⟨k,o,t,a,n,c,ae,ne,ce,d',s',be,n2,c2,he,hb,_⟩=>⟨k,o,t,a,n,c,ae,ne,ce,d',s',be,n2,c2,he,hb⟩
 clear hR hF;go_enter func117,ntmps117
 go_wp2_with (go_at_call 153;refine (HK.out _ l0).mono ?_;rintro e w1 ⟨k,o,t,a,n,c,ae,ne,ce,d',s',be,n2,c2,rfl,b1⟩)
 go_ret;exact ⟨rfl,(l0.trans (b1.mono l0.size)).alloc (Nat.le_trans l0.size b1.size) _⟩
end E7
end Go.Proofs.YtlejhfnjmkdobaaGreatDoor
