/- Joined texts: plain facts and contracts, as each part says. -/
import Derived.Test.YtacalabjclclhaaJvC

/- The contract of impl.Verdict, as the given laws call it. -/
namespace Go.Proofs.Ytacalabjclclhaa.E7
open Go.ChangeShapes Go.WideShapes Go.ChangeAt Go.RowKit
set_option linter.unusedVariables false
set_option linter.unusedSimpArgs false
set_option maxRecDepth 10000

open N0 (Ln)
open N1 (Sl Lists Fit)
open N7 (tv tObj)

theorem impl_Verdict (mem : ByteArray) (d : Ln) (s : Sl) (w : World) (hms : mem.size ≤ 281474976710656) (hF : Fit d s) (hpo : d.po.length ≤ 1048576) (hfr : d.fr.length ≤ 1048576) (hR : Lists w d s) :
    Calls Try.prog 69 #[.string mem, N1.val d s] w fun e w' => e = .returned (.bool (D6.verdict mem d)) ∧ Below w.heap.size w w' := by
  have l0 := K0.below_new w (.cells #[.int .i64 d.ino, .int .i64 d.cl, .int .i64 d.un, .string d.rc, .slice s.a1 d.pg.length s.c1, .string d.sav, .slice s.a2 d.po.length s.c2, .slice s.a3 d.fr.length s.c3] 67)
  have HK : Hid (∀ W, Below w.heap.size w W → Calls Try.prog 126 #[.string mem, N1.val d s] W fun e w' => ∃ (k o t : Int) (a : Option Addr) (n c : Nat) (ae : Option Addr) (ne ce : Nat) (d' : Ln) (s' : Sl) (be : Option Addr) (n2 c2 : Nat), e = .returned (.tuple #[tv k o t a n c ae ne ce d' s', .slice be n2 c2, .bool (D6.verdict mem d)]) ∧ Below W.heap.size W w') := fun W hb => (D6.lookBack mem d s W hms hF hpo hfr (hR.below hb)).mono fun e w' ⟨k, o, t, a, n, c, ae, ne, ce, d', s', be, n2, c2, he, hb, _⟩ => ⟨k, o, t, a, n, c, ae, ne, ce, d', s', be, n2, c2, he, hb⟩
  clear hR hF
  go_enter Try.func69, Try.ntmps69
  go_wp2_with (go_at_call 126; refine (HK.out _ l0).mono ?_; rintro e w1 ⟨k, o, t, a, n, c, ae, ne, ce, d', s', be, n2, c2, rfl, b1⟩)
  go_ret
  exact ⟨rfl, (l0.trans (b1.mono l0.size)).alloc (Nat.le_trans l0.size b1.size) _⟩
end Go.Proofs.Ytacalabjclclhaa.E7
