/- The contract of laws.markText, as the given laws call it. -/
import Derived.Test.YtjajclifjojblaaDoorRows
import Derived.Test.YtjajclifjojblaaDoorLib0
import Derived.Test.YtjajclifjojblaaDoorDec0
import Derived.ProofKit
import Derived.Handy
namespace Go.Proofs.YtjajclifjojblaaDoor.M1
open Go.ChangeShapes Go.WideShapes Go.ChangeAt Go.RowKit
set_option linter.unusedVariables false
set_option linter.unusedSimpArgs false

/-- The text of a mark. -/
def mt (k : Nat) : ByteArray := ⟨(109 :: D0.dd k).toArray⟩

theorem conv1 (x : Int) (hx : 0 ≤ x ∧ x < 256) (w : World) :
    (convert 49 9 (.slice (some ⟨w.heap.size, 0, none⟩) 1 1)).run Tryd.prog (w.alloc (.cells #[.int .u8 x] 5)) = .ok (.string ⟨#[UInt8.ofNat x.toNat]⟩) (w.alloc (.cells #[.int .u8 x] 5)) :=
  B0.conv_back _ 49 9 5 _ 0 1 [UInt8.ofNat x.toNat] Tryd.underlying49 Tryd.underlying5 Tryd.underlying9
    (B0.holds_new _ _ _ _ _ fun j hj => by
      obtain rfl : j = 0 := by simpa using hj
      have : x.toNat < 256 := by omega
      simp [Nat.mod_eq_of_lt this]
      omega) 1 rfl

theorem dig_of (u : Nat) : (⟨#[UInt8.ofNat (48 + (u : Int) % 10).toNat]⟩ : ByteArray) = D0.dig ((u : Int) % 10) := by
  rw [D0.dig, show (48 + (u : Int) % 10).toNat = 48 + ((u : Int) % 10).toNat by omega]

theorem ret_m (v : Nat) : Ending.returned (.string (⟨#[109]⟩ ++ ⟨(D0.dd v).toArray⟩)) = Ending.returned (.string (mt v)) := by
  congr 2

end Go.Proofs.YtjajclifjojblaaDoor.M1
