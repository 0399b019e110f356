/- What is said of With. -/
import Derived.Test.YtkboplcffailoaaDoorCo
import Derived.Test.YtkboplcffailoaaDoorCh
set_option linter.unusedSimpArgs false
set_option linter.unusedVariables false
namespace Go.Proofs.YtkboplcffailoaaDoor
open Go.RowKit

/- What is said of With. -/
def WithC : Prop := ∀ (w : World) (ok : Nat → Prop) (d : Nat) (t x : V) (v xv : Value) (key : List UInt8), VIs w ok (d + 1) t v → VIs w ok d x xv → pairedV t = true → t.l.length ≤ 100000 → key.length ≤ maxLen →
    Calls Tryd.prog 53 #[v, str key, xv] w fun e w' => ∃ r, e = .returned r ∧ VIs w' (okN ok w.heap.size) (d + 1) (withV t key x) r ∧ Below w.heap.size w w'

end Go.Proofs.YtkboplcffailoaaDoor
