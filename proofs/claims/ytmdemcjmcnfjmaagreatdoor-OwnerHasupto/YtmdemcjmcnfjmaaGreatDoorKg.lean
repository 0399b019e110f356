/- What the rows share: the listed variables, a world for the witness. -/
import Derived.Test.YtmdemcjmcnfjmaaGreatDoorCards
import Derived.Test.YtmdemcjmcnfjmaaGreatDoorTie
import Derived.Test.YtmdemcjmcnfjmaaGreatDoorKw
import Derived.WalkKit
import Derived.ProofKit
import Derived.OpenShut
import Derived.ShutString
import Derived.Deep.DeepHandedRow
import Derived.Deep.DeepWitnessRowRef
import Derived.Lib.LaidTab
import Derived.Stop.LaidErr
import Derived.SevenTiedAt
import Derived.SizedLaws
set_option linter.unusedSimpArgs false
set_option linter.unusedVariables false
namespace Go.Proofs.YtmdemcjmcnfjmaaGreatDoor
open Go.ChangeShapes Go.WideShapes Go.ChangeAt Go.RowKit

theorem var_block {P : Program} {W : World} {name : String} {cs : Array Value} {g : Nat} (hg : P.globalNamed name = some g) (h : W.var? P name = some cs) : ∃ t f, W.heap[g]? = some (.cells cs t f) := by
  unfold World.var? at h
  rw [hg] at h
  simp only [Option.bind_some] at h
  split at h
  · rename_i cs' t f e
    cases h
    exact ⟨t, f, e⟩
  · cases h
/- A world for the witness: the settled one, the listed variables holding what their texts lay. -/
def tabCells : DataW Unit → Array Value
  | .agg l => (l.map fun | .lit (.int k z) => Value.int k z | _ => .int .u8 0).toArray
  | _ => #[]
def errText : DataW Unit → Value
  | .iface _ (.ptr (.agg [.lit (.string l)])) => .string ⟨l.toArray⟩
  | _ => .string ⟨#[]⟩
noncomputable def low : Nat := (World.holding Tryz.prog default ⟨#[], #[], []⟩).heap.size
def putAt (h : Array Obj) (g : Nat) (cs : Array Value) : Array Obj := h.modify g fun
  | .cells _ t frozen => .cells cs t frozen
  | o => o
def flatCells : DataW Unit → Array Value
  | .agg l => (l.flatMap fun | .agg m => m.map (fun | .lit (.int k z) => Value.int k z | _ => .int .u8 0) | .lit (.int k z) => [Value.int k z] | _ => []).toArray
  | _ => #[]
end Go.Proofs.YtmdemcjmcnfjmaaGreatDoor
