/- What reads reads, and what it shows. -/
import Derived.Test.YtfbddgpekbhpfaaDoorQf
set_option linter.unusedSimpArgs false
set_option linter.unusedVariables false
namespace Go.Proofs.YtfbddgpekbhpfaaDoor
open Go.RowKit

def readL : List UInt8 := [32, 123, 34, 98, 34, 58, 32, 91, 49, 44, 32, 110, 117, 108, 108, 93, 44, 32, 34, 97, 34, 58, 32, 34, 120, 92, 117, 48, 48, 52, 49, 34, 125]
def shownL : List UInt8 := [123, 34, 97, 34, 58, 34, 120, 65, 34, 44, 34, 98, 34, 58, 91, 49, 44, 110, 117, 108, 108, 93, 125]
theorem read_ok : (parseS readL).2 = 0 := by decide +kernel
theorem shown_ok : printR 2003 (parseS readL).1 = (shownL, 0) := by decide +kernel

end Go.Proofs.YtfbddgpekbhpfaaDoor
