/- With and Without, so told. -/
import Derived.Test.YtaifciobaapehaaDoorXz
import Derived.Test.YtaifciobaapehaaDoorCf
import Derived.Test.YtaifciobaapehaaDoorCw
set_option linter.unusedSimpArgs false
set_option linter.unusedVariables false
namespace Go.Proofs.YtaifciobaapehaaDoor
open Go.RowKit

theorem with_is (w : World) (ok : Nat → Prop) (t x : V) (v xv : Value) (key : List UInt8) (h : In w ok t v) (hx : In w ok x xv) (hp : pairedV t = true) (hl : t.l.length ≤ 100000) (hk : key.length ≤ 9223372036854775807) :
    Calls Tryd.prog 51 #[v, str key, xv] w fun e w' => ∃ r, e = .returned r ∧ In w' (okN ok w.heap.size) (withV t key x) r ∧ Below w.heap.size w w' := by
  obtain ⟨d, h1, h2⟩ := h.two hx
  refine (with_all w ok d t x v xv key h1 h2 hp hl hk).mono ?_
  rintro e w' ⟨r, rfl, hr, hb⟩
  exact ⟨r, rfl, hr.is, hb⟩
theorem without_is (w : World) (ok : Nat → Prop) (t : V) (v : Value) (key : List UInt8) (h : In w ok t v) (hl : t.l.length ≤ 100000) :
    Calls Tryd.prog 57 #[v, str key] w fun e w' => ∃ r, e = .returned r ∧ In w' (okN ok w.heap.size) (withoutV t key) r ∧ Below w.heap.size w w' := by
  obtain ⟨d, h⟩ := h.at
  refine (without_all w ok d t v key h hl).mono ?_
  rintro e w' ⟨r, rfl, hr, hb⟩
  exact ⟨r, rfl, hr.is, hb⟩
end Go.Proofs.YtaifciobaapehaaDoor
