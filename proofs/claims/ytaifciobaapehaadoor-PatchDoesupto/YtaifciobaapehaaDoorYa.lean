/- Operations of a patch, plainly; and in memory. -/
import Derived.Test.YtaifciobaapehaaDoorXp
import Derived.Test.YtaifciobaapehaaDoorWa
import Derived.Test.YtaifciobaapehaaDoorXa
set_option linter.unusedSimpArgs false
set_option linter.unusedVariables false
namespace Go.Proofs.YtaifciobaapehaaDoor
open Go.RowKit

structure OpT where
  kind : Int
  path : List UInt8
  frm : List UInt8
  value : V
def movedR (v : V) (frm dst : List UInt8) : V × Int :=
  if (getR (splitP frm) v).2 ≠ 0 then (v, (getR (splitP frm) v).2)
  else if Lib.hasPrefix dst (frm ++ [47]) = true then (v, 1)
  else if dst = frm then (v, 0)
  else if (changeR removedV (splitP frm) v).2 ≠ 0 then (v, (changeR removedV (splitP frm) v).2)
  else if (layR addedV dst (splitP dst) (changeR removedV (splitP frm) v).1 (getR (splitP frm) v).1).2 ≠ 0 then (v, (layR addedV dst (splitP dst) (changeR removedV (splitP frm) v).1 (getR (splitP frm) v).1).2)
  else ((layR addedV dst (splitP dst) (changeR removedV (splitP frm) v).1 (getR (splitP frm) v).1).1, 0)
def copiedR (v : V) (frm dst : List UInt8) : V × Int :=
  if (getR (splitP frm) v).2 ≠ 0 then (v, (getR (splitP frm) v).2) else layR addedV dst (splitP dst) v (getR (splitP frm) v).1
/- An operation in memory: eight cells. -/
def OpIn (w : World) (ok : Nat → Prop) (o : OpT) (v : Value) : Prop :=
  I64 o.kind ∧ o.path.length ≤ 140737488351232 ∧ o.frm.length ≤ 140737488351232 ∧ ∃ (a7 a8 : Option Addr) (c7 c8 : Nat),
    v = .agg #[.int .i64 o.kind, .string ⟨o.path.toArray⟩, .string ⟨o.frm.toArray⟩, .int .i64 o.value.kind, .int .i64 o.value.n, .string ⟨o.value.s.toArray⟩, .slice a7 o.value.keys.length c7, .slice a8 o.value.l.length c8] ∧
    In w ok o.value (.agg #[.int .i64 o.value.kind, .int .i64 o.value.n, .string ⟨o.value.s.toArray⟩, .slice a7 o.value.keys.length c7, .slice a8 o.value.l.length c8])
theorem OpIn.bel {w w' : World} {ok : Nat → Prop} {o : OpT} {v : Value} (h : OpIn w ok o v) (hb : Below w.heap.size w w') : OpIn w' ok o v := by
  obtain ⟨h1, h2, h3, a7, a8, c7, c8, e, hi⟩ := h
  exact ⟨h1, h2, h3, a7, a8, c7, c8, e, hi.bel hb⟩
theorem OpIn.weak {w : World} {ok ok' : Nat → Prop} {o : OpT} {v : Value} (h : OpIn w ok o v) (hk : ∀ k, ok k → ok' k) : OpIn w ok' o v := by
  obtain ⟨h1, h2, h3, a7, a8, c7, c8, e, hi⟩ := h
  exact ⟨h1, h2, h3, a7, a8, c7, c8, e, hi.weak hk⟩
theorem OpIn.low {w : World} {ok : Nat → Prop} {o : OpT} {v : Value} (h : OpIn w ok o v) : OpIn w (fun k => ok k ∧ k < w.heap.size) o v := by
  obtain ⟨h1, h2, h3, a7, a8, c7, c8, e, hi⟩ := h
  exact ⟨h1, h2, h3, a7, a8, c7, c8, e, hi.low⟩
/- A list of operations in memory. -/
def OpsAre (w : World) (ok : Nat → Prop) (os : List OpT) (v : Value) : Prop :=
  os.length ≤ 9223372036854775807 ∧ (os = [] ∧ (∃ a, v = .slice a 0 0) ∨ ∃ b off c, v = .slice (some ⟨b, off, none⟩) os.length c ∧ os.length ≤ c ∧ c ≤ 9223372036854775807 ∧
    ∀ i o, os[i]? = some o → ∃ v0 v1 v2 v3 v4 v5 v6 v7, ok b ∧ w.cell? ⟨b, off + i * 8, none⟩ = some v0 ∧ w.cell? ⟨b, off + i * 8 + 1, none⟩ = some v1 ∧ w.cell? ⟨b, off + i * 8 + 2, none⟩ = some v2 ∧ w.cell? ⟨b, off + i * 8 + 3, none⟩ = some v3 ∧
      w.cell? ⟨b, off + i * 8 + 4, none⟩ = some v4 ∧ w.cell? ⟨b, off + i * 8 + 5, none⟩ = some v5 ∧ w.cell? ⟨b, off + i * 8 + 6, none⟩ = some v6 ∧ w.cell? ⟨b, off + i * 8 + 7, none⟩ = some v7 ∧ OpIn w ok o (.agg #[v0, v1, v2, v3, v4, v5, v6, v7]))
theorem OpsAre.form {w : World} {ok : Nat → Prop} {os : List OpT} {v : Value} (h : OpsAre w ok os v) : ∃ a c, v = .slice a os.length c := by
  rcases h.2 with ⟨rfl, a, e⟩ | ⟨b, off, c, e, _⟩
  · exact ⟨a, 0, e⟩
  · exact ⟨_, c, e⟩
theorem OpsAre.bel {w w' : World} {ok : Nat → Prop} {os : List OpT} {v : Value} (h : OpsAre w ok os v) (hb : Below w.heap.size w w') : OpsAre w' ok os v := by
  refine ⟨h.1, ?_⟩
  rcases h.2 with h | ⟨b, off, c, e, h1, h2, h3⟩
  · exact .inl h
  · refine .inr ⟨b, off, c, e, h1, h2, fun i o ho => ?_⟩
    obtain ⟨v0, v1, v2, v3, v4, v5, v6, v7, hk, g0, g1, g2, g3, g4, g5, g6, g7, g8⟩ := h3 i o ho
    exact ⟨v0, v1, v2, v3, v4, v5, v6, v7, hk, cell_bel hb g0, cell_bel hb g1, cell_bel hb g2, cell_bel hb g3, cell_bel hb g4, cell_bel hb g5, cell_bel hb g6, cell_bel hb g7, g8.bel hb⟩
end Go.Proofs.YtaifciobaapehaaDoor
