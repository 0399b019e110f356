/- A text more in a row of the call's own. -/
import Derived.Test.YtkboplcffailoaaDoorSj
import Derived.Deep.AppendLies
set_option linter.unusedSimpArgs false
set_option linter.unusedVariables false
namespace Go.Proofs.YtkboplcffailoaaDoor
open Go.RowKit

theorem run_pushS {W : World} {B : Nat} {v : Value} {n : Nat} {cs : List Value} {nb : Nat} {k : ByteArray} (ho : W.ownsRow B 9 1 v n cs) (hnb : W.heap[nb]? = some (.cells #[.string k] 9)) (hn : n ≤ 1000000) (hB : B ≤ W.heap.size) (ty : TypeId) :
    ∃ g cap W', (Builtin.append_ #[22, 22] ty #[v, .slice (some ⟨nb, 0, none⟩) 1 1]).run Tryd.prog W = .ok (.slice (some ⟨g, 0, none⟩) (n + 1) cap) W' ∧ W'.ownsRow B 9 1 (.slice (some ⟨g, 0, none⟩) (n + 1) cap) (n + 1) (cs ++ [.string k]) ∧ W.grownBy W' v.ownBlock ∧ (v.ownBlock = some g ∨ W.heap.size = g) := by
  obtain ⟨i0, hi, hz0, hz1, hz2⟩ := info_parts info9
  obtain ⟨g, cap, W', hr, h1, h2, h3, -⟩ := run_append_lies (P := Tryd.prog) W 22 ty B 9 i0 _ 1 16 Tryd.underlying22 hi hz0 hz1 hz2 rfl (by decide) v n cs ho ⟨nb, 0, none⟩ 1 1 [.string k] rfl
    (World.news_of_block (cs := #[.string k]) hnb) (by intro u hu; simp only [List.mem_cons, List.not_mem_nil, or_false] at hu; subst hu; rfl) (by decide) (by unfold maxLen; omega) (by omega) hB W.heap.size rfl
  exact ⟨g, cap, W', hr, h1, h2, h3.imp id Eq.symm⟩
theorem gb_far {a w w' : World} {r : Option Nat} (hb : Below a.heap.size a w) (hg : w.grownBy w' r) (hr : ∀ g, r = some g → a.heap.size ≤ g) : Below a.heap.size a w' :=
  ⟨hg.os.trans hb.os, hg.tape.trans hb.tape, hg.output.trans hb.output, Nat.le_trans hb.size hg.size, fun k hk => (hg.block k (Nat.lt_of_lt_of_le hk hb.size) (fun e => by have := hr k e.symm; omega)).trans (hb.block k hk)⟩
end Go.Proofs.YtkboplcffailoaaDoor
