/- Helpers for worlds and rows. -/
import Derived.Test.YtmdemcjmcnfjmaaGreatDoorCl
set_option linter.unusedSimpArgs false
set_option linter.unusedVariables false
namespace Go.Proofs.YtmdemcjmcnfjmaaGreatDoor
open Go.RowKit

theorem own_base {w : World} {base base' : Nat} {e : TypeId} {size : Nat} {v : Value} {n : Nat} {xs : List Value} (h : w.ownsRow base e size v n xs) (hb : base' ≤ base) : w.ownsRow base' e size v n xs := by
  refine ⟨h.1, ?_⟩
  rcases h.2 with h | ⟨g, cap, cur, e1, h1, h2⟩
  · exact .inl h
  · exact .inr ⟨g, cap, cur, e1, Nat.le_trans hb h1, h2⟩
theorem bd0 (w : World) : Below w.heap.size w w.drew := (Below.refl _ w).drew
theorem bd1 (w : World) (o : Obj) : Below w.heap.size w (w.alloc o).drew := (bel_alloc w o).drew
theorem bd2 (w : World) (o o' : Obj) : Below w.heap.size w ((w.alloc o).alloc o').drew := (bel_trans (bel_alloc w o) (bel_alloc _ o')).drew
theorem h3a (w : World) (o1 o2 o3 : Obj) : (((w.alloc o1).alloc o2).alloc o3).heap[w.heap.size]? = some o1 := by
  have := World.grownBy_alloc ((w.alloc o1).alloc o2) o3 none
  rw [this.block _ (by simp; omega) (by simp)]; exact h2a w o1 o2
theorem h3b (w : World) (o1 o2 o3 : Obj) : (((w.alloc o1).alloc o2).alloc o3).heap[w.heap.size + 1]? = some o2 := by
  have := World.grownBy_alloc ((w.alloc o1).alloc o2) o3 none
  rw [this.block _ (by simp) (by simp)]; exact h2b w o1 o2
theorem h3c (w : World) (o1 o2 o3 : Obj) : (((w.alloc o1).alloc o2).alloc o3).heap[w.heap.size + 2]? = some o3 := by
  have := heap_alloc_new ((w.alloc o1).alloc o2) o3
  simpa using this
theorem one5 (k n : Int) (s : ByteArray) (a1 a2 : Option Addr) (l1 c1 l2 c2 : Nat) : ∀ u ∈ [Value.int .i64 k, .int .i64 n, .string s, .slice a1 l1 c1, .slice a2 l2 c2], u.oneCell' = true := by
  intro u hu
  simp only [List.mem_cons, List.not_mem_nil, or_false] at hu
  rcases hu with rfl | rfl | rfl | rfl | rfl <;> rfl
theorem gb_setA {a w : World} {r : Option Nat} {g : Nat} (h : a.grownBy w r) (hg : a.heap.size ≤ g) (i : Nat) (v : Value) : a.grownBy (w.setCell ⟨g, i, none⟩ v) r := by
  have k : w.grownBy (w.setCell ⟨g, i, none⟩ v) (some g) := gb_set (gb_refl _ _) _ _
  exact ⟨k.os.trans h.os, k.tape.trans h.tape, k.output.trans h.output, Nat.le_trans h.size k.size, fun j hj hr => (k.block j (Nat.lt_of_lt_of_le hj h.size) (fun e => by cases e; omega)).trans (h.block j hj hr)⟩
theorem own_kept' {w w' : World} {B b : Nat} {e : TypeId} {size : Nat} {v : Value} {n : Nat} {xs : List Value} (h : w.ownsRow B e size v n xs) (hg : w.grownBy w' (some b)) (hb : b < B) : w'.ownsRow B e size v n xs := by
  refine h.kept hg ?_
  cases hv : v.ownBlock with
  | none => exact .inl rfl
  | some k =>
    right
    intro e
    cases e
    have := (h.lt b hv).1
    omega
def okN (ok : Nat → Prop) (B : Nat) : Nat → Prop := fun k => ok k ∨ B ≤ k
theorem VIs.toN {w : World} {ok : Nat → Prop} {d B : Nat} {t : V} {v : Value} (h : VIs w ok d t v) : VIs w (okN ok B) d t v := h.weak fun k hk => .inl hk
theorem RowV.bel {w w' : World} {ok : Nat → Prop} {d B : Nat} {xs : List V} {cs : List Value} (h : RowV (VIs w ok d) xs cs) (hb : Below w.heap.size w w') : RowV (VIs w' (okN ok B) d) xs cs := h.imp fun _ _ h => (h.bel hb).toN

end Go.Proofs.YtmdemcjmcnfjmaaGreatDoor
