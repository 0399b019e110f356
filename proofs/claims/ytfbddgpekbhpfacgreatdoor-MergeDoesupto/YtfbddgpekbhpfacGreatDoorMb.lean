/- Merge of two values: what it is made of, in memory. -/
import Derived.Test.YtfbddgpekbhpfacGreatDoorMa
import Derived.Test.YtfbddgpekbhpfacGreatDoorXa
set_option linter.unusedSimpArgs false
set_option linter.unusedVariables false
namespace Go.Proofs.YtfbddgpekbhpfacGreatDoor
open Go.RowKit

theorem In.key {w : World} {ok : Nat → Prop} {t : V} {k n s ls : Value} {a : Option Addr} {m c i : Nat} (h : In w ok t (.agg #[k, n, s, .slice a m c, ls])) (hi : i < t.keys.length) :
    ∃ b off, a = some ⟨b, off, none⟩ ∧ t.keys.length ≤ c ∧ c ≤ 9223372036854775807 ∧ w.cell? ⟨b, off + i, none⟩ = some (.string ⟨t.keys[i].toArray⟩) ∧ t.keys[i].length ≤ 9223372036854775807 := by
  obtain ⟨d, h⟩ := h.at
  obtain ⟨ks', ls', e, -, -, -, h4, -⟩ := h
  simp only [Value.agg.injEq, Array.mk.injEq, List.cons.injEq, and_true] at e
  obtain ⟨-, -, -, rfl, -⟩ := e
  obtain ⟨-, h4⟩ := h4
  rcases h4 with ⟨e, _⟩ | ⟨b, off, c', e, h1, h2, hcs⟩
  · rw [e] at hi; simp at hi
  · simp only [Value.slice.injEq] at e
    obtain ⟨rfl, -, rfl⟩ := e
    obtain ⟨g1, -, g3⟩ := hcs i t.keys[i] (List.getElem?_eq_getElem hi)
    exact ⟨b, off, rfl, h1, h2, g3, g1⟩
theorem member_was (w : World) (ok : Nat → Prop) (t : V) (v : Value) (key : List UInt8) (h : In w ok t v) :
    Calls Tryz.prog 23 #[v, str key] w fun e w' => ∃ x, e = .returned (.tuple #[x, .bool (memV t key).isSome]) ∧ Below w.heap.size w w' ∧ In w' ok ((memV t key).getD zeroT) x := by
  obtain ⟨d, h⟩ := h
  refine (member_at w ok d t v key h).mono ?_
  rintro e w' ⟨x, b, rfl, hb, hm⟩
  cases hq : memV t key with
  | none => rw [hq] at hm; rw [hm.1, hm.2]; exact ⟨_, rfl, hb, in_zero w' ok⟩
  | some y => rw [hq] at hm; rw [hm.1]; exact ⟨_, rfl, hb, hm.2.is⟩
theorem sto_out {w w1 : World} {ok : Nat → Prop} {C : Nat} {t : V} {g : Nat} {v0 v1 v2 v3 v4 : Value} (h : In w1 (lowN ok w.heap.size C) t (.agg #[v0, v1, v2, v3, v4])) (hb : Below w.heap.size w w1) (hg : w.heap.size ≤ g) (hC : g < C) :
    Below w.heap.size w (set5 w1 g v0 v1 v2 v3 v4) ∧ In (set5 w1 g v0 v1 v2 v3 v4) (okN ok w.heap.size) t (.agg #[v0, v1, v2, v3, v4]) :=
  ⟨bel_set5 hb hg _ _ _ _ _, (h.box hg hC _ _ _ _ _).weak (lowN_out (by omega))⟩
theorem be0 {w W : World} (e1 : W.heap = w.heap) (e2 : W.os = w.os) (e3 : W.tape = w.tape) (e4 : W.output = w.output) : Below w.heap.size w W := ⟨e2, e3, e4, by rw [e1]; exact Nat.le_refl _, fun k _ => by rw [e1]⟩
theorem lowN_up {ok : Nat → Prop} {B C H : Nat} (h : C ≤ H) : ∀ k, okN (lowN ok B C) H k → lowN ok B C k := by
  intro k hk
  rcases hk with hk | hk
  · exact hk
  · exact .inr (by omega)
/- On the way through the members. -/
theorem fold_len {f : V → V → V} : ∀ (ps : List (List UInt8 × V)) (v : V), (ps.foldl (stepM f) v).l.length ≤ v.l.length + ps.length
  | [], v => by simp
  | p :: ps, v => by
    have h1 := fold_len (f := f) ps (stepM f v p)
    have h2 : (stepM f v p).l.length ≤ v.l.length + 1 := by
      unfold stepM
      split
      · have := without_items v p.1; omega
      · exact with_items _ _ _
    rw [List.foldl_cons, List.length_cons]; omega
theorem objOf_len {v : V} (h : Nice v) : (objOf v).l.length ≤ 120 := by
  unfold objOf
  split
  · exact nice_len h
  · simp [objT]
theorem zip_at {a : List (List UInt8)} {b : List V} {k : Nat} (h : k < a.length) (h' : k < b.length) : (a.zip b)[k]'(by rw [List.length_zip]; omega) = (a[k], b[k]) := by simp
theorem zip_step {β : Type} {g : β → List UInt8 × V → β} {a : List (List UInt8)} {b : List V} {k : Nat} {v : β} (h : k < a.length) (h' : k < b.length) : ((a.zip b).take (k + 1)).foldl g v = g (((a.zip b).take k).foldl g v) (a[k], b[k]) := by
  rw [List.take_succ_eq_append_getElem (by rw [List.length_zip]; omega), List.foldl_append, zip_at h h']; rfl
theorem take_keys {a : List (List UInt8)} {b : List V} {k : Nat} (hd : a.Nodup) (h : k < a.length) : ∀ p ∈ (a.zip b).take k, p.1 ≠ a[k] := by
  intro p hp e
  have ez : (a.zip b).take k = (a.take k).zip (b.take k) := by simp [List.zip, List.take_zipWith]
  rw [ez] at hp
  have h1 := (List.of_mem_zip hp).1
  rw [e] at h1
  obtain ⟨i, hi⟩ := List.getElem?_of_mem h1
  rw [List.getElem?_take] at hi
  split at hi
  · rename_i hik
    have h2 := (List.getElem?_eq_some_iff.1 hi)
    exact List.pairwise_iff_getElem.1 hd i k h2.1 h hik h2.2
  · cases hi
theorem merge_at {E : Nat} {v p : V} {k : Nat} (hv : Nice v) (op : Ob p) (hk : k < p.keys.length) :
    Ob (((p.keys.zip p.l).take k).foldl (stepM (mergeF E)) (objOf v)) ∧ memV (((p.keys.zip p.l).take k).foldl (stepM (mergeF E)) (objOf v)) p.keys[k] = memV (objOf v) p.keys[k] := by
  have o0 := ob_objOf (nice_ob hv)
  exact ⟨fold_ob (stepM_ob _) _ _ o0, fold_far (stepM_ob _) (stepM_far _) _ _ o0 (take_keys (rises_nodup op.2.2.2.2) hk)⟩
theorem merge_len {E : Nat} {v p : V} {k : Nat} (hv : Nice v) (hp : Nice p) : (((p.keys.zip p.l).take k).foldl (stepM (mergeF E)) (objOf v)).l.length ≤ 240 := by
  have h1 := fold_len (f := mergeF E) ((p.keys.zip p.l).take k) (objOf v)
  have h2 := objOf_len hv
  have h3 := nice_len hp
  have h4 : ((p.keys.zip p.l).take k).length ≤ p.l.length := by rw [List.length_take, List.length_zip]; omega
  omega
end Go.Proofs.YtfbddgpekbhpfacGreatDoor
