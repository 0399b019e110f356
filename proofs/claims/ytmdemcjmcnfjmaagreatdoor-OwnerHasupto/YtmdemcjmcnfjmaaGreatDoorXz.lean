/- A value in memory, whatever its depth; Good and Member, so told. -/
import Derived.Test.YtmdemcjmcnfjmaaGreatDoorXp
import Derived.Test.YtmdemcjmcnfjmaaGreatDoorTp
import Derived.Deep.DeepCutAuto
import Derived.Deep.CutBlock
import Derived.Deep.DrawnRows
set_option linter.unusedSimpArgs false
set_option linter.unusedVariables false
namespace Go.Proofs.YtmdemcjmcnfjmaaGreatDoor
open Go.RowKit

def In (w : World) (ok : Nat → Prop) (t : V) (v : Value) : Prop := ∃ d, VIs w ok d t v
theorem VIs.is {w : World} {ok : Nat → Prop} {d : Nat} {t : V} {v : Value} (h : VIs w ok d t v) : In w ok t v := ⟨d, h⟩
theorem In.bel {w w' : World} {ok : Nat → Prop} {t : V} {v : Value} (h : In w ok t v) (hb : Below w.heap.size w w') : In w' ok t v := by
  obtain ⟨d, h⟩ := h; exact ⟨d, h.bel hb⟩
theorem In.weak {w : World} {ok ok' : Nat → Prop} {t : V} {v : Value} (h : In w ok t v) (hk : ∀ k, ok k → ok' k) : In w ok' t v := by
  obtain ⟨d, h⟩ := h; exact ⟨d, h.weak hk⟩
theorem In.grown {w w' : World} {ok : Nat → Prop} {g : Nat} {t : V} {v : Value} (h : In w ok t v) (hg : w.grownBy w' (some g)) (hr : ∀ k, ok k → k ≠ g) : In w' ok t v := by
  obtain ⟨d, h⟩ := h; exact ⟨d, h.grown hg fun k hk e => hr k hk (by cases e; rfl)⟩
theorem In.at {w : World} {ok : Nat → Prop} {t : V} {v : Value} (h : In w ok t v) : ∃ d, VIs w ok (d + 1) t v := by
  obtain ⟨d, h⟩ := h; exact ⟨d, h.succ⟩
theorem In.two {w : World} {ok : Nat → Prop} {t x : V} {v xv : Value} (h : In w ok t v) (hx : In w ok x xv) : ∃ d, VIs w ok (d + 1) t v ∧ VIs w ok d x xv := by
  obtain ⟨d, h⟩ := h
  obtain ⟨d', h'⟩ := hx
  exact ⟨d + d', VIs.le (by omega) h, VIs.le (by omega) h'⟩
theorem In.form {w : World} {ok : Nat → Prop} {t : V} {v : Value} (h : In w ok t v) : ∃ (a7 a8 : Option Addr) (c7 c8 : Nat), v = .agg #[.int .i64 t.kind, .int .i64 t.n, .string ⟨t.s.toArray⟩, .slice a7 t.keys.length c7, .slice a8 t.l.length c8] := by
  obtain ⟨d, h⟩ := h; exact h.shape
theorem In.lens {w : World} {ok : Nat → Prop} {t : V} {v : Value} (h : In w ok t v) : t.keys.length ≤ 9223372036854775807 ∧ t.l.length ≤ 9223372036854775807 ∧ t.s.length ≤ 9223372036854775807 := by
  obtain ⟨d, h⟩ := h.at
  obtain ⟨ks, ls, -, -, -, h3, h4, h5⟩ := h
  exact ⟨h4.1, h5.1, h3⟩
/- The value's own blocks alone, and those that a call made behind the world W. -/
def lowN (ok : Nat → Prop) (B C : Nat) : Nat → Prop := okN (fun k => ok k ∧ k < B) C
theorem In.low {w : World} {ok : Nat → Prop} {t : V} {v : Value} (h : In w ok t v) : In w (fun k => ok k ∧ k < w.heap.size) t v := by
  obtain ⟨d, h⟩ := h; exact ⟨d, h.below⟩
theorem lowN_ne {ok : Nat → Prop} {B C g : Nat} (h1 : B ≤ g) (h2 : g < C) : ∀ k, lowN ok B C k → k ≠ g := by
  intro k hk e
  rcases hk with hk | hk <;> omega
theorem lowN_out {ok : Nat → Prop} {B C : Nat} (h : B ≤ C) : ∀ k, lowN ok B C k → okN ok B k := by
  intro k hk
  rcases hk with hk | hk
  · exact .inl hk.1
  · exact .inr (by omega)
theorem lowN_low {ok : Nat → Prop} {B C : Nat} : ∀ k, (ok k ∧ k < B) → lowN ok B C k := fun _ h => .inl h
theorem low_out {ok : Nat → Prop} {B : Nat} : ∀ k, (ok k ∧ k < B) → okN ok B k := fun _ h => .inl h.1
theorem In.box {w : World} {ok : Nat → Prop} {B C g : Nat} {t : V} {v : Value} (h : In w (lowN ok B C) t v) (h1 : B ≤ g) (h2 : g < C) (d0 d1 d2 d3 d4 : Value) : In (set5 w g d0 d1 d2 d3 d4) (lowN ok B C) t v :=
  h.grown (set5_gb w g _ _ _ _ _) (lowN_ne h1 h2)
theorem bel_set5 {w w1 : World} {g : Nat} (h : Below w.heap.size w w1) (hg : w.heap.size ≤ g) (d0 d1 d2 d3 d4 : Value) : Below w.heap.size w (set5 w1 g d0 d1 d2 d3 d4) := gb_none (gb_set5 (gb_below h) hg _ _ _ _ _)
/- An item of a list that is in memory. -/
theorem In.item {w : World} {ok : Nat → Prop} {t : V} {k n s ks : Value} {a : Option Addr} {m c i : Nat} (h : In w ok t (.agg #[k, n, s, ks, .slice a m c])) (hi : i < t.l.length) :
    ∃ b off a5 c5 a6 c6, a = some ⟨b, off, none⟩ ∧ t.l.length ≤ c ∧ c ≤ 9223372036854775807 ∧ w.cell? ⟨b, off + i * 5, none⟩ = some (.int .i64 t.l[i].kind) ∧ w.cell? ⟨b, off + i * 5 + 1, none⟩ = some (.int .i64 t.l[i].n) ∧ w.cell? ⟨b, off + i * 5 + 2, none⟩ = some (.string ⟨t.l[i].s.toArray⟩) ∧
      w.cell? ⟨b, off + i * 5 + 3, none⟩ = some (.slice a5 t.l[i].keys.length c5) ∧ w.cell? ⟨b, off + i * 5 + 4, none⟩ = some (.slice a6 t.l[i].l.length c6) ∧ In w ok t.l[i] (.agg #[.int .i64 t.l[i].kind, .int .i64 t.l[i].n, .string ⟨t.l[i].s.toArray⟩, .slice a5 t.l[i].keys.length c5, .slice a6 t.l[i].l.length c6]) := by
  obtain ⟨d, h⟩ := h.at
  obtain ⟨ks', ls, e, -, -, -, -, h5⟩ := h
  simp only [Value.agg.injEq, Array.mk.injEq, List.cons.injEq, and_true] at e
  obtain ⟨-, -, -, -, rfl⟩ := e
  obtain ⟨-, h5⟩ := h5
  rcases h5 with ⟨e, _⟩ | ⟨b, off, c', e, h1, h2, hcs⟩
  · rw [e] at hi; simp at hi
  · simp only [Value.slice.injEq] at e
    obtain ⟨rfl, -, rfl⟩ := e
    obtain ⟨v0, v1, v2, v3, v4, -, g0, g1, g2, g3, g4, g5⟩ := hcs i t.l[i] (List.getElem?_eq_getElem hi)
    obtain ⟨rfl, rfl, rfl, ⟨a5, c5, rfl⟩, ⟨a6, c6, rfl⟩⟩ := g5.agg
    exact ⟨b, off, a5, c5, a6, c6, rfl, h1, h2, g0, g1, g2, g3, g4, g5.is⟩
/- What may be: some value and true, or another and false. -/
def OptIn (w : World) (ok : Nat → Prop) (m : Option V) (x : Value) (b : Bool) : Prop := b = m.isSome ∧ ∃ y, In w ok y x ∧ ∀ z, m = some z → y = z
theorem OptIn.some {w : World} {ok : Nat → Prop} {y : V} {x : Value} (h : In w ok y x) : OptIn w ok (some y) x true := ⟨rfl, y, h, fun z e => by cases e; rfl⟩
theorem OptIn.none {w : World} {ok : Nat → Prop} {y : V} {x : Value} (h : In w ok y x) : OptIn w ok none x false := ⟨rfl, y, h, fun z e => by cases e⟩
theorem in_zero (w : World) (ok : Nat → Prop) : In w ok zeroT (.agg #[.int .i64 0, .int .i64 0, .string ⟨#[]⟩, .slice none 0 0, .slice none 0 0]) := ⟨1, _, _, rfl, by unfold I64; simp [zeroT], by unfold I64; simp [zeroT], by simp [zeroT, maxLen], ⟨by simp [zeroT, maxLen], .inl ⟨rfl, none, rfl⟩⟩, ⟨by simp [zeroT, maxLen], .inl ⟨rfl, none, rfl⟩⟩⟩

theorem good_is (w : World) (ok : Nat → Prop) (t : V) (v : Value) (h : In w ok t v) : Calls Tryz.prog 13 #[v] w fun e w' => e = .returned (.bool (goodV t)) ∧ Below w.heap.size w w' := by
  obtain ⟨d, h⟩ := h; exact Good_at w ok d t v h
theorem member_is (w : World) (ok : Nat → Prop) (t : V) (v : Value) (key : List UInt8) (h : In w ok t v) :
    Calls Tryz.prog 38 #[v, str key] w fun e w' => ∃ x b, e = .returned (.tuple #[x, .bool b]) ∧ Below w.heap.size w w' ∧ OptIn w' ok (memV t key) x b := by
  obtain ⟨d, h⟩ := h
  refine (member_at w ok d t v key h).mono ?_
  rintro e w' ⟨x, b, rfl, hb, hm⟩
  refine ⟨x, b, rfl, hb, ?_⟩
  cases hq : memV t key with
  | none => rw [hq] at hm; rw [hm.1, hm.2]; exact OptIn.none (in_zero w' ok)
  | some y => rw [hq] at hm; rw [hm.1]; exact OptIn.some hm.2.is
theorem in_leaf (w : World) (ok : Nat → Prop) (k n : Int) (hk : I64 k) (hn : I64 n) : In w ok ⟨k, n, [], [], []⟩ (.agg #[.int .i64 k, .int .i64 n, .string ⟨#[]⟩, .slice none 0 0, .slice none 0 0]) := ⟨1, _, _, rfl, hk, hn, by simp [maxLen], ⟨by simp [maxLen], .inl ⟨rfl, none, rfl⟩⟩, ⟨by simp [maxLen], .inl ⟨rfl, none, rfl⟩⟩⟩
theorem In.key {w : World} {ok : Nat → Prop} {t : V} {k n s ls : Value} {a : Option Addr} {m c i : Nat} (h : In w ok t (.agg #[k, n, s, .slice a m c, ls])) (hi : i < t.keys.length) :
    ∃ b off, a = some ⟨b, off, none⟩ ∧ t.keys.length ≤ c ∧ c ≤ 9223372036854775807 ∧ w.cell? ⟨b, off + i, none⟩ = some (.string ⟨t.keys[i].toArray⟩) ∧ t.keys[i].length ≤ 9223372036854775807 := by
  obtain ⟨d, h⟩ := h.at
  obtain ⟨ks', ls', e, -, -, -, h4, -⟩ := h
  simp only [Value.agg.injEq, Array.mk.injEq, List.cons.injEq, and_true] at e
  obtain ⟨-, -, -, rfl, -⟩ := e
  obtain ⟨-, h4⟩ := h4
  rcases h4 with ⟨e, _⟩ | ⟨b, off, c', e, h1, h2, hcs⟩
  · rw [e] at hi; simp at hi
  · simp only [Value.slice.injEq] at e
    obtain ⟨rfl, -, rfl⟩ := e
    obtain ⟨g1, -, g3⟩ := hcs i t.keys[i] (List.getElem?_eq_getElem hi)
    exact ⟨b, off, rfl, h1, h2, g3, g1⟩
theorem member_was (w : World) (ok : Nat → Prop) (t : V) (v : Value) (key : List UInt8) (h : In w ok t v) :
    Calls Tryz.prog 38 #[v, str key] w fun e w' => ∃ x, e = .returned (.tuple #[x, .bool (memV t key).isSome]) ∧ Below w.heap.size w w' ∧ In w' ok ((memV t key).getD zeroT) x := by
  obtain ⟨d, h⟩ := h
  refine (member_at w ok d t v key h).mono ?_
  rintro e w' ⟨x, b, rfl, hb, hm⟩
  cases hq : memV t key with
  | none => rw [hq] at hm; rw [hm.1, hm.2]; exact ⟨_, rfl, hb, in_zero w' ok⟩
  | some y => rw [hq] at hm; rw [hm.1]; exact ⟨_, rfl, hb, hm.2.is⟩
end Go.Proofs.YtmdemcjmcnfjmaaGreatDoor
