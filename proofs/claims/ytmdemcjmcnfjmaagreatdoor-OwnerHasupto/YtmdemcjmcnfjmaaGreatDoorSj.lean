/- How many values there are in one; lists of values in memory. -/
import Derived.Test.YtmdemcjmcnfjmaaGreatDoorXz
import Derived.Deep.AppendLies
set_option linter.unusedSimpArgs false
set_option linter.unusedVariables false
namespace Go.Proofs.YtmdemcjmcnfjmaaGreatDoor
open Go.RowKit

/- How many values there are in one. -/
def cnt : V → Nat
  | ⟨_, _, _, _, l⟩ => 1 + (l.map cnt).sum
def cnts (xs : List V) : Nat := (xs.map cnt).sum
theorem cnts_nil : cnts [] = 0 := rfl
theorem cnts_cons (x : V) (xs : List V) : cnts (x :: xs) = cnt x + cnts xs := by simp [cnts]
theorem cnt_eq (t : V) : cnt t = 1 + cnts t.l := by cases t; rw [cnt]; rfl
theorem cnts_drop {xs : List V} {k : Nat} (h : k < xs.length) : cnts (xs.drop k) = cnt xs[k] + cnts (xs.drop (k + 1)) := by
  rw [List.drop_eq_getElem_cons h, cnts_cons]
theorem cnts_len : ∀ (xs : List V), xs.length ≤ cnts xs
  | [] => Nat.le_refl _
  | x :: xs => by
    have := cnts_len xs
    have := cnt_eq x
    rw [cnts_cons, List.length_cons]; omega
theorem cnts_mem {xs : List V} {x : V} (h : x ∈ xs) : cnt x ≤ cnts xs := by
  induction xs with
  | nil => cases h
  | cons y xs ih =>
    rw [cnts_cons]
    rcases List.mem_cons.1 h with rfl | h
    · omega
    · have := ih h; omega
theorem cnt_sz (D : Nat) : ∀ (t : V), GoodT D t → cnt t = szD D t := by
  induction D with
  | zero => intro t h; exact h.elim
  | succ D ih =>
    intro t h
    rw [cnt_eq, szD]
    congr 1
    obtain ⟨-, h⟩ := h
    generalize t.l = l at h
    induction l with
    | nil => rfl
    | cons y l ihl =>
      rw [cnts_cons, ih y (h y (by simp)), ihl fun x hx => h x (by simp [hx])]; simp
theorem nice_cnt {t : V} (h : Nice t) : cnt t ≤ 120 := by
  obtain ⟨D, h1, h2⟩ := h
  rw [cnt_sz D t h1]; exact h2
/- How much waits. -/
def mu (ls : List (List V)) : Nat := (ls.map fun l => 1 + cnts l).sum
theorem mu_push (ls : List (List V)) (l : List V) : mu (ls ++ [l]) = mu ls + (1 + cnts l) := by simp [mu]
theorem mu_len (ls : List (List V)) : ls.length ≤ mu ls := by
  unfold mu
  induction ls with
  | nil => simp
  | cons l ls ih => simp only [List.map_cons, List.sum_cons, List.length_cons]; omega

/- A list of values in memory, whatever their depth. -/
def ValsIn (w : World) (ok : Nat → Prop) (xs : List V) (v : Value) : Prop := In w ok ⟨0, 0, [], [], xs⟩ (.agg #[.int .i64 0, .int .i64 0, .string ⟨#[]⟩, .slice none 0 0, v])
theorem ValsIn.bel {w w' : World} {ok : Nat → Prop} {xs : List V} {v : Value} (h : ValsIn w ok xs v) (hb : Below w.heap.size w w') : ValsIn w' ok xs v := In.bel h hb
theorem ValsIn.weak {w : World} {ok ok' : Nat → Prop} {xs : List V} {v : Value} (h : ValsIn w ok xs v) (hk : ∀ k, ok k → ok' k) : ValsIn w ok' xs v := In.weak h hk
theorem ValsIn.grown {w w' : World} {ok : Nat → Prop} {g : Nat} {xs : List V} {v : Value} (h : ValsIn w ok xs v) (hg : w.grownBy w' (some g)) (hr : ∀ k, ok k → k ≠ g) : ValsIn w' ok xs v := In.grown h hg hr
theorem ValsIn.form {w : World} {ok : Nat → Prop} {xs : List V} {v : Value} (h : ValsIn w ok xs v) : ∃ a c, v = .slice a xs.length c := by
  obtain ⟨a7, a8, c7, c8, e⟩ := In.form h
  simp only [Value.agg.injEq, Array.mk.injEq, List.cons.injEq, and_true] at e
  exact ⟨a8, c8, e.2.2.2.2⟩
theorem ValsIn.len {w : World} {ok : Nat → Prop} {xs : List V} {v : Value} (h : ValsIn w ok xs v) : xs.length ≤ 9223372036854775807 := (In.lens h).2.1
theorem In.vals {w : World} {ok : Nat → Prop} {t : V} {k n s ks ls : Value} (h : In w ok t (.agg #[k, n, s, ks, ls])) : ValsIn w ok t.l ls := by
  obtain ⟨d, h⟩ := h.at
  obtain ⟨ks', ls', e, -, -, -, -, h5⟩ := h
  simp only [Value.agg.injEq, Array.mk.injEq, List.cons.injEq, and_true] at e
  obtain ⟨-, -, -, -, rfl⟩ := e
  exact ⟨d + 1, _, _, rfl, by unfold I64; simp, by unfold I64; simp, by simp [maxLen], ⟨by simp [maxLen], .inl ⟨rfl, none, rfl⟩⟩, h5⟩
theorem ValsIn.item {w : World} {ok : Nat → Prop} {xs : List V} {a : Option Addr} {m c i : Nat} (h : ValsIn w ok xs (.slice a m c)) (hi : i < xs.length) :
    ∃ b off a5 c5 a6 c6, a = some ⟨b, off, none⟩ ∧ xs.length ≤ c ∧ c ≤ 9223372036854775807 ∧ w.cell? ⟨b, off + i * 5, none⟩ = some (.int .i64 xs[i].kind) ∧ w.cell? ⟨b, off + i * 5 + 1, none⟩ = some (.int .i64 xs[i].n) ∧ w.cell? ⟨b, off + i * 5 + 2, none⟩ = some (.string ⟨xs[i].s.toArray⟩) ∧
      w.cell? ⟨b, off + i * 5 + 3, none⟩ = some (.slice a5 xs[i].keys.length c5) ∧ w.cell? ⟨b, off + i * 5 + 4, none⟩ = some (.slice a6 xs[i].l.length c6) ∧ In w ok xs[i] (.agg #[.int .i64 xs[i].kind, .int .i64 xs[i].n, .string ⟨xs[i].s.toArray⟩, .slice a5 xs[i].keys.length c5, .slice a6 xs[i].l.length c6]) :=
  In.item h hi
theorem ValsIn.blk {w : World} {ok : Nat → Prop} {xs : List V} {b off m c i : Nat} (h : ValsIn w ok xs (.slice (some ⟨b, off, none⟩) m c)) (hi : i < xs.length) : ok b := by
  obtain ⟨d, h⟩ := In.at h
  obtain ⟨ks', ls, e, -, -, -, -, h5⟩ := h
  simp only [Value.agg.injEq, Array.mk.injEq, List.cons.injEq, and_true] at e
  obtain ⟨-, -, -, -, rfl⟩ := e
  obtain ⟨-, h5⟩ := h5
  rcases h5 with ⟨e, _⟩ | ⟨b', off', c', e, h1, h2, hcs⟩
  · simp only at e; rw [e] at hi; simp at hi
  · simp only [Value.slice.injEq, Option.some.injEq, Addr.mk.injEq] at e
    obtain ⟨⟨rfl, -, -⟩, -, -⟩ := e
    obtain ⟨_, _, _, _, _, g, _⟩ := hcs i xs[i] (List.getElem?_eq_getElem hi)
    exact g
/- A list of one, in a block of its own. -/
theorem vals_one {w : World} {ok : Nat → Prop} {t : V} {g : Nat} {c0 c1 c2 c3 c4 : Value} (h : In w ok t (.agg #[c0, c1, c2, c3, c4])) (hb : BoxIs w g c0 c1 c2 c3 c4) (hok : ok g) : ValsIn w ok [t] (.slice (some ⟨g, 0, none⟩) 1 1) := by
  obtain ⟨d, h⟩ := h
  obtain ⟨b0, b1, b2, b3, b4, -⟩ := hb.c
  refine ⟨d + 1, _, _, rfl, by unfold I64; simp, by unfold I64; simp, by simp [maxLen], ⟨by simp [maxLen], .inl ⟨rfl, none, rfl⟩⟩, by simp [maxLen], .inr ⟨g, 0, 1, rfl, by simp, by simp [maxLen], ?_⟩⟩
  intro i x hx
  cases i with
  | zero =>
    simp only [List.getElem?_cons_zero, Option.some.injEq] at hx
    subst hx
    exact ⟨c0, c1, c2, c3, c4, hok, by simpa using b0, by simpa using b1, by simpa using b2, by simpa using b3, by simpa using b4, h⟩
  | succ i => simp at hx
end Go.Proofs.YtmdemcjmcnfjmaaGreatDoor
