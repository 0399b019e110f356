/- Two rows of lists that wait, side by side. -/
import Derived.Test.YtkboplcffailoaaDoorSk
set_option linter.unusedSimpArgs false
set_option linter.unusedVariables false
namespace Go.Proofs.YtkboplcffailoaaDoor
open Go.RowKit

def okX (ok : Nat → Prop) (B i : Nat) : Nat → Prop := fun k => (ok k ∧ k < B) ∨ k = i
theorem okX_lt {ok : Nat → Prop} {B i H : Nat} (h1 : B ≤ H) (h2 : i < H) : ∀ k, okX ok B i k → k < H := by
  intro k hk
  rcases hk with hk | hk <;> omega
theorem okX_ne {ok : Nat → Prop} {B i g : Nat} (h1 : B ≤ g) (h2 : i ≠ g) : ∀ k, okX ok B i k → k ≠ g := by
  intro k hk
  rcases hk with hk | hk <;> omega
theorem bel_al {a w : World} (h : Below a.heap.size a w) (o : Obj) : Below a.heap.size a (w.alloc o) := bel_trans h (bel_alloc w o)
theorem bel_dr {a w : World} (h : Below a.heap.size a w) : Below a.heap.size a w.drew := h.drew
theorem szle {a w : World} (h : Below a.heap.size a w) : a.heap.size ≤ w.heap.size := h.size
theorem two_up {a w w' : World} {g g' : Nat} (h : Below a.heap.size a w) (q : w.grownBy w' (some g)) (o : g' = g ∨ w.heap.size = g') : a.grownBy w' (some g) ∧ (g' = g ∨ a.heap.size ≤ g') :=
  ⟨gb_trans (gb_below h) q, o.imp id fun e => by have := h.size; omega⟩
theorem heap_old {w : World} {k : Nat} {v : Obj} (h : w.heap[k]? = some v) (o : Obj) : (w.alloc o).heap[k]? = some v :=
  ((World.grownBy_alloc w o none).block k (Array.getElem?_eq_some_iff.1 h).1 (by simp)).trans h
theorem heap_at6 (w : World) (o1 o2 o3 o4 o5 o6 : Obj) (i : Nat) (hi : i < 6) : ((((((w.alloc o1).alloc o2).alloc o3).alloc o4).alloc o5).alloc o6).heap[w.heap.size + i]? = [o1, o2, o3, o4, o5, o6][i]? := by
  rcases (show i = 0 ∨ i = 1 ∨ i = 2 ∨ i = 3 ∨ i = 4 ∨ i = 5 by omega) with rfl | rfl | rfl | rfl | rfl | rfl
  · exact heap_old (heap_old (heap_old (heap_old (heap_old (heap_alloc_new w o1) _) _) _) _) _
  · exact heap_old (heap_old (heap_old (heap_old (by simpa using heap_alloc_new (w.alloc o1) o2) _) _) _) _
  · exact heap_old (heap_old (heap_old (by simpa using heap_alloc_new ((w.alloc o1).alloc o2) o3) _) _) _
  · exact heap_old (heap_old (by simpa using heap_alloc_new (((w.alloc o1).alloc o2).alloc o3) o4) _) _
  · exact heap_old (by simpa using heap_alloc_new ((((w.alloc o1).alloc o2).alloc o3).alloc o4) o5) _
  · simpa using heap_alloc_new (((((w.alloc o1).alloc o2).alloc o3).alloc o4).alloc o5) o6
def SE (w : World) (ok ok' : Nat → Prop) (ia ib : Nat) (ls rs : List (List V)) (gL gR cL cR : Nat) (wr : World) : Prop :=
  Wait wr w.heap.size (okX ok w.heap.size ia) ls gL cL ∧ Wait wr w.heap.size (okX ok' w.heap.size ib) rs gR cR ∧ gL ≠ gR ∧ ia ≠ gL ∧ ia ≠ gR ∧ ib ≠ gL ∧ ib ≠ gR ∧ ia < wr.heap.size ∧ ib < wr.heap.size ∧ Below w.heap.size w wr
theorem SE.bel {w wr wr' : World} {ok ok' : Nat → Prop} {ia ib : Nat} {ls rs : List (List V)} {gL gR cL cR : Nat} (h : SE w ok ok' ia ib ls rs gL gR cL cR wr) (hb : Below wr.heap.size wr wr') : SE w ok ok' ia ib ls rs gL gR cL cR wr' := by
  obtain ⟨h3, h4, h5, h6, h7, h8, h9, h10, h11, h12⟩ := h
  exact ⟨h3.bel hb, h4.bel hb, h5, h6, h7, h8, h9, Nat.lt_of_lt_of_le h10 hb.size, Nat.lt_of_lt_of_le h11 hb.size, bel_trans h12 hb⟩
theorem SE.swap {w wr : World} {ok ok' : Nat → Prop} {ia ib : Nat} {ls rs : List (List V)} {gL gR cL cR : Nat} (h : SE w ok ok' ia ib ls rs gL gR cL cR wr) : SE w ok' ok ib ia rs ls gR gL cR cL wr := by
  obtain ⟨h3, h4, h5, h6, h7, h8, h9, h10, h11, h12⟩ := h
  exact ⟨h4, h3, h5.symm, h9, h8, h7, h6, h11, h10, h12⟩
theorem SE.lows {w wr : World} {ok ok' : Nat → Prop} {ia ib : Nat} {ls rs : List (List V)} {gL gR cL cR : Nat} (h : SE w ok ok' ia ib ls rs gL gR cL cR wr) : ∀ k, okX ok w.heap.size ia k → k < wr.heap.size := okX_lt h.2.2.2.2.2.2.2.2.2.size h.2.2.2.2.2.2.2.1
/- Both are pushed, one behind the other. -/
theorem push_end {w w4 w5 w6 : World} {ok ok' : Nat → Prop} {ia ib : Nat} {ls rs : List (List V)} {gL gR cL cR g5 g6 c5 c6 : Nat} {lx ly : List V} (h : SE w ok ok' ia ib ls rs gL gR cL cR w4) (q5 : w4.grownBy w5 (some gL)) (h5 : Wait w5 w.heap.size (okX ok w.heap.size ia) (ls ++ [lx]) g5 c5) (o5 : g5 = gL ∨ w4.heap.size ≤ g5)
    (q6 : w5.grownBy w6 (some gR)) (h6 : Wait w6 w.heap.size (okX ok' w.heap.size ib) (rs ++ [ly]) g6 c6) (o6 : g6 = gR ∨ w5.heap.size ≤ g6) : SE w ok ok' ia ib (ls ++ [lx]) (rs ++ [ly]) g5 g6 c5 c6 w6 := by
  obtain ⟨h3, h4, e1, e2, e3, e4, e5, e6, e7, hB⟩ := h
  have l3 := h3.lt
  have l4 := h4.lt
  have l5 := h5.lt
  have s5 := q5.size
  have s6 := q6.size
  have hn : g5 ≠ gR := by omega
  refine ⟨h5.far q6 hn (okX_ne l4.1 e3), h6, by omega, by omega, by omega, by omega, by omega, by omega, by omega, ?_⟩
  exact gb_none (gb_out (gb_out (gb_below hB) q5 l3.1) q6 l4.1)
def SI (w : World) (ok ok' : Nat → Prop) (ia ib : Nat) (ls rs : List (List V)) (lv rv : Value) (wr : World) : Prop :=
  ∃ gL gR cL cR, lv = .slice (some ⟨gL, 0, none⟩) ls.length cL ∧ rv = .slice (some ⟨gR, 0, none⟩) rs.length cR ∧ SE w ok ok' ia ib ls rs gL gR cL cR wr
theorem SI.bel {w wr wr' : World} {ok ok' : Nat → Prop} {ia ib : Nat} {ls rs : List (List V)} {lv rv : Value} (h : SI w ok ok' ia ib ls rs lv rv wr) (hb : Below wr.heap.size wr wr') : SI w ok ok' ia ib ls rs lv rv wr' := by
  obtain ⟨gL, gR, cL, cR, h1, h2, h3⟩ := h
  exact ⟨gL, gR, cL, cR, h1, h2, h3.bel hb⟩
theorem own_one {w : World} {g B : Nat} {t : TypeId} {v : Value} (h : w.heap[g]? = some (.cells #[v] t)) (hB : B ≤ g) : w.ownsRow B t 1 (.slice (some ⟨g, 0, none⟩) 1 1) 1 [v] :=
  ⟨rfl, .inr ⟨g, 1, #[v], rfl, hB, h, Nat.le_refl _, by simp [maxLen], rfl, rfl⟩⟩
theorem wait_one {w : World} {g i B : Nat} {ok : Nat → Prop} {t : V} {c0 c1 c2 c3 c4 : Value} (hx : In w (okX ok B i) t (.agg #[c0, c1, c2, c3, c4])) (h1 : BoxIs w i c0 c1 c2 c3 c4) (h2 : w.heap[g]? = some (.cells #[.slice (some ⟨i, 0, none⟩) 1 1] 23)) (hB : B ≤ g) (hne : i ≠ g) : Wait w B (okX ok B i) [[t]] g 1 := by
  refine ⟨[.slice (some ⟨i, 0, none⟩) 1 1], own_one h2 hB, ⟨rfl, ?_⟩, okX_ne hB hne⟩
  intro j l c h3 h4
  cases j with
  | zero =>
    simp only [List.getElem?_cons_zero, Option.some.injEq] at h3 h4
    subst h3 h4
    exact vals_one hx h1 (.inr rfl)
  | succ j => simp at h3
theorem si_start {w W : World} {ok ok' : Nat → Prop} {ia ib gL gR : Nat} {a b : V} {a0 a1 a2 a3 a4 b0 b1 b2 b3 b4 : Value} (ha : In w ok a (.agg #[a0, a1, a2, a3, a4])) (hb : In w ok' b (.agg #[b0, b1, b2, b3, b4])) (hB : Below w.heap.size w W)
    (h1 : W.heap[gL]? = some (.cells #[.slice (some ⟨ia, 0, none⟩) 1 1] 23)) (h2 : W.heap[gR]? = some (.cells #[.slice (some ⟨ib, 0, none⟩) 1 1] 23)) (h3 : BoxIs W ia a0 a1 a2 a3 a4) (h4 : BoxIs W ib b0 b1 b2 b3 b4) (hn : gL ≠ gR ∧ ia ≠ gL ∧ ia ≠ gR ∧ ib ≠ gL ∧ ib ≠ gR ∧ w.heap.size ≤ gL ∧ w.heap.size ≤ gR) :
    SI w ok ok' ia ib [[a]] [[b]] (.slice (some ⟨gL, 0, none⟩) 1 1) (.slice (some ⟨gR, 0, none⟩) 1 1) W := by
  obtain ⟨n1, n2, n3, n4, n5, n6, n7⟩ := hn
  have k1 : In W (okX ok w.heap.size ia) a (.agg #[a0, a1, a2, a3, a4]) := (ha.low.bel hB).weak fun k hk => .inl hk
  have k2 : In W (okX ok' w.heap.size ib) b (.agg #[b0, b1, b2, b3, b4]) := (hb.low.bel hB).weak fun k hk => .inl hk
  exact ⟨gL, gR, 1, 1, rfl, rfl, wait_one k1 h3 h1 n6 n2, wait_one k2 h4 h2 n7 n5, n1, n2, n3, n4, n5, h3.lt, h4.lt, hB⟩
/- As many on both sides. -/
def PL (ls rs : List (List V)) : Prop := rs.length = ls.length ∧ ∀ (j : Nat) (l r : List V), ls[j]? = some l → rs[j]? = some r → r.length = l.length
theorem PL.push {ls rs : List (List V)} (h : PL ls rs) {l r : List V} (hl : r.length = l.length) : PL (ls ++ [l]) (rs ++ [r]) := by
  refine ⟨by simp [h.1], fun j l' r' h1 h2 => ?_⟩
  by_cases hj : j < ls.length
  · rw [List.getElem?_append_left hj] at h1
    rw [List.getElem?_append_left (by rw [h.1]; exact hj)] at h2
    exact h.2 j l' r' h1 h2
  · have : j < (ls ++ [l]).length := (List.getElem?_eq_some_iff.1 h1).1
    simp only [List.length_append, List.length_cons, List.length_nil] at this
    have e : j = ls.length := by omega
    subst e
    rw [List.getElem?_append_right (by omega)] at h1
    rw [List.getElem?_append_right (by rw [h.1]; omega)] at h2
    simp only [Nat.sub_self, List.getElem?_cons_zero, Option.some.injEq] at h1
    rw [h.1] at h2
    simp only [Nat.sub_self, List.getElem?_cons_zero, Option.some.injEq] at h2
    rw [← h1, ← h2]; exact hl
theorem PL.pop {ls rs : List (List V)} {l : List V} (h : PL (ls ++ [l]) rs) : ∃ qs r, rs = qs ++ [r] ∧ PL ls qs ∧ r.length = l.length := by
  have hl : rs.length = ls.length + 1 := by simpa using h.1
  obtain ⟨qs, r, rfl⟩ : ∃ qs r, rs = qs ++ [r] := ⟨rs.dropLast, rs.getLast (by intro e; rw [e] at hl; simp at hl), (List.dropLast_concat_getLast _).symm⟩
  have hd : qs.length = ls.length := by simpa using hl
  refine ⟨qs, r, rfl, ⟨hd, fun j l' r' h1 h2 => ?_⟩, ?_⟩
  · have h3 := (List.getElem?_eq_some_iff.1 h1).1
    exact h.2 j l' r' (by rw [List.getElem?_append_left h3]; exact h1) (by rw [List.getElem?_append_left (by omega)]; exact h2)
  · exact h.2 ls.length l r (by simp) (by rw [← hd]; simp)
theorem ends {α : Type} (ls : List α) : ls = [] ∨ ∃ ms l, ls = ms ++ [l] := by
  cases ls with
  | nil => exact .inl rfl
  | cons x xs => exact .inr ⟨(x :: xs).dropLast, (x :: xs).getLast (by simp), (List.dropLast_concat_getLast _).symm⟩
theorem drop_both {xs ys : List V} {k : Nat} (h1 : k < xs.length) (h2 : k < ys.length) : (xs.drop k = ys.drop k ↔ xs[k] = ys[k] ∧ xs.drop (k + 1) = ys.drop (k + 1)) := by
  rw [List.drop_eq_getElem_cons h1, List.drop_eq_getElem_cons h2, List.cons.injEq]
theorem snoc_both {α : Type} {a b : List α} {x y : α} : (a ++ [x] = b ++ [y] ↔ a = b ∧ x = y) := by
  constructor
  · intro h; exact List.append_inj' h rfl |>.imp id fun e => List.cons.inj e |>.1
  · rintro ⟨rfl, rfl⟩; rfl
/- What Same answers. -/
def SameP (w : World) (a b : V) (e : Ending) (w' : World) : Prop := ∃ r, e = .returned (.bool r) ∧ (r = true ↔ a = b) ∧ Below w.heap.size w w'
/- On the way through two lists. -/
def SJ (w : World) (ok ok' : Nat → Prop) (ia ib : Nat) (a b : V) (xs ys : List V) (xv yv : Value) (M k : Nat) (lv rv : Value) (wr : World) : Prop :=
  ∃ ls rs, (a = b ↔ ls = rs ∧ xs.drop k = ys.drop k) ∧ PL ls rs ∧ mu ls + cnts (xs.drop k) + 1 ≤ M ∧ M ≤ 2000000000001 ∧ ValsIn wr (okX ok w.heap.size ia) xs xv ∧ ValsIn wr (okX ok' w.heap.size ib) ys yv ∧ SI w ok ok' ia ib ls rs lv rv wr
theorem SJ.bel {w wr wr' : World} {ok ok' : Nat → Prop} {ia ib : Nat} {a b : V} {xs ys : List V} {xv yv : Value} {M k : Nat} {lv rv : Value} (h : SJ w ok ok' ia ib a b xs ys xv yv M k lv rv wr) (hb : Below wr.heap.size wr wr') : SJ w ok ok' ia ib a b xs ys xv yv M k lv rv wr' := by
  obtain ⟨ls, rs, h1, h2, h3, h4, h5, h6, h7⟩ := h
  exact ⟨ls, rs, h1, h2, h3, h4, h5.bel hb, h6.bel hb, h7.bel hb⟩
end Go.Proofs.YtkboplcffailoaaDoor
