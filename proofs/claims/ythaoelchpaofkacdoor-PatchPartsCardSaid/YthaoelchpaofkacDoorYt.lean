/- What twin of package patch does. -/
import Derived.Test.YthaoelchpaofkacDoorYc
import Derived.Test.YthaoelchpaofkacDoorXm
set_option linter.unusedSimpArgs false
set_option linter.unusedVariables false
namespace Go.Proofs.YthaoelchpaofkacDoor
open Go.RowKit

theorem strs_sl {w : World} {ok : Nat → Prop} {xs : List (List UInt8)} {v : Value} (h : StrsAre w ok xs v) (hl : xs.length ≤ 1000000) : SlIs w 1 v xs.length (xs.map str) := by
  have h' := h
  rcases h.2 with ⟨rfl, a, rfl⟩ | ⟨b, off, c, rfl, h1, h2, h3⟩
  · exact slnil w 1 a
  · have := (ss_parts h' xs.length xs.length (Nat.le_refl _) (Nat.le_refl _) hl).1
    rwa [List.take_length] at this
theorem vals_sl {w : World} {ok : Nat → Prop} {d : Nat} {xs : List V} {v : Value} (h : ValsAre w ok (VIs w ok d) xs v) (hl : xs.length ≤ 1000000) : ∃ cs, RowV (VIs w ok d) xs cs ∧ SlIs w 5 v xs.length cs := by
  have h' := h
  rcases h.2 with ⟨rfl, a, rfl⟩ | ⟨b, off, c, rfl, h1, h2, h3⟩
  · exact ⟨[], rfl, slnil w 5 a⟩
  · obtain ⟨c1, c2, r1, s1, -, -⟩ := sl_parts h' xs.length xs.length (Nat.le_refl _) (Nat.le_refl _) hl
    rw [List.take_length] at r1
    exact ⟨c1, r1, s1⟩
theorem own_form {w : World} {B : Nat} {e : TypeId} {size : Nat} {v : Value} {n : Nat} {xs : List Value} (h : w.ownsRow B e size v n xs) : ∃ a c, v = .slice a n c ∧ (n = 0 ∨ ∃ g, a = some ⟨g, 0, none⟩) ∧ n ≤ c ∧ c ≤ 9223372036854775807 ∧ ∀ g, a = some ⟨g, 0, none⟩ → B ≤ g ∧ g < w.heap.size := by
  have hlt := h.lt
  rcases h.2 with ⟨rfl, h0⟩ | ⟨g, cap, cur, rfl, h1, h2, h3, h4, -⟩
  · exact ⟨none, 0, by rw [h0], .inl h0, by omega, by omega, fun g e => by cases e⟩
  · exact ⟨_, cap, rfl, .inr ⟨g, rfl⟩, h3, h4, fun g' e => by cases e; exact hlt g rfl⟩
theorem own_block {w : World} {B : Nat} {e : TypeId} {size : Nat} {a : Option Addr} {n c : Nat} {xs : List Value} (h : w.ownsRow B e size (.slice a n c) n xs) : a = none ∨ ∃ g, a = some ⟨g, 0, none⟩ := by
  rcases h.2 with ⟨e, -⟩ | ⟨g, cap, cur, e, -⟩
  · simp only [Value.slice.injEq] at e; exact .inl e.1
  · simp only [Value.slice.injEq] at e; exact .inr ⟨g, e.1⟩
/- All of a row, each of its own depth: of one depth. -/
theorem row_depth {w : World} {ok : Nat → Prop} : ∀ {xs : List V} {cs : List Value}, RowV (In w ok) xs cs → ∃ D, RowV (VIs w ok D) xs cs
  | [], cs, h => ⟨0, h⟩
  | x :: xs, cs, h => by
    obtain ⟨v0, v1, v2, v3, v4, rest, e, ⟨d, hd⟩, hr⟩ := h
    obtain ⟨D, hD⟩ := row_depth hr
    exact ⟨d + D, v0, v1, v2, v3, v4, rest, e, VIs.le (by omega) hd, hD.imp fun _ _ h => VIs.le (by omega) h⟩

theorem shaped_keys {x : V} (h : shapedB x = true) (hl : x.l.length ≤ 120) : x.keys.length ≤ 120 := by
  unfold shapedB listlessB at h
  repeat' split at h
  all_goals first | (simp only [Bool.and_eq_true, decide_eq_true_eq] at h; omega) | cases h
/- Five cells of a block, set. -/
def set5a (w : World) (g i : Nat) (d0 d1 d2 d3 d4 : Value) : World :=
  ((((w.setCell ⟨g, i, none⟩ d0).setCell ⟨g, i + 1, none⟩ d1).setCell ⟨g, i + 2, none⟩ d2).setCell ⟨g, i + 3, none⟩ d3).setCell ⟨g, i + 4, none⟩ d4
theorem set5a_gb (w : World) (g i : Nat) (d0 d1 d2 d3 d4 : Value) : w.grownBy (set5a w g i d0 d1 d2 d3 d4) (some g) :=
  gb_set (gb_set (gb_set (gb_set (gb_set (gb_refl _ _) _ _) _ _) _ _) _ _) _ _
/- An item of a row of one's own, set. -/
theorem own_set {w : World} {B : Nat} {e : TypeId} {g n cap : Nat} {xs zs : List Value} {d0 d1 d2 d3 d4 v0 v1 v2 v3 v4 : Value} (h : w.ownsRow B e 5 (.slice (some ⟨g, 0, none⟩) n cap) n (xs ++ v0 :: v1 :: v2 :: v3 :: v4 :: zs)) :
    (set5a w g xs.length d0 d1 d2 d3 d4).ownsRow B e 5 (.slice (some ⟨g, 0, none⟩) n cap) n (xs ++ d0 :: d1 :: d2 :: d3 :: d4 :: zs) := by
  obtain ⟨hl, h⟩ := h
  refine ⟨by simpa using hl, ?_⟩
  rcases h with ⟨e, _⟩ | ⟨g', cap', cur, e1, h1, h2, h3, h4, h5, h6⟩
  · cases e
  · simp only [Value.slice.injEq, Option.some.injEq, Addr.mk.injEq, true_and, and_true] at e1
    obtain ⟨rfl, rfl⟩ := e1
    have e9 := heap_set (heap_set (heap_set (heap_set (heap_set h2 xs.length d0) (xs.length + 1) d1) (xs.length + 2) d2) (xs.length + 3) d3) (xs.length + 4) d4
    refine .inr ⟨g, cap, _, rfl, h1, e9, h3, h4, by simp [h5], ?_⟩
    obtain ⟨tl, hcur⟩ : ∃ tl, cur.toList = (xs ++ v0 :: v1 :: v2 :: v3 :: v4 :: zs) ++ tl := ⟨cur.toList.drop (n * 5), by rw [← h6, List.take_append_drop]⟩
    have key : ∀ (r : List Value), (((((xs ++ v0 :: v1 :: v2 :: v3 :: v4 :: r).set xs.length d0).set (xs.length + 1) d1).set (xs.length + 2) d2).set (xs.length + 3) d3).set (xs.length + 4) d4 = xs ++ d0 :: d1 :: d2 :: d3 :: d4 :: r := by
      intro r
      simp [List.set_append]
    have hcur2 : cur.toList = xs ++ v0 :: v1 :: v2 :: v3 :: v4 :: (zs ++ tl) := by rw [hcur]; simp
    simp only [Array.toList_setIfInBounds]
    rw [hcur2, key]
    have hn : n * 5 = (xs ++ d0 :: d1 :: d2 :: d3 :: d4 :: zs).length := by rw [← hl]; simp
    have e10 : xs ++ d0 :: d1 :: d2 :: d3 :: d4 :: (zs ++ tl) = (xs ++ d0 :: d1 :: d2 :: d3 :: d4 :: zs) ++ tl := by simp
    rw [e10, List.take_append_of_le_length (by omega), List.take_of_length_le (by omega)]

theorem drop5 {cs : List Value} {i : Nat} {v0 v1 v2 v3 v4 : Value} (g0 : cs[i * 5]? = some v0) (g1 : cs[i * 5 + 1]? = some v1) (g2 : cs[i * 5 + 2]? = some v2) (g3 : cs[i * 5 + 3]? = some v3) (g4 : cs[i * 5 + 4]? = some v4) : cs.drop (i * 5) = v0 :: v1 :: v2 :: v3 :: v4 :: cs.drop ((i + 1) * 5) := by
  obtain ⟨h0, e0⟩ := List.getElem?_eq_some_iff.1 g0
  obtain ⟨h1, e1⟩ := List.getElem?_eq_some_iff.1 g1
  obtain ⟨h2, e2⟩ := List.getElem?_eq_some_iff.1 g2
  obtain ⟨h3, e3⟩ := List.getElem?_eq_some_iff.1 g3
  obtain ⟨h4, e4⟩ := List.getElem?_eq_some_iff.1 g4
  rw [List.drop_eq_getElem_cons h0, List.drop_eq_getElem_cons h1, List.drop_eq_getElem_cons h2, List.drop_eq_getElem_cons h3, List.drop_eq_getElem_cons h4, e0, e1, e2, e3, e4, show i * 5 + 4 + 1 = (i + 1) * 5 by omega]
def Own5 (w : World) (g i : Nat) : Prop := (∃ u, w.cell? ⟨g, i, none⟩ = some u) ∧ (∃ u, w.cell? ⟨g, i + 1, none⟩ = some u) ∧ (∃ u, w.cell? ⟨g, i + 2, none⟩ = some u) ∧ (∃ u, w.cell? ⟨g, i + 3, none⟩ = some u) ∧ (∃ u, w.cell? ⟨g, i + 4, none⟩ = some u) ∧
  w.frozen? ⟨g, i, none⟩ = false ∧ w.frozen? ⟨g, i + 1, none⟩ = false ∧ w.frozen? ⟨g, i + 2, none⟩ = false ∧ w.frozen? ⟨g, i + 3, none⟩ = false ∧ w.frozen? ⟨g, i + 4, none⟩ = false
theorem own_cells5 {w : World} {B : Nat} {e : TypeId} {g n cap i : Nat} {xs zs : List Value} {v0 v1 v2 v3 v4 : Value} (h : w.ownsRow B e 5 (.slice (some ⟨g, 0, none⟩) n cap) n (xs ++ v0 :: v1 :: v2 :: v3 :: v4 :: zs)) (hi : xs.length = i) :
    w.cell? ⟨g, i, none⟩ = some v0 ∧ w.cell? ⟨g, i + 1, none⟩ = some v1 ∧ w.cell? ⟨g, i + 2, none⟩ = some v2 ∧ w.cell? ⟨g, i + 3, none⟩ = some v3 ∧ w.cell? ⟨g, i + 4, none⟩ = some v4 := by
  subst hi
  have c : ∀ j u, (xs ++ v0 :: v1 :: v2 :: v3 :: v4 :: zs)[j]? = some u → w.cell? ⟨g, j, none⟩ = some u := fun j u hj => by
    have := h.cells (g := g) rfl j u hj
    rw [addr_add, Nat.zero_add] at this; exact this
  exact ⟨c _ _ (by simp), c _ _ (by simp), c _ _ (by simp), c _ _ (by simp), c _ _ (by simp)⟩
theorem own5_of {w : World} {B : Nat} {e : TypeId} {g n cap i : Nat} {xs zs : List Value} {v0 v1 v2 v3 v4 : Value} (h : w.ownsRow B e 5 (.slice (some ⟨g, 0, none⟩) n cap) n (xs ++ v0 :: v1 :: v2 :: v3 :: v4 :: zs)) (hi : xs.length = i) : Own5 w g i := by
  obtain ⟨c0, c1, c2, c3, c4⟩ := own_cells5 h hi
  have fz : ∀ j, w.frozen? ⟨g, j, none⟩ = false := by
    intro j
    rcases h.2 with ⟨e, _⟩ | ⟨g', cap', cur, e1, -, h2, -⟩
    · cases e
    · simp only [Value.slice.injEq, Option.some.injEq, Addr.mk.injEq, and_true] at e1
      obtain ⟨rfl, -, -⟩ := e1
      simp [World.frozen?, h2]
  exact ⟨⟨_, c0⟩, ⟨_, c1⟩, ⟨_, c2⟩, ⟨_, c3⟩, ⟨_, c4⟩, fz _, fz _, fz _, fz _, fz _⟩
theorem bel_set5a {w w1 : World} {g : Nat} (h : Below w.heap.size w w1) (hg : w.heap.size ≤ g) (i : Nat) (d0 d1 d2 d3 d4 : Value) : Below w.heap.size w (set5a w1 g i d0 d1 d2 d3 d4) :=
  gb_none (gb_setA (gb_setA (gb_setA (gb_setA (gb_setA (gb_below h) hg _ _) hg _ _) hg _ _) hg _ _) hg _ _)

/- What is said of twin. -/
def TwinC (d : Nat) : Prop := ∀ (w : World) (ok : Nat → Prop) (x : V) (xv : Value), VIs w ok d x xv → Nice x →
    Calls Tryd.prog 49 #[xv] w fun e w' => ∃ r, e = .returned r ∧ Below w.heap.size w w' ∧ In w' (fun k => w.heap.size ≤ k) x r
/- So far: the first k items are twins. -/
def TwL (w : World) (x : V) (cs : List Value) (ka' la' : Option Addr) (kc' lc' k : Nat) (wr : World) : Prop :=
  ∃ ns : List Value, BoxIs wr w.heap.size (.int .i64 x.kind) (.int .i64 x.n) (.string ⟨x.s.toArray⟩) (.slice ka' x.keys.length kc') (.slice la' x.l.length lc') ∧ BoxIs wr (w.heap.size + 1) (.int .i64 0) (.int .i64 0) (.string ⟨#[]⟩) (.slice none 0 0) (.slice none 0 0) ∧ Below w.heap.size w wr ∧ wr.ownsRow (w.heap.size + 2) 9 1 (.slice ka' x.keys.length kc') x.keys.length (x.keys.map str) ∧ wr.ownsRow (w.heap.size + 2) 25 5 (.slice la' x.l.length lc') x.l.length (ns ++ cs.drop (k * 5)) ∧ RowV (In wr (fun j => w.heap.size + 2 ≤ j ∧ la' ≠ some ⟨j, 0, none⟩)) (x.l.take k) ns
/- Behind both Clones. -/
def TwI (w : World) (x : V) (cs : List Value) (wc : World) : Prop :=
  ∃ (ka' la' : Option Addr) (kc' lc' : Nat), BoxIs wc w.heap.size (.int .i64 x.kind) (.int .i64 x.n) (.string ⟨x.s.toArray⟩) (.slice ka' x.keys.length kc') (.slice la' x.l.length lc') ∧ BoxIs wc (w.heap.size + 1) (.int .i64 0) (.int .i64 0) (.string ⟨#[]⟩) (.slice none 0 0) (.slice none 0 0) ∧ Below w.heap.size w wc ∧ wc.ownsRow (w.heap.size + 2) 9 1 (.slice ka' x.keys.length kc') x.keys.length (x.keys.map str) ∧ wc.ownsRow (w.heap.size + 2) 25 5 (.slice la' x.l.length lc') x.l.length cs ∧ (∀ g, ka' = some ⟨g, 0, none⟩ → la' ≠ some ⟨g, 0, none⟩)

set_option maxRecDepth 100000 in
set_option maxHeartbeats 40000000 in
theorem twin_succ (d : Nat) (ih : TwinC d) : TwinC (d + 1) := by
  intro w ok x xv h hn
  have hlen := nice_len hn
  have hklen : x.keys.length ≤ 120 := shaped_keys (nice_shaped hn) hlen
  obtain ⟨ks, ls, rfl, h1, h2, h3, h4, h5⟩ := h
  have sk := strs_sl h4 (by omega)
  obtain ⟨cs, hrow, sl⟩ := vals_sl h5 (by omega)
  obtain ⟨ka, kc, rfl⟩ := h4.form
  obtain ⟨la, lc, rfl⟩ := h5.form
  have KK : Hid (I64 x.kind ∧ I64 x.n ∧ x.s.length ≤ maxLen ∧ (∀ y ∈ x.keys, y.length ≤ maxLen)) := ⟨h1, h2, h3, fun y hy => h4.mem y hy⟩
  have RW := hidI hrow
  have SK := hidI sk
  have SL := hidI sl
  have IH := hidI ih
  have HN := hidI hn
  clear h1 h2 h3 h4 h5 hrow sk sl ih hn
  unfold str
  have bx0 : Hid (∀ W, W.heap = ((w.alloc (.cells #[.int .i64 x.kind, .int .i64 x.n, .string ⟨x.s.toArray⟩, .slice ka x.keys.length kc, .slice la x.l.length lc] 25)).alloc (.cells #[.int .i64 0, .int .i64 0, .string ⟨#[]⟩, .slice none 0 0, .slice none 0 0] 25)).heap → W.os = w.os → W.tape = w.tape → W.output = w.output → BoxIs W w.heap.size (.int .i64 x.kind) (.int .i64 x.n) (.string ⟨x.s.toArray⟩) (.slice ka x.keys.length kc) (.slice la x.l.length lc) ∧ BoxIs W (w.heap.size + 1) (.int .i64 0) (.int .i64 0) (.string ⟨#[]⟩) (.slice none 0 0) (.slice none 0 0) ∧ Below w.heap.size w W ∧ w.heap.size + 2 ≤ W.heap.size) := by
    intro W e1 e2 e3 e4
    exact ⟨by unfold BoxIs; rw [e1]; exact h2a w _ _, by unfold BoxIs; rw [e1]; exact h2b w _ _, bel_of2 e1 e2 e3 e4, by rw [e1]; simp⟩
  have conS1 : Hid (∀ W, (BoxIs W w.heap.size (.int .i64 x.kind) (.int .i64 x.n) (.string ⟨x.s.toArray⟩) (.slice ka x.keys.length kc) (.slice la x.l.length lc) ∧ BoxIs W (w.heap.size + 1) (.int .i64 0) (.int .i64 0) (.string ⟨#[]⟩) (.slice none 0 0) (.slice none 0 0) ∧ Below w.heap.size w W ∧ w.heap.size + 2 ≤ W.heap.size) → Calls Tryd.prog 67 #[(.slice ka x.keys.length kc)] W fun e w' => ∃ ka' kc', e = .returned (.slice ka' x.keys.length kc') ∧ (BoxIs w' w.heap.size (.int .i64 x.kind) (.int .i64 x.n) (.string ⟨x.s.toArray⟩) (.slice ka x.keys.length kc) (.slice la x.l.length lc) ∧ BoxIs w' (w.heap.size + 1) (.int .i64 0) (.int .i64 0) (.string ⟨#[]⟩) (.slice none 0 0) (.slice none 0 0) ∧ Below w.heap.size w w' ∧ w.heap.size + 2 ≤ w'.heap.size) ∧ w'.ownsRow (w.heap.size + 2) 9 1 (.slice ka' x.keys.length kc') x.keys.length (x.keys.map str)) := by
    intro W hW
    refine (cloneS W _ _ _ (SK.out.bel hW.2.2.1)).mono ?_
    rintro e w' ⟨v', rfl, ho, hb⟩
    obtain ⟨a, c, rfl, -⟩ := own_form ho
    exact ⟨a, c, rfl, ⟨box_bel hb hW.1, box_bel hb hW.2.1, bel_trans hW.2.2.1 hb, Nat.le_trans hW.2.2.2 hb.size⟩, own_base ho hW.2.2.2⟩
  have conV1 : Hid (∀ W, (BoxIs W w.heap.size (.int .i64 x.kind) (.int .i64 x.n) (.string ⟨x.s.toArray⟩) (.slice ka x.keys.length kc) (.slice la x.l.length lc) ∧ BoxIs W (w.heap.size + 1) (.int .i64 0) (.int .i64 0) (.string ⟨#[]⟩) (.slice none 0 0) (.slice none 0 0) ∧ Below w.heap.size w W ∧ w.heap.size + 2 ≤ W.heap.size) → Calls Tryd.prog 68 #[(.slice la x.l.length lc)] W fun e w' => ∃ la' lc', e = .returned (.slice la' x.l.length lc') ∧ (BoxIs w' w.heap.size (.int .i64 x.kind) (.int .i64 x.n) (.string ⟨x.s.toArray⟩) (.slice ka x.keys.length kc) (.slice la x.l.length lc) ∧ BoxIs w' (w.heap.size + 1) (.int .i64 0) (.int .i64 0) (.string ⟨#[]⟩) (.slice none 0 0) (.slice none 0 0) ∧ Below w.heap.size w w' ∧ w.heap.size + 2 ≤ w'.heap.size) ∧ w'.ownsRow (w.heap.size + 2) 25 5 (.slice la' x.l.length lc') x.l.length cs) := by
    intro W hW
    refine (cloneV W _ _ _ (SL.out.bel hW.2.2.1)).mono ?_
    rintro e w' ⟨v', rfl, ho, hb⟩
    obtain ⟨a, c, rfl, -⟩ := own_form ho
    exact ⟨a, c, rfl, ⟨box_bel hb hW.1, box_bel hb hW.2.1, bel_trans hW.2.2.1 hb, Nat.le_trans hW.2.2.2 hb.size⟩, own_base ho hW.2.2.2⟩
  have conV2 : Hid (∀ W ka' kc', ((BoxIs W w.heap.size (.int .i64 x.kind) (.int .i64 x.n) (.string ⟨x.s.toArray⟩) (.slice ka x.keys.length kc) (.slice la x.l.length lc) ∧ BoxIs W (w.heap.size + 1) (.int .i64 0) (.int .i64 0) (.string ⟨#[]⟩) (.slice none 0 0) (.slice none 0 0) ∧ Below w.heap.size w W ∧ w.heap.size + 2 ≤ W.heap.size) ∧ W.ownsRow (w.heap.size + 2) 9 1 (.slice ka' x.keys.length kc') x.keys.length (x.keys.map str)) → Calls Tryd.prog 68 #[(.slice la x.l.length lc)] W fun e w' => ∃ la' lc', e = .returned (.slice la' x.l.length lc') ∧ (BoxIs w' w.heap.size (.int .i64 x.kind) (.int .i64 x.n) (.string ⟨x.s.toArray⟩) (.slice ka x.keys.length kc) (.slice la x.l.length lc) ∧ BoxIs w' (w.heap.size + 1) (.int .i64 0) (.int .i64 0) (.string ⟨#[]⟩) (.slice none 0 0) (.slice none 0 0) ∧ Below w.heap.size w w' ∧ w.heap.size + 2 ≤ w'.heap.size) ∧ w'.ownsRow (w.heap.size + 2) 9 1 (.slice ka' x.keys.length kc') x.keys.length (x.keys.map str) ∧ w'.ownsRow (w.heap.size + 2) 25 5 (.slice la' x.l.length lc') x.l.length cs ∧ (∀ g, ka' = some ⟨g, 0, none⟩ → la' ≠ some ⟨g, 0, none⟩)) := by
    intro W ka' kc' hW
    refine (cloneV W _ _ _ (SL.out.bel hW.1.2.2.1)).mono ?_
    rintro e w' ⟨v', rfl, ho, hb⟩
    obtain ⟨a, c, rfl, -, -, -, hg⟩ := own_form ho
    refine ⟨a, c, rfl, ⟨box_bel hb hW.1.1, box_bel hb hW.1.2.1, bel_trans hW.1.2.2.1 hb, Nat.le_trans hW.1.2.2.2 hb.size⟩, own_bel hW.2 hb, own_base ho hW.1.2.2.2, fun g e1 e2 => ?_⟩
    have := (hg g e2).1
    have := (hW.2.lt g (by rw [e1]; rfl)).2
    omega
  have conS2 : Hid (∀ W la' lc', ((BoxIs W w.heap.size (.int .i64 x.kind) (.int .i64 x.n) (.string ⟨x.s.toArray⟩) (.slice ka x.keys.length kc) (.slice la x.l.length lc) ∧ BoxIs W (w.heap.size + 1) (.int .i64 0) (.int .i64 0) (.string ⟨#[]⟩) (.slice none 0 0) (.slice none 0 0) ∧ Below w.heap.size w W ∧ w.heap.size + 2 ≤ W.heap.size) ∧ W.ownsRow (w.heap.size + 2) 25 5 (.slice la' x.l.length lc') x.l.length cs) → Calls Tryd.prog 67 #[(.slice ka x.keys.length kc)] W fun e w' => ∃ ka' kc', e = .returned (.slice ka' x.keys.length kc') ∧ (BoxIs w' w.heap.size (.int .i64 x.kind) (.int .i64 x.n) (.string ⟨x.s.toArray⟩) (.slice ka x.keys.length kc) (.slice la x.l.length lc) ∧ BoxIs w' (w.heap.size + 1) (.int .i64 0) (.int .i64 0) (.string ⟨#[]⟩) (.slice none 0 0) (.slice none 0 0) ∧ Below w.heap.size w w' ∧ w.heap.size + 2 ≤ w'.heap.size) ∧ w'.ownsRow (w.heap.size + 2) 9 1 (.slice ka' x.keys.length kc') x.keys.length (x.keys.map str) ∧ w'.ownsRow (w.heap.size + 2) 25 5 (.slice la' x.l.length lc') x.l.length cs ∧ (∀ g, ka' = some ⟨g, 0, none⟩ → la' ≠ some ⟨g, 0, none⟩)) := by
    intro W la' lc' hW
    refine (cloneS W _ _ _ (SK.out.bel hW.1.2.2.1)).mono ?_
    rintro e w' ⟨v', rfl, ho, hb⟩
    obtain ⟨a, c, rfl, -, -, -, hg⟩ := own_form ho
    refine ⟨a, c, rfl, ⟨box_bel hb hW.1.1, box_bel hb hW.1.2.1, bel_trans hW.1.2.2.1 hb, Nat.le_trans hW.1.2.2.2 hb.size⟩, own_base ho hW.1.2.2.2, own_bel hW.2 hb, fun g e1 e2 => ?_⟩
    have := (hg g e1).1
    have := (hW.2.lt g (by rw [e2]; rfl)).2
    omega
  have midI : Hid (∀ (wb : World) (ka' la' : Option Addr) (kc' lc' : Nat), ((BoxIs wb w.heap.size (.int .i64 x.kind) (.int .i64 x.n) (.string ⟨x.s.toArray⟩) (.slice ka x.keys.length kc) (.slice la x.l.length lc) ∧ BoxIs wb (w.heap.size + 1) (.int .i64 0) (.int .i64 0) (.string ⟨#[]⟩) (.slice none 0 0) (.slice none 0 0) ∧ Below w.heap.size w wb ∧ w.heap.size + 2 ≤ wb.heap.size) ∧ wb.ownsRow (w.heap.size + 2) 9 1 (.slice ka' x.keys.length kc') x.keys.length (x.keys.map str) ∧ wb.ownsRow (w.heap.size + 2) 25 5 (.slice la' x.l.length lc') x.l.length cs ∧ (∀ g, ka' = some ⟨g, 0, none⟩ → la' ≠ some ⟨g, 0, none⟩)) → ∀ W, (W = (wb.setCell ⟨w.heap.size, 3, none⟩ (.slice ka' x.keys.length kc')).setCell ⟨w.heap.size, 4, none⟩ (.slice la' x.l.length lc') ∨ W = (wb.setCell ⟨w.heap.size, 4, none⟩ (.slice la' x.l.length lc')).setCell ⟨w.heap.size, 3, none⟩ (.slice ka' x.keys.length kc')) → TwI w x cs W) := by
    intro wb ka' la' kc' lc' hw W hW
    have g1 : ∀ (i j : Nat) (u v : Value), wb.grownBy ((wb.setCell ⟨w.heap.size, i, none⟩ u).setCell ⟨w.heap.size, j, none⟩ v) (some w.heap.size) := fun i j u v => gb_set (gb_set (gb_refl _ _) _ _) _ _
    refine ⟨ka', la', kc', lc', ?_⟩
    rcases hW with rfl | rfl
    · exact ⟨heap_set (heap_set hw.1.1 3 _) 4 _, hw.1.2.1.grown (g1 _ _ _ _) (by simp), gb_none (gb_setA (gb_setA (gb_below hw.1.2.2.1) (Nat.le_refl _) _ _) (Nat.le_refl _) _ _), own_kept' hw.2.1 (g1 _ _ _ _) (by omega), own_kept' hw.2.2.1 (g1 _ _ _ _) (by omega), hw.2.2.2⟩
    · exact ⟨heap_set (heap_set hw.1.1 4 _) 3 _, hw.1.2.1.grown (g1 _ _ _ _) (by simp), gb_none (gb_setA (gb_setA (gb_below hw.1.2.2.1) (Nat.le_refl _) _ _) (Nat.le_refl _) _ _), own_kept' hw.2.1 (g1 _ _ _ _) (by omega), own_kept' hw.2.2.1 (g1 _ _ _ _) (by omega), hw.2.2.2⟩
  go_enter Tryd.func49, Tryd.ntmps49
  go_upto_region 1 with fail
  go_cut [] (fun wc => TwI w x cs wc)
  case first =>
    go_region_with (first
      | (go_at_call 67; refine (conS1.out _ (bx0.out _ (by rfl) (by rfl) (by rfl) (by rfl))).mono ?_; rintro e wa ⟨ka', kc', rfl, hka⟩; obtain ⟨p0, p1, p2, p3, p4, p5, p6, p7, p8, p9⟩ := hka.1.1.c; have KA := hidI hka; clear hka)
      | (go_at_call 68; refine (conV1.out _ (bx0.out _ (by rfl) (by rfl) (by rfl) (by rfl))).mono ?_; rintro e wa ⟨la', lc', rfl, hka⟩; obtain ⟨p0, p1, p2, p3, p4, p5, p6, p7, p8, p9⟩ := hka.1.1.c; have KA := hidI hka; clear hka)
      | (go_at_call 67; refine (conS2.out _ la' lc' (by exact KA.out)).mono ?_; rintro e wb ⟨ka', kc', rfl, hkb⟩; clear p0 p1 p2 p3 p4 p5 p6 p7 p8 p9; obtain ⟨p0, p1, p2, p3, p4, p5, p6, p7, p8, p9⟩ := hkb.1.1.c; have KB := hidI hkb; clear hkb)
      | (go_at_call 68; refine (conV2.out _ ka' kc' (by exact KA.out)).mono ?_; rintro e wb ⟨la', lc', rfl, hkb⟩; clear p0 p1 p2 p3 p4 p5 p6 p7 p8 p9; obtain ⟨p0, p1, p2, p3, p4, p5, p6, p7, p8, p9⟩ := hkb.1.1.c; have KB := hidI hkb; clear hkb))
    all_goals
      go_wp2_with fail
      go_meet
      case rel => first | exact midI.out _ ka' la' kc' lc' KB.out _ (.inl rfl) | exact midI.out _ ka' la' kc' lc' KB.out _ (.inr rfl)
  case rest =>
    obtain ⟨ka', la', kc', lc', k1, k2, k3, k4, k5, k6⟩ := hcut
    have hcs := RW.out.length
    have KF := hidI k6
    have TL0 : Hid (TwL w x cs ka' la' kc' lc' 0 wc) := ⟨[], k1, k2, k3, k4, by simpa using k5, rfl⟩
    obtain ⟨a9, c9, e9, hla, hlc1, hlc2, hlg⟩ := own_form k5
    simp only [Value.slice.injEq] at e9
    obtain ⟨rfl, -, rfl⟩ := e9
    obtain ⟨p0, p1, p2, p3, p4, -⟩ := k1.c
    clear k1 k2 k3 k4 k5 k6 conS1 conS2 conV1 conV2 midI bx0 hlg
    go_wp2_with fail
    go_loopg [16] x.l.length (fun gk i wr => ∃ k : Nat, k ≤ x.l.length ∧ gk = x.l.length - k ∧ i = .int .i64 k ∧ TwL w x cs ka' la' kc' lc' k wr)
    case atStart => exact ⟨0, Nat.zero_le _, rfl, rfl, TL0.out⟩
    case round =>
      obtain ⟨k, hk, hgk, rfl, ns, i1, i2, i3, i4, i5, i6⟩ := hrel
      have GK := hidI hgk
      have I : Hid (BoxIs wr w.heap.size (.int .i64 x.kind) (.int .i64 x.n) (.string ⟨x.s.toArray⟩) (.slice ka' x.keys.length kc') (.slice la' x.l.length lc') ∧ BoxIs wr (w.heap.size + 1) (.int .i64 0) (.int .i64 0) (.string ⟨#[]⟩) (.slice none 0 0) (.slice none 0 0) ∧ Below w.heap.size w wr ∧ wr.ownsRow (w.heap.size + 2) 9 1 (.slice ka' x.keys.length kc') x.keys.length (x.keys.map str) ∧ wr.ownsRow (w.heap.size + 2) 25 5 (.slice la' x.l.length lc') x.l.length (ns ++ cs.drop (k * 5)) ∧ RowV (In wr (fun j => w.heap.size + 2 ≤ j ∧ la' ≠ some ⟨j, 0, none⟩)) (x.l.take k) ns) := ⟨i1, i2, i3, i4, i5, i6⟩
      clear hgk i1 i2 i3 i4 i5 i6 p0 p1 p2 p3 p4
      by_cases hlt : k < x.l.length
      · obtain ⟨gl, rfl⟩ : ∃ gl, la' = some ⟨gl, 0, none⟩ := by
          rcases hla with h0 | h0
          · omega
          · exact h0
        obtain ⟨v0, v1, v2, v3, v4, g0, g1, g2, g3, g4, g5⟩ := RW.out.get k x.l[k] (List.getElem?_eq_getElem hlt)
        have hns : ns.length = k * 5 := by have := I.out.2.2.2.2.2.length; rw [List.length_take, Nat.min_eq_left hk] at this; exact this
        have G5 := hidI g5
        have hdrop : cs.drop (k * 5) = v0 :: v1 :: v2 :: v3 :: v4 :: cs.drop ((k + 1) * 5) := drop5 g0 g1 g2 g3 g4
        obtain ⟨rfl, rfl, rfl, ⟨a5, c5, rfl⟩, ⟨a6, c6, rfl⟩⟩ := g5.agg
        have DR := hidI hdrop
        have hgl := (I.out.2.2.2.2.1.lt gl rfl)
        have cel := own_cells5 (by rw [← hdrop]; exact I.out.2.2.2.2.1) hns
        obtain ⟨m0, m1, m2, m3, m4⟩ := cel
        obtain ⟨p0, p1, p2, p3, p4, -⟩ := I.out.1.c
        have p4' := (box_bel (bel_alloc wr (.cells #[.int .i64 x.l[k].kind, .int .i64 x.l[k].n, .string ⟨x.l[k].s.toArray⟩, .slice a5 x.l[k].keys.length c5, .slice a6 x.l[k].l.length c6] 25)) I.out.1).c.2.2.2.2.1
        have con5 : Hid (∀ W, W.heap = (wr.alloc (.cells #[.int .i64 x.l[k].kind, .int .i64 x.l[k].n, .string ⟨x.l[k].s.toArray⟩, .slice a5 x.l[k].keys.length c5, .slice a6 x.l[k].l.length c6] 25)).heap → W.os = wr.os → W.tape = wr.tape → W.output = wr.output → Calls Tryd.prog 49 #[.agg #[.int .i64 x.l[k].kind, .int .i64 x.l[k].n, .string ⟨x.l[k].s.toArray⟩, .slice a5 x.l[k].keys.length c5, .slice a6 x.l[k].l.length c6]] W fun e w' => ∃ (b5 b6 : Option Addr) (d5 d6 : Nat), e = .returned (.agg #[.int .i64 x.l[k].kind, .int .i64 x.l[k].n, .string ⟨x.l[k].s.toArray⟩, .slice b5 x.l[k].keys.length d5, .slice b6 x.l[k].l.length d6]) ∧ w'.cell? ⟨w.heap.size, 4, none⟩ = some (.slice (some ⟨gl, 0, none⟩) x.l.length lc') ∧
            (Own5 w' gl (k * 5)) ∧ ∀ W', W' = set5a w' gl (k * 5) (.int .i64 x.l[k].kind) (.int .i64 x.l[k].n) (.string ⟨x.l[k].s.toArray⟩) (.slice b5 x.l[k].keys.length d5) (.slice b6 x.l[k].l.length d6) → TwL w x cs ka' (some ⟨gl, 0, none⟩) kc' lc' (k + 1) W') := by
          intro W e1 e2 e3 e4
          have hbW : Below wr.heap.size wr W := by
            have := bel_alloc wr (.cells #[.int .i64 x.l[k].kind, .int .i64 x.l[k].n, .string ⟨x.l[k].s.toArray⟩, .slice a5 x.l[k].keys.length c5, .slice a6 x.l[k].l.length c6] 25)
            exact ⟨e2, e3, e4, by rw [e1]; exact this.size, fun j hj => by rw [e1]; exact this.block j hj⟩
          refine (IH.out W ok x.l[k] _ (G5.out.bel (bel_trans I.out.2.2.1 hbW)) (nice_mem HN.out (List.getElem_mem _))).mono ?_
          rintro e w' ⟨r, rfl, hb, hr⟩
          obtain ⟨b5, b6, d5, d6, rfl⟩ := hr.form
          have hb3 := bel_trans hbW hb
          have oL := own_bel I.out.2.2.2.2.1 hb3
          rw [DR.out] at oL
          have hWs : wr.heap.size ≤ W.heap.size := hbW.size
          refine ⟨b5, b6, d5, d6, rfl, (box_bel hb3 I.out.1).c.2.2.2.2.1, own5_of oL hns, ?_⟩
          rintro W' rfl
          have gs := set5a_gb w' gl (k * 5) (.int .i64 x.l[k].kind) (.int .i64 x.l[k].n) (.string ⟨x.l[k].s.toArray⟩) (.slice b5 x.l[k].keys.length d5) (.slice b6 x.l[k].l.length d6)
          refine ⟨ns ++ [.int .i64 x.l[k].kind, .int .i64 x.l[k].n, .string ⟨x.l[k].s.toArray⟩, .slice b5 x.l[k].keys.length d5, .slice b6 x.l[k].l.length d6], (box_bel hb3 I.out.1).grown gs (by simp; omega), (box_bel hb3 I.out.2.1).grown gs (by simp; omega), bel_set5a (bel_trans I.out.2.2.1 hb3) (by omega) _ _ _ _ _ _, ?_, ?_, ?_⟩
          · refine (own_bel I.out.2.2.2.1 hb3).kept gs ?_
            rcases own_block I.out.2.2.2.1 with e | ⟨g, e⟩
            · rw [e]; exact .inl rfl
            · rw [e]
              refine .inr fun e9 => KF.out g e ?_
              simp only [Value.ownBlock, Option.some.injEq] at e9
              rw [e9]
          · have := own_set (d0 := .int .i64 x.l[k].kind) (d1 := .int .i64 x.l[k].n) (d2 := .string ⟨x.l[k].s.toArray⟩) (d3 := .slice b5 x.l[k].keys.length d5) (d4 := .slice b6 x.l[k].l.length d6) oL
            rw [hns] at this
            rw [List.append_assoc]
            exact this
          · rw [List.take_add_one, List.getElem?_eq_getElem hlt]
            refine RowV.append (ys := [x.l[k]]) ⟨_, _, _, _, _, [], rfl, (hr.weak (ok' := fun j => w.heap.size + 2 ≤ j ∧ some ⟨gl, 0, none⟩ ≠ some (⟨j, 0, none⟩ : Addr)) (fun j hj => ⟨by omega, fun e => by simp only [Option.some.injEq, Addr.mk.injEq, and_true] at e; omega⟩)).grown gs (fun j hj e => hj.2 (by rw [e])), rfl⟩ (I.out.2.2.2.2.2.imp fun y v hy => (hy.bel hb3).grown gs (fun j hj e => hj.2 (by rw [e])))
        clear g0 g1 g2 g3 g4 g5 hdrop
        go_upto_region 5 with fail
        go_region_with ((go_at_call 49; refine (con5.out _ (by rfl) (by rfl) (by rfl) (by rfl)).mono ?_; rintro e w2 ⟨b5, b6, d5, d6, rfl, hp4, hown, hfin⟩; obtain ⟨⟨t0, n0⟩, ⟨t1, n1⟩, ⟨t2, n2⟩, ⟨t3, n3⟩, ⟨t4, n4⟩, f0, f1, f2, f3, f4⟩ := hown; have FIN := hidI hfin; clear hfin))
        all_goals
          go_wp2_with fail
          go_roundg (x.l.length - (k + 1))
          case measure => rw [GK.out]; omega
          case rel => exact ⟨k + 1, hlt, rfl, by go_num, FIN.out _ rfl⟩
      · have hke : k = x.l.length := by omega
        subst hke
        obtain ⟨D, hD⟩ := row_depth I.out.2.2.2.2.2
        rw [List.take_length] at hD
        have oL := I.out.2.2.2.2.1
        rw [← hcs, List.drop_length, List.append_nil] at oL
        have hin : In wr (fun j => w.heap.size + 2 ≤ j) x (.agg #[.int .i64 x.kind, .int .i64 x.n, .string ⟨x.s.toArray⟩, .slice ka' x.keys.length kc', .slice la' x.l.length lc']) := ⟨D + 1, _, _, rfl, KK.out.1, KK.out.2.1, KK.out.2.2.1, own_strs rfl I.out.2.2.2.1 KK.out.2.2.2 (fun j hj => hj) (by unfold maxLen; omega), own_vals rfl oL (hD.imp fun _ _ h => h.weak fun j hj => hj.1) (fun j hj => hj) (by unfold maxLen; omega)⟩
        obtain ⟨p0, p1, p2, p3, p4, -⟩ := I.out.1.c
        obtain ⟨x0, x1, x2, x3, x4, y0, y1, y2, y3, y4⟩ := I.out.2.1.c
        have ZI := hidI ((hin.grown (set5_gb wr (w.heap.size + 1) (.int .i64 x.kind) (.int .i64 x.n) (.string ⟨x.s.toArray⟩) (.slice ka' x.keys.length kc') (.slice la' x.l.length lc')) (fun j hj e => by omega)).weak (ok' := fun j => w.heap.size ≤ j) (fun j hj => by omega))
        have ZW := hidI (bel_set5 I.out.2.2.1 (Nat.le_succ w.heap.size) (.int .i64 x.kind) (.int .i64 x.n) (.string ⟨x.s.toArray⟩) (.slice ka' x.keys.length kc') (.slice la' x.l.length lc'))
        have ZB := hidI (I.out.2.1.set (.int .i64 x.kind) (.int .i64 x.n) (.string ⟨x.s.toArray⟩) (.slice ka' x.keys.length kc') (.slice la' x.l.length lc'))
        clear hin oL hD
        go_wp2_with fail
        obtain ⟨z0, z1, z2, z3, z4, -⟩ := ZB.out.c
        refine bodyPost_ret (v := .agg #[.int .i64 x.kind, .int .i64 x.n, .string ⟨x.s.toArray⟩, .slice ka' x.keys.length kc', .slice la' x.l.length lc']) ?_ rfl ?_
        · simp only [set5] at z0 z1 z2 z3 z4
          simp [results, Tryd.results49, go_sem, z0, z1, z2, z3, z4]
        · exact ⟨_, rfl, ZW.out, ZI.out⟩
theorem twin_all (d : Nat) : TwinC d := by
  induction d with
  | zero => exact fun _ _ _ _ h _ => h.elim
  | succ d ih => exact twin_succ d ih
theorem twin_is (w : World) (ok : Nat → Prop) (x : V) (xv : Value) (h : In w ok x xv) (hn : Nice x) :
    Calls Tryd.prog 49 #[xv] w fun e w' => ∃ r, e = .returned r ∧ Below w.heap.size w w' ∧ In w' (fun k => w.heap.size ≤ k) x r := by
  obtain ⟨d, h⟩ := h; exact twin_all d w ok x xv h hn
theorem nice_get : ∀ (ns : List (List UInt8)) (t y : V), Nice t → getV ns t = some y → Nice y
  | [], t, y, ht, h => by rw [getV] at h; cases h; exact ht
  | s :: ns, t, y, ht, h => by
    rw [getV, Option.bind_eq_some_iff] at h
    obtain ⟨u, h1, h2⟩ := h
    exact nice_get ns u y (nice_meant ht h1) h2
end Go.Proofs.YthaoelchpaofkacDoor
