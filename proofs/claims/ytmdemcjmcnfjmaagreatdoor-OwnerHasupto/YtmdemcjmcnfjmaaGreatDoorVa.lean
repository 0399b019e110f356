/- Values as trees: what a value of the program's is in memory. -/
import Derived.Test.YtmdemcjmcnfjmaaGreatDoorAa
import Derived.Deep.RegionHeld3
import Derived.Deep.AppendLies
set_option linter.unusedSimpArgs false
set_option linter.unusedVariables false
namespace Go.Proofs.YtmdemcjmcnfjmaaGreatDoor
open Go.RowKit

structure V where
  kind : Int
  n : Int
  s : List UInt8
  keys : List (List UInt8)
  l : List V

def kh : List UInt8 → Prop := fun l => l.length ≤ maxLen

/- A list of texts, in blocks that ok lets. -/
def StrsAre (w : World) (ok : Nat → Prop) (xs : List (List UInt8)) (v : Value) : Prop :=
  xs.length ≤ maxLen ∧ (xs = [] ∧ (∃ a, v = .slice a 0 0) ∨ ∃ b off c, v = .slice (some ⟨b, off, none⟩) xs.length c ∧ xs.length ≤ c ∧ c ≤ maxLen ∧
    ∀ i x, xs[i]? = some x → x.length ≤ maxLen ∧ ok b ∧ w.cell? ⟨b, off + i, none⟩ = some (str x))

/- A list of values, of which R says what each is. -/
def ValsAre (w : World) (ok : Nat → Prop) (R : V → Value → Prop) (xs : List V) (v : Value) : Prop :=
  xs.length ≤ maxLen ∧ (xs = [] ∧ (∃ a, v = .slice a 0 0) ∨ ∃ b off c, v = .slice (some ⟨b, off, none⟩) xs.length c ∧ xs.length ≤ c ∧ c ≤ maxLen ∧
    ∀ i x, xs[i]? = some x → ∃ v0 v1 v2 v3 v4, ok b ∧ w.cell? ⟨b, off + i * 5, none⟩ = some v0 ∧ w.cell? ⟨b, off + i * 5 + 1, none⟩ = some v1 ∧ w.cell? ⟨b, off + i * 5 + 2, none⟩ = some v2 ∧
      w.cell? ⟨b, off + i * 5 + 3, none⟩ = some v3 ∧ w.cell? ⟨b, off + i * 5 + 4, none⟩ = some v4 ∧ R x (.agg #[v0, v1, v2, v3, v4]))

def VIs (w : World) (ok : Nat → Prop) : Nat → V → Value → Prop
  | 0, _, _ => False
  | n + 1, t, v => ∃ ks ls, v = .agg #[.int .i64 t.kind, .int .i64 t.n, str t.s, ks, ls] ∧ I64 t.kind ∧ I64 t.n ∧ t.s.length ≤ maxLen ∧ StrsAre w ok t.keys ks ∧ ValsAre w ok (VIs w ok n) t.l ls

theorem StrsAre.imp {w w' : World} {ok ok' : Nat → Prop} {xs : List (List UInt8)} {v : Value} (h : StrsAre w ok xs v)
    (hc : ∀ a x, ok a.block → w.cell? a = some x → ok' a.block ∧ w'.cell? a = some x) : StrsAre w' ok' xs v := by
  refine ⟨h.1, ?_⟩
  rcases h.2 with h | ⟨b, off, c, e, h1, h2, h3⟩
  · exact .inl h
  · refine .inr ⟨b, off, c, e, h1, h2, fun i x hx => ?_⟩
    obtain ⟨g1, g2, g3⟩ := h3 i x hx
    exact ⟨g1, hc ⟨b, off + i, none⟩ _ g2 g3⟩
theorem ValsAre.imp {w w' : World} {ok ok' : Nat → Prop} {R R' : V → Value → Prop} {xs : List V} {v : Value} (h : ValsAre w ok R xs v)
    (hc : ∀ a x, ok a.block → w.cell? a = some x → ok' a.block ∧ w'.cell? a = some x) (hR : ∀ x v, x ∈ xs → R x v → R' x v) : ValsAre w' ok' R' xs v := by
  refine ⟨h.1, ?_⟩
  rcases h.2 with h | ⟨b, off, c, e, h1, h2, h3⟩
  · exact .inl h
  · refine .inr ⟨b, off, c, e, h1, h2, fun i x hx => ?_⟩
    obtain ⟨v0, v1, v2, v3, v4, g, g0, g1, g2, g3, g4, g5⟩ := h3 i x hx
    exact ⟨v0, v1, v2, v3, v4, (hc ⟨b, off + i * 5, none⟩ _ g g0).1, (hc ⟨b, off + i * 5, none⟩ _ g g0).2, (hc ⟨b, _, none⟩ _ g g1).2, (hc ⟨b, _, none⟩ _ g g2).2, (hc ⟨b, _, none⟩ _ g g3).2, (hc ⟨b, _, none⟩ _ g g4).2,
      hR _ _ (List.mem_of_getElem? hx) g5⟩
theorem VIs.imp {w w' : World} {ok ok' : Nat → Prop} (hc : ∀ a x, ok a.block → w.cell? a = some x → ok' a.block ∧ w'.cell? a = some x) (n : Nat) :
    ∀ {t : V} {v : Value}, VIs w ok n t v → VIs w' ok' n t v := by
  induction n with
  | zero => intro t v h; exact h
  | succ n ih =>
    intro t v h
    obtain ⟨ks, ls, e, h1, h2, h3, h4, h5⟩ := h
    exact ⟨ks, ls, e, h1, h2, h3, h4.imp hc, h5.imp hc fun x v _ h => ih h⟩
theorem VIs.succ {w : World} {ok : Nat → Prop} (n : Nat) : ∀ {t : V} {v : Value}, VIs w ok n t v → VIs w ok (n + 1) t v := by
  induction n with
  | zero => intro t v h; exact h.elim
  | succ n ih =>
    intro t v h
    obtain ⟨ks, ls, e, h1, h2, h3, h4, h5⟩ := h
    exact ⟨ks, ls, e, h1, h2, h3, h4, h5.imp (fun a x h1 h2 => ⟨h1, h2⟩) fun x v _ h => ih h⟩
theorem VIs.le {w : World} {ok : Nat → Prop} {n m : Nat} (hnm : n ≤ m) {t : V} {v : Value} (h : VIs w ok n t v) : VIs w ok m t v := by
  induction hnm with
  | refl => exact h
  | step _ ih => exact ih.succ

/- What is not the block r stays, whatever else grows. -/
theorem cells_grown {w w' : World} {r : Option Nat} (hg : w.grownBy w' r) {ok : Nat → Prop} (hr : ∀ k, ok k → some k ≠ r) : ∀ a x, ok a.block → w.cell? a = some x → ok a.block ∧ w'.cell? a = some x :=
  fun a x h1 h2 => ⟨h1, hg.cell h2 (hr _ h1)⟩
theorem VIs.grown {w w' : World} {r : Option Nat} {ok : Nat → Prop} {n : Nat} {t : V} {v : Value} (h : VIs w ok n t v) (hg : w.grownBy w' r) (hr : ∀ k, ok k → some k ≠ r) : VIs w' ok n t v :=
  VIs.imp (cells_grown hg hr) n h
theorem VIs.below {w : World} {ok : Nat → Prop} {n : Nat} {t : V} {v : Value} (h : VIs w ok n t v) : VIs w (fun k => ok k ∧ k < w.heap.size) n t v :=
  VIs.imp (fun a x h1 h2 => ⟨⟨h1, World.block_lt_of_cell? w a h2⟩, h2⟩) n h
theorem VIs.weak {w : World} {ok ok' : Nat → Prop} {n : Nat} {t : V} {v : Value} (h : VIs w ok n t v) (hk : ∀ k, ok k → ok' k) : VIs w ok' n t v :=
  VIs.imp (fun a x h1 h2 => ⟨hk _ h1, h2⟩) n h
theorem VIs.same {w w' : World} {ok : Nat → Prop} {n : Nat} {t : V} {v : Value} (h : VIs w ok n t v) (e : w'.heap = w.heap) : VIs w' ok n t v :=
  VIs.imp (fun a x h1 h2 => ⟨h1, (World.cell?_of_block (by rw [e])).trans h2⟩) n h

theorem info25 : (Tryz.prog.info? 25).map (fun i => (i.zero, i.size, i.bytes)) = some (some (.agg #[.int .i64 0, .int .i64 0, .string ⟨#[]⟩, .slice none 0 0, .slice none 0 0]), 5, 80) := by kernel_rfl
theorem info9 : (Tryz.prog.info? 9).map (fun i => (i.zero, i.size, i.bytes)) = some (some (.string ⟨#[]⟩), 1, 16) := by kernel_rfl
def leaf (k n : Int) (s : List UInt8) : Value := .agg #[.int .i64 k, .int .i64 n, str s, .slice none 0 0, .slice none 0 0]
def BoxIs (w : World) (g : Nat) (c0 c1 c2 c3 c4 : Value) : Prop := w.heap[g]? = some (.cells #[c0, c1, c2, c3, c4] 25)
theorem BoxIs.c {w : World} {g : Nat} {c0 c1 c2 c3 c4 : Value} (h : BoxIs w g c0 c1 c2 c3 c4) :
    w.cell? ⟨g, 0, none⟩ = some c0 ∧ w.cell? ⟨g, 1, none⟩ = some c1 ∧ w.cell? ⟨g, 2, none⟩ = some c2 ∧ w.cell? ⟨g, 3, none⟩ = some c3 ∧ w.cell? ⟨g, 4, none⟩ = some c4 ∧
    w.frozen? ⟨g, 0, none⟩ = false ∧ w.frozen? ⟨g, 1, none⟩ = false ∧ w.frozen? ⟨g, 2, none⟩ = false ∧ w.frozen? ⟨g, 3, none⟩ = false ∧ w.frozen? ⟨g, 4, none⟩ = false := by
  unfold BoxIs at h
  refine ⟨?_, ?_, ?_, ?_, ?_, ?_, ?_, ?_, ?_, ?_⟩ <;> simp [World.cell?, World.frozen?, h]
theorem BoxIs.grown {w w' : World} {g : Nat} {c0 c1 c2 c3 c4 : Value} {r : Option Nat} (h : BoxIs w g c0 c1 c2 c3 c4) (hg : w.grownBy w' r) (hr : some g ≠ r) : BoxIs w' g c0 c1 c2 c3 c4 :=
  (hg.block g (Array.getElem?_eq_some_iff.1 h).1 hr).trans h
theorem BoxIs.lt {w : World} {g : Nat} {c0 c1 c2 c3 c4 : Value} (h : BoxIs w g c0 c1 c2 c3 c4) : g < w.heap.size := (Array.getElem?_eq_some_iff.1 h).1

def set5 (w : World) (g : Nat) (d0 d1 d2 d3 d4 : Value) : World :=
  ((((w.setCell ⟨g, 0, none⟩ d0).setCell ⟨g, 1, none⟩ d1).setCell ⟨g, 2, none⟩ d2).setCell ⟨g, 3, none⟩ d3).setCell ⟨g, 4, none⟩ d4
theorem BoxIs.set {w : World} {g : Nat} {c0 c1 c2 c3 c4 : Value} (h : BoxIs w g c0 c1 c2 c3 c4) (d0 d1 d2 d3 d4 : Value) : BoxIs (set5 w g d0 d1 d2 d3 d4) g d0 d1 d2 d3 d4 :=
  heap_set (heap_set (heap_set (heap_set (heap_set h 0 d0) 1 d1) 2 d2) 3 d3) 4 d4
theorem set5_gb (w : World) (g : Nat) (d0 d1 d2 d3 d4 : Value) : w.grownBy (set5 w g d0 d1 d2 d3 d4) (some g) :=
  gb_set (gb_set (gb_set (gb_set (gb_set (gb_refl _ _) _ _) _ _) _ _) _ _) _ _

/- A value without items. -/
end Go.Proofs.YtmdemcjmcnfjmaaGreatDoor
