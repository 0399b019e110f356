/- What CopyValue of package stairwellref does. -/
import Derived.Test.YtmdemcjmcnfjmaaGreatDoorFb
import Derived.Test.YtmdemcjmcnfjmaaGreatDoorTp
import Derived.Deep.DrawnRows
import Derived.Deep.RegionLaw
set_option linter.unusedSimpArgs false
set_option linter.unusedVariables false
namespace Go.Proofs.YtmdemcjmcnfjmaaGreatDoor
open Go.RowKit
attribute [local go_sem ↓] Go.wp_at_zero Go.wp_at_succ

/- How much there is in a value: itself, its keys, its items. -/
def siz : V → Nat
  | ⟨_, _, _, ks, l⟩ => 1 + ks.length + (l.map siz).sum
def sizs (xs : List V) : Nat := (xs.map siz).sum
theorem sizs_cons (x : V) (xs : List V) : sizs (x :: xs) = siz x + sizs xs := by simp [sizs]
theorem siz_eq (t : V) : siz t = 1 + t.keys.length + sizs t.l := by cases t; rw [siz]; rfl
theorem sizs_mem {xs : List V} {x : V} (h : x ∈ xs) : siz x ≤ sizs xs := by
  induction xs with
  | nil => cases h
  | cons y xs ih =>
    rw [sizs_cons]
    rcases List.mem_cons.1 h with rfl | h
    · omega
    · have := ih h; omega
theorem sizs_len : ∀ (xs : List V), xs.length ≤ sizs xs
  | [] => Nat.le_refl _
  | x :: xs => by
    have := sizs_len xs
    have := siz_eq x
    rw [sizs_cons, List.length_cons]; omega
theorem cnts_sizs_of : ∀ (l : List V), (∀ x ∈ l, cnt x ≤ siz x) → cnts l ≤ sizs l
  | [], _ => by simp [cnts, sizs]
  | x :: l, h => by
    rw [cnts_cons, sizs_cons]
    have h1 := h x (by simp)
    have h2 := cnts_sizs_of l fun y hy => h y (by simp [hy])
    omega
theorem cnt_siz : ∀ (t : V), cnt t ≤ siz t
  | ⟨k, n, s, ks, l⟩ => by
    rw [cnt_eq, siz_eq]
    have h : ∀ x ∈ l, cnt x ≤ siz x := fun x hx => cnt_siz x
    have := cnts_sizs_of l h
    simp only
    omega
theorem box_sL {w : World} {g : Nat} {c0 c1 c2 c3 c4 : Value} (h : BoxIs w g c0 c1 c2 c3 c4) (v : Value) : BoxIs (w.setCell ⟨g, 4, none⟩ v) g c0 c1 c2 c3 v := heap_set h 4 v
theorem box_sK {w : World} {g : Nat} {c0 c1 c2 c3 c4 : Value} (h : BoxIs w g c0 c1 c2 c3 c4) (v : Value) : BoxIs (w.setCell ⟨g, 3, none⟩ v) g c0 c1 c2 v c4 := heap_set h 3 v
theorem step_V {w : World} {ops : Array Oper} {o : Oper} {a : Act} {K : Act → World → Prop} {Q : Exit → Act → World → Prop} {E : Prop} (hgd : o.guard = none) (s x : Operand)
    (ho : o.op = .call { callee := .builtin .append, args := #[s, x], argTypes := #[23, 23] }) (B : Nat) (v : Value) (n : Nat) (cs : List Value) (k m : Int) (ss : ByteArray) (a7 a8 : Option Addr) (l7 c7 l8 c8 : Nat) (hs : a.eval s = v)
    (hx : a.eval x = .slice (some ⟨w.heap.size, 0, none⟩) 1 1) (hown : w.ownsRow B 25 5 v n cs) (hB : B ≤ w.heap.size) (hl : n ≤ 1700000000000)
    (hK : ∀ g cap w', w'.ownsRow B 25 5 (.slice (some ⟨g, 0, none⟩) (n + 1) cap) (n + 1) (cs ++ [.int .i64 k, .int .i64 m, .string ss, .slice a7 l7 c7, .slice a8 l8 c8]) → (w.alloc (.cells #[.int .i64 k, .int .i64 m, .string ss, .slice a7 l7 c7, .slice a8 l8 c8] 25)).grownBy w' v.ownBlock → (v.ownBlock = some g ∨ w.heap.size < g) → K (a.put o.dst (.slice (some ⟨g, 0, none⟩) (n + 1) cap)) w') :
    if Region.wanted o (yielded ops a.tmps) = true then Oper.wp Tryz.prog o a (w.alloc (.cells #[.int .i64 k, .int .i64 m, .string ss, .slice a7 l7 c7, .slice a8 l8 c8] 25)) K Q else E := by
  obtain ⟨i0, hi, hz0, hz1, hz2⟩ := info_parts info25
  have hb : BoxIs (w.alloc (.cells #[.int .i64 k, .int .i64 m, .string ss, .slice a7 l7 c7, .slice a8 l8 c8] 25)) w.heap.size (.int .i64 k) (.int .i64 m) (.string ss) (.slice a7 l7 c7) (.slice a8 l8 c8) := heap_alloc_new w _
  refine step_append_lies _ hgd s x 23 ho B 25 i0 _ 5 80 Tryz.underlying23 hi hz0 hz1 hz2 rfl (by decide) v n cs hs (hown.alloc _) ⟨w.heap.size, 0, none⟩ 1 1 [.int .i64 k, .int .i64 m, .string ss, .slice a7 l7 c7, .slice a8 l8 c8] hx rfl (World.news_of_block (cs := #[.int .i64 k, .int .i64 m, .string ss, .slice a7 l7 c7, .slice a8 l8 c8]) hb) (one5 _ _ _ _ _ _ _ _ _) (by decide) (by unfold maxLen; omega) (by omega) (by simp; omega) (w.heap.size + 1) (by simp) ?_
  intro g cap w' ho' hg' hor _
  exact hK g cap w' ho' hg' (hor.imp id fun e => by omega)
/- On the way. -/
def CpI (w : World) (d : Nat) (t : V) (k : Nat) (wr : World) : Prop :=
  ∃ (ka la : Option Addr) (kc lc g0 : Nat) (cs : List Value), BoxIs wr w.heap.size (.int .i64 t.kind) (.int .i64 t.n) (.string ⟨t.s.toArray⟩) (.slice ka t.keys.length kc) (.slice la k lc) ∧ BoxIs wr (w.heap.size + 1) (.int .i64 0) (.int .i64 0) (.string ⟨#[]⟩) (.slice none 0 0) (.slice none 0 0) ∧ wr.ownsRow (w.heap.size + 2) 25 5 (.slice la k lc) k cs ∧ (((.slice la k lc : Value).ownBlock = none ∧ g0 ≤ wr.heap.size) ∨ (.slice la k lc : Value).ownBlock = some g0) ∧ RowV (VIs wr (fun j => w.heap.size + 2 ≤ j ∧ j ≠ g0) d) (t.l.take k) cs ∧ StrsAre wr (fun j => w.heap.size + 2 ≤ j ∧ j ≠ g0) t.keys (.slice ka t.keys.length kc) ∧ Below w.heap.size w wr
theorem StrsAre.bel2 {w w' : World} {ok ok' : Nat → Prop} {r : Option Nat} {xs : List (List UInt8)} {v : Value} (h : StrsAre w ok xs v) (hg : w.grownBy w' r) (hr : ∀ k, ok k → some k ≠ r) (hk : ∀ k, ok k → k < w.heap.size → ok' k) : StrsAre w' ok' xs v :=
  h.imp fun a x h1 h2 => ⟨hk _ h1 (World.block_lt_of_cell? w a h2), hg.cell h2 (hr _ h1)⟩
/- One more is copied. -/
theorem cp_mk {w w3 w4 : World} {d : Nat} {t y : V} {k : Nat} {ka la a7 a8 : Option Addr} {kc lc g0 c7 c8 g cap : Nat} {cs : List Value} (hk : k < t.l.length) (hy : y = t.l[k])
    (bx : BoxIs w3 w.heap.size (.int .i64 t.kind) (.int .i64 t.n) (.string ⟨t.s.toArray⟩) (.slice ka t.keys.length kc) (.slice la k lc)) (bz : BoxIs w3 (w.heap.size + 1) (.int .i64 0) (.int .i64 0) (.string ⟨#[]⟩) (.slice none 0 0) (.slice none 0 0)) (ho : w3.ownsRow (w.heap.size + 2) 25 5 (.slice la k lc) k cs) (hlv : (.slice la k lc : Value).ownBlock = none ∨ (.slice la k lc : Value).ownBlock = some g0)
    (hrow : RowV (VIs w3 (fun j => w.heap.size + 2 ≤ j ∧ j ≠ g0) d) (t.l.take k) cs) (hks : StrsAre w3 (fun j => w.heap.size + 2 ≤ j ∧ j ≠ g0) t.keys (.slice ka t.keys.length kc)) (hb : Below w.heap.size w w3)
    (hv : VIs w3 (fun j => w.heap.size + 2 ≤ j ∧ j ≠ g0) d y (.agg #[.int .i64 y.kind, .int .i64 y.n, .string ⟨y.s.toArray⟩, .slice a7 y.keys.length c7, .slice a8 y.l.length c8]))
    (ho4 : w4.ownsRow (w.heap.size + 2) 25 5 (.slice (some ⟨g, 0, none⟩) (k + 1) cap) (k + 1) (cs ++ [.int .i64 y.kind, .int .i64 y.n, .string ⟨y.s.toArray⟩, .slice a7 y.keys.length c7, .slice a8 y.l.length c8]))
    (hg4 : (w3.alloc (.cells #[.int .i64 y.kind, .int .i64 y.n, .string ⟨y.s.toArray⟩, .slice a7 y.keys.length c7, .slice a8 y.l.length c8] 25)).grownBy w4 (.slice la k lc : Value).ownBlock) (hgg : (.slice la k lc : Value).ownBlock = some g ∨ w3.heap.size < g) :
    CpI w d t (k + 1) (w4.setCell ⟨w.heap.size, 4, none⟩ (.slice (some ⟨g, 0, none⟩) (k + 1) cap)) := by
  have hlow : ∀ j, (.slice la k lc : Value).ownBlock = some j → w.heap.size + 2 ≤ j := fun j hj => (ho.lt j hj).1
  have g34 : w3.grownBy w4 (.slice la k lc : Value).ownBlock := gb_trans (World.grownBy_alloc w3 _ _) hg4
  have g5 : w4.grownBy (w4.setCell ⟨w.heap.size, 4, none⟩ (.slice (some ⟨g, 0, none⟩) (k + 1) cap)) (some w.heap.size) := gb_set (gb_refl _ _) _ _
  have ne : ∀ j, j < w.heap.size + 2 → some j ≠ (.slice la k lc : Value).ownBlock := fun j hj e => by have := hlow j e.symm; omega
  have neR : ∀ j, (fun j => w.heap.size + 2 ≤ j ∧ j ≠ g0) j → some j ≠ (.slice la k lc : Value).ownBlock := by
    intro j hj e
    rcases hlv with h0 | h0 <;> rw [h0] at e <;> simp at e
    exact hj.2 e
  have up : ∀ j, (fun j => w.heap.size + 2 ≤ j ∧ j ≠ g0) j → j < w3.heap.size → w.heap.size + 2 ≤ j ∧ j ≠ g := by
    intro j hj hlt
    refine ⟨hj.1, fun e => ?_⟩
    subst e
    rcases hgg with h0 | h0
    · rcases hlv with h2 | h2
      · rw [h2] at h0; cases h0
      · rw [h2] at h0; cases h0; exact hj.2 rfl
    · omega
  have conv : ∀ x v, VIs w3 (fun j => w.heap.size + 2 ≤ j ∧ j ≠ g0) d x v → VIs (w4.setCell ⟨w.heap.size, 4, none⟩ (.slice (some ⟨g, 0, none⟩) (k + 1) cap)) (fun j => w.heap.size + 2 ≤ j ∧ j ≠ g) d x v := by
    intro x v h
    have h1 := (h.below.grown g34 (fun j hj => neR j hj.1)).grown g5 (fun j hj e => by have := hj.1.1; simp at e; omega)
    exact h1.weak fun j hj => up j hj.1 hj.2
  refine ⟨ka, some ⟨g, 0, none⟩, kc, cap, g, _, box_sL (bx.grown g34 (ne _ (by omega))) _, (bz.grown g34 (ne _ (by omega))).grown g5 (by simp), own_kept' ho4 g5 (by omega), .inr rfl, ?_, ?_, ?_⟩
  · have rx : RowV (VIs (w4.setCell ⟨w.heap.size, 4, none⟩ (.slice (some ⟨g, 0, none⟩) (k + 1) cap)) (fun j => w.heap.size + 2 ≤ j ∧ j ≠ g) d) [y] [.int .i64 y.kind, .int .i64 y.n, .string ⟨y.s.toArray⟩, .slice a7 y.keys.length c7, .slice a8 y.l.length c8] := ⟨_, _, _, _, _, [], rfl, conv _ _ hv, rfl⟩
    rw [take_snocV hk, ← hy]
    exact rx.append (hrow.imp conv)
  · exact (hks.bel2 (ok' := fun j => w.heap.size + 2 ≤ j ∧ j ≠ g) g34 neR up).bel2 g5 (fun j hj e => by have := hj.1; simp at e; omega) (fun j hj _ => hj)
  · refine gb_none (gb_out (g := w.heap.size) ?_ g5 (Nat.le_refl _))
    have hbw : w.grownBy w3 none := gb_below hb
    exact ⟨g34.os.trans hb.os, g34.tape.trans hb.tape, g34.output.trans hb.output, Nat.le_trans hb.size g34.size, fun j hj _ => (g34.block j (Nat.lt_of_lt_of_le hj hb.size) (ne j (by omega))).trans (hb.block j hj)⟩

theorem fresh_ne {wr w3 : World} {B d k g0 : Nat} {la : Option Addr} {lc : Nat} {cs : List Value} {y : V} {yv : Value} (h : VIs w3 (fun j => wr.heap.size + 1 ≤ j) d y yv) (ho : wr.ownsRow (B + 2) 25 5 (.slice la k lc) k cs) (hlv : ((.slice la k lc : Value).ownBlock = none ∧ g0 ≤ wr.heap.size) ∨ (.slice la k lc : Value).ownBlock = some g0) (hB : B + 1 < wr.heap.size) : VIs w3 (fun j => B + 2 ≤ j ∧ j ≠ g0) d y yv := by
  refine h.weak fun j hj => ⟨by omega, fun e => ?_⟩
  subst e
  rcases hlv with h0 | h0
  · omega
  · have := (ho.lt _ h0).2; omega
end Go.Proofs.YtmdemcjmcnfjmaaGreatDoor
