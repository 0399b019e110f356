/- What CopyValue of package stairwellref does. -/
import Derived.Test.YtkboplcffailoaaGreatDoorFb
import Derived.Test.YtkboplcffailoaaGreatDoorTp
import Derived.Deep.DrawnRows
import Derived.Deep.RegionLaw
set_option linter.unusedSimpArgs false
set_option linter.unusedVariables false
namespace Go.Proofs.YtkboplcffailoaaGreatDoor
open Go.RowKit
attribute [local go_sem ↓] Go.wp_at_zero Go.wp_at_succ

/- How much there is in a value: itself, its keys, its items. -/
def siz : V → Nat
  | ⟨_, _, _, ks, l⟩ => 1 + ks.length + (l.map siz).sum
def sizs (xs : List V) : Nat := (xs.map siz).sum
theorem sizs_cons (x : V) (xs : List V) : sizs (x :: xs) = siz x + sizs xs := by simp [sizs]
theorem siz_eq (t : V) : siz t = 1 + t.keys.length + sizs t.l := by cases t; rw [siz]; rfl
theorem sizs_mem {xs : List V} {x : V} (h : x ∈ xs) : siz x ≤ sizs xs := by
  induction xs with
  | nil => cases h
  | cons y xs ih =>
    rw [sizs_cons]
    rcases List.mem_cons.1 h with rfl | h
    · omega
    · have := ih h; omega
theorem sizs_len : ∀ (xs : List V), xs.length ≤ sizs xs
  | [] => Nat.le_refl _
  | x :: xs => by
    have := sizs_len xs
    have := siz_eq x
    rw [sizs_cons, List.length_cons]; omega
theorem cnts_sizs_of : ∀ (l : List V), (∀ x ∈ l, cnt x ≤ siz x) → cnts l ≤ sizs l
  | [], _ => by simp [cnts, sizs]
  | x :: l, h => by
    rw [cnts_cons, sizs_cons]
    have h1 := h x (by simp)
    have h2 := cnts_sizs_of l fun y hy => h y (by simp [hy])
    omega
theorem cnt_siz : ∀ (t : V), cnt t ≤ siz t
  | ⟨k, n, s, ks, l⟩ => by
    rw [cnt_eq, siz_eq]
    have h : ∀ x ∈ l, cnt x ≤ siz x := fun x hx => cnt_siz x
    have := cnts_sizs_of l h
    simp only
    omega
theorem box_sL {w : World} {g : Nat} {c0 c1 c2 c3 c4 : Value} (h : BoxIs w g c0 c1 c2 c3 c4) (v : Value) : BoxIs (w.setCell ⟨g, 4, none⟩ v) g c0 c1 c2 c3 v := heap_set h 4 v
theorem box_sK {w : World} {g : Nat} {c0 c1 c2 c3 c4 : Value} (h : BoxIs w g c0 c1 c2 c3 c4) (v : Value) : BoxIs (w.setCell ⟨g, 3, none⟩ v) g c0 c1 c2 v c4 := heap_set h 3 v
theorem step_V {w : World} {ops : Array Oper} {o : Oper} {a : Act} {K : Act → World → Prop} {Q : Exit → Act → World → Prop} {E : Prop} (hgd : o.guard = none) (s x : Operand)
    (ho : o.op = .call { callee := .builtin .append, args := #[s, x], argTypes := #[23, 23] }) (B : Nat) (v : Value) (n : Nat) (cs : List Value) (k m : Int) (ss : ByteArray) (a7 a8 : Option Addr) (l7 c7 l8 c8 : Nat) (hs : a.eval s = v)
    (hx : a.eval x = .slice (some ⟨w.heap.size, 0, none⟩) 1 1) (hown : w.ownsRow B 25 5 v n cs) (hB : B ≤ w.heap.size) (hl : n ≤ 1700000000000)
    (hK : ∀ g cap w', w'.ownsRow B 25 5 (.slice (some ⟨g, 0, none⟩) (n + 1) cap) (n + 1) (cs ++ [.int .i64 k, .int .i64 m, .string ss, .slice a7 l7 c7, .slice a8 l8 c8]) → (w.alloc (.cells #[.int .i64 k, .int .i64 m, .string ss, .slice a7 l7 c7, .slice a8 l8 c8] 25)).grownBy w' v.ownBlock → (v.ownBlock = some g ∨ w.heap.size < g) → K (a.put o.dst (.slice (some ⟨g, 0, none⟩) (n + 1) cap)) w') :
    if Region.wanted o (yielded ops a.tmps) = true then Oper.wp Tryz.prog o a (w.alloc (.cells #[.int .i64 k, .int .i64 m, .string ss, .slice a7 l7 c7, .slice a8 l8 c8] 25)) K Q else E := by
  obtain ⟨i0, hi, hz0, hz1, hz2⟩ := info_parts info25
  have hb : BoxIs (w.alloc (.cells #[.int .i64 k, .int .i64 m, .string ss, .slice a7 l7 c7, .slice a8 l8 c8] 25)) w.heap.size (.int .i64 k) (.int .i64 m) (.string ss) (.slice a7 l7 c7) (.slice a8 l8 c8) := heap_alloc_new w _
  refine step_append_lies _ hgd s x 23 ho B 25 i0 _ 5 80 Tryz.underlying23 hi hz0 hz1 hz2 rfl (by decide) v n cs hs (hown.alloc _) ⟨w.heap.size, 0, none⟩ 1 1 [.int .i64 k, .int .i64 m, .string ss, .slice a7 l7 c7, .slice a8 l8 c8] hx rfl (World.news_of_block (cs := #[.int .i64 k, .int .i64 m, .string ss, .slice a7 l7 c7, .slice a8 l8 c8]) hb) (one5 _ _ _ _ _ _ _ _ _) (by decide) (by unfold maxLen; omega) (by omega) (by simp; omega) (w.heap.size + 1) (by simp) ?_
  intro g cap w' ho' hg' hor _
  exact hK g cap w' ho' hg' (hor.imp id fun e => by omega)
/- On the way. -/
def CpI (w : World) (d : Nat) (t : V) (k : Nat) (wr : World) : Prop :=
  ∃ (ka la : Option Addr) (kc lc g0 : Nat) (cs : List Value), BoxIs wr w.heap.size (.int .i64 t.kind) (.int .i64 t.n) (.string ⟨t.s.toArray⟩) (.slice ka t.keys.length kc) (.slice la k lc) ∧ BoxIs wr (w.heap.size + 1) (.int .i64 0) (.int .i64 0) (.string ⟨#[]⟩) (.slice none 0 0) (.slice none 0 0) ∧ wr.ownsRow (w.heap.size + 2) 25 5 (.slice la k lc) k cs ∧ (((.slice la k lc : Value).ownBlock = none ∧ g0 ≤ wr.heap.size) ∨ (.slice la k lc : Value).ownBlock = some g0) ∧ RowV (VIs wr (fun j => w.heap.size + 2 ≤ j ∧ j ≠ g0) d) (t.l.take k) cs ∧ StrsAre wr (fun j => w.heap.size + 2 ≤ j ∧ j ≠ g0) t.keys (.slice ka t.keys.length kc) ∧ Below w.heap.size w wr
theorem StrsAre.bel2 {w w' : World} {ok ok' : Nat → Prop} {r : Option Nat} {xs : List (List UInt8)} {v : Value} (h : StrsAre w ok xs v) (hg : w.grownBy w' r) (hr : ∀ k, ok k → some k ≠ r) (hk : ∀ k, ok k → k < w.heap.size → ok' k) : StrsAre w' ok' xs v :=
  h.imp fun a x h1 h2 => ⟨hk _ h1 (World.block_lt_of_cell? w a h2), hg.cell h2 (hr _ h1)⟩
/- One more is copied. -/
theorem cp_mk {w w3 w4 : World} {d : Nat} {t y : V} {k : Nat} {ka la a7 a8 : Option Addr} {kc lc g0 c7 c8 g cap : Nat} {cs : List Value} (hk : k < t.l.length) (hy : y = t.l[k])
    (bx : BoxIs w3 w.heap.size (.int .i64 t.kind) (.int .i64 t.n) (.string ⟨t.s.toArray⟩) (.slice ka t.keys.length kc) (.slice la k lc)) (bz : BoxIs w3 (w.heap.size + 1) (.int .i64 0) (.int .i64 0) (.string ⟨#[]⟩) (.slice none 0 0) (.slice none 0 0)) (ho : w3.ownsRow (w.heap.size + 2) 25 5 (.slice la k lc) k cs) (hlv : (.slice la k lc : Value).ownBlock = none ∨ (.slice la k lc : Value).ownBlock = some g0)
    (hrow : RowV (VIs w3 (fun j => w.heap.size + 2 ≤ j ∧ j ≠ g0) d) (t.l.take k) cs) (hks : StrsAre w3 (fun j => w.heap.size + 2 ≤ j ∧ j ≠ g0) t.keys (.slice ka t.keys.length kc)) (hb : Below w.heap.size w w3)
    (hv : VIs w3 (fun j => w.heap.size + 2 ≤ j ∧ j ≠ g0) d y (.agg #[.int .i64 y.kind, .int .i64 y.n, .string ⟨y.s.toArray⟩, .slice a7 y.keys.length c7, .slice a8 y.l.length c8]))
    (ho4 : w4.ownsRow (w.heap.size + 2) 25 5 (.slice (some ⟨g, 0, none⟩) (k + 1) cap) (k + 1) (cs ++ [.int .i64 y.kind, .int .i64 y.n, .string ⟨y.s.toArray⟩, .slice a7 y.keys.length c7, .slice a8 y.l.length c8]))
    (hg4 : (w3.alloc (.cells #[.int .i64 y.kind, .int .i64 y.n, .string ⟨y.s.toArray⟩, .slice a7 y.keys.length c7, .slice a8 y.l.length c8] 25)).grownBy w4 (.slice la k lc : Value).ownBlock) (hgg : (.slice la k lc : Value).ownBlock = some g ∨ w3.heap.size < g) :
    CpI w d t (k + 1) (w4.setCell ⟨w.heap.size, 4, none⟩ (.slice (some ⟨g, 0, none⟩) (k + 1) cap)) := by
  have hlow : ∀ j, (.slice la k lc : Value).ownBlock = some j → w.heap.size + 2 ≤ j := fun j hj => (ho.lt j hj).1
  have g34 : w3.grownBy w4 (.slice la k lc : Value).ownBlock := gb_trans (World.grownBy_alloc w3 _ _) hg4
  have g5 : w4.grownBy (w4.setCell ⟨w.heap.size, 4, none⟩ (.slice (some ⟨g, 0, none⟩) (k + 1) cap)) (some w.heap.size) := gb_set (gb_refl _ _) _ _
  have ne : ∀ j, j < w.heap.size + 2 → some j ≠ (.slice la k lc : Value).ownBlock := fun j hj e => by have := hlow j e.symm; omega
  have neR : ∀ j, (fun j => w.heap.size + 2 ≤ j ∧ j ≠ g0) j → some j ≠ (.slice la k lc : Value).ownBlock := by
    intro j hj e
    rcases hlv with h0 | h0 <;> rw [h0] at e <;> simp at e
    exact hj.2 e
  have up : ∀ j, (fun j => w.heap.size + 2 ≤ j ∧ j ≠ g0) j → j < w3.heap.size → w.heap.size + 2 ≤ j ∧ j ≠ g := by
    intro j hj hlt
    refine ⟨hj.1, fun e => ?_⟩
    subst e
    rcases hgg with h0 | h0
    · rcases hlv with h2 | h2
      · rw [h2] at h0; cases h0
      · rw [h2] at h0; cases h0; exact hj.2 rfl
    · omega
  have conv : ∀ x v, VIs w3 (fun j => w.heap.size + 2 ≤ j ∧ j ≠ g0) d x v → VIs (w4.setCell ⟨w.heap.size, 4, none⟩ (.slice (some ⟨g, 0, none⟩) (k + 1) cap)) (fun j => w.heap.size + 2 ≤ j ∧ j ≠ g) d x v := by
    intro x v h
    have h1 := (h.below.grown g34 (fun j hj => neR j hj.1)).grown g5 (fun j hj e => by have := hj.1.1; simp at e; omega)
    exact h1.weak fun j hj => up j hj.1 hj.2
  refine ⟨ka, some ⟨g, 0, none⟩, kc, cap, g, _, box_sL (bx.grown g34 (ne _ (by omega))) _, (bz.grown g34 (ne _ (by omega))).grown g5 (by simp), own_kept' ho4 g5 (by omega), .inr rfl, ?_, ?_, ?_⟩
  · have rx : RowV (VIs (w4.setCell ⟨w.heap.size, 4, none⟩ (.slice (some ⟨g, 0, none⟩) (k + 1) cap)) (fun j => w.heap.size + 2 ≤ j ∧ j ≠ g) d) [y] [.int .i64 y.kind, .int .i64 y.n, .string ⟨y.s.toArray⟩, .slice a7 y.keys.length c7, .slice a8 y.l.length c8] := ⟨_, _, _, _, _, [], rfl, conv _ _ hv, rfl⟩
    rw [take_snocV hk, ← hy]
    exact rx.append (hrow.imp conv)
  · exact (hks.bel2 (ok' := fun j => w.heap.size + 2 ≤ j ∧ j ≠ g) g34 neR up).bel2 g5 (fun j hj e => by have := hj.1; simp at e; omega) (fun j hj _ => hj)
  · refine gb_none (gb_out (g := w.heap.size) ?_ g5 (Nat.le_refl _))
    have hbw : w.grownBy w3 none := gb_below hb
    exact ⟨g34.os.trans hb.os, g34.tape.trans hb.tape, g34.output.trans hb.output, Nat.le_trans hb.size g34.size, fun j hj _ => (g34.block j (Nat.lt_of_lt_of_le hj hb.size) (ne j (by omega))).trans (hb.block j hj)⟩

theorem fresh_ne {wr w3 : World} {B d k g0 : Nat} {la : Option Addr} {lc : Nat} {cs : List Value} {y : V} {yv : Value} (h : VIs w3 (fun j => wr.heap.size + 1 ≤ j) d y yv) (ho : wr.ownsRow (B + 2) 25 5 (.slice la k lc) k cs) (hlv : ((.slice la k lc : Value).ownBlock = none ∧ g0 ≤ wr.heap.size) ∨ (.slice la k lc : Value).ownBlock = some g0) (hB : B + 1 < wr.heap.size) : VIs w3 (fun j => B + 2 ≤ j ∧ j ≠ g0) d y yv := by
  refine h.weak fun j hj => ⟨by omega, fun e => ?_⟩
  subst e
  rcases hlv with h0 | h0
  · omega
  · have := (ho.lt _ h0).2; omega
def CpC (d : Nat) : Prop := ∀ (w : World) (ok : Nat → Prop) (t : V) (v : Value), VIs w ok d t v → siz t ≤ 1000000000000 →
    Calls Tryz.prog 4 #[v] w fun e w' => ∃ r, e = .returned r ∧ Below w.heap.size w w' ∧ VIs w' (fun k => w.heap.size ≤ k) d t r

set_option maxRecDepth 100000 in
set_option maxHeartbeats 40000000 in
theorem copyValue_succ (d : Nat) (ih : CpC d) : CpC (d + 1) := by
  intro w ok t v h hN
  have IH := hidI ih
  obtain ⟨a1, a2, c1, c2, rfl⟩ := h.shape
  have VV : Hid (ValsAre w ok (VIs w ok d) t.l (.slice a2 t.l.length c2) ∧ StrsAre w ok t.keys (.slice a1 t.keys.length c1) ∧ t.s.length ≤ maxLen ∧ I64 t.kind ∧ I64 t.n) := hidI (by
    obtain ⟨ks, ls, e, h1, h2, h3, h4, h5⟩ := h
    simp only [Value.agg.injEq, Array.mk.injEq, List.cons.injEq, and_true] at e
    obtain ⟨-, -, -, rfl, rfl⟩ := e
    exact ⟨h5, h4, h3, h1, h2⟩)
  have ll : t.l.length ≤ 9223372036854775807 := VV.out.1.1
  have lk : t.keys.length ≤ 9223372036854775807 := VV.out.2.1.1
  have z0 := siz_eq t
  have z1 := sizs_len t.l
  have zk : t.keys.length ≤ 8000000000000 := by omega
  have zl : t.l.length ≤ 1700000000000 := by omega
  have ZS : Hid (sizs t.l ≤ 1000000000000) := hidI (by omega)
  have B2 : Hid (∀ o1 o2, Below w.heap.size w ((w.alloc o1).alloc o2)) := fun o1 o2 => bel_trans (bel_alloc _ _) (bel_alloc _ _)
  obtain ⟨kv, w5, hR, hks, hb5⟩ := run_copyS ((w.alloc (.cells #[.int .i64 t.kind, .int .i64 t.n, .string ⟨t.s.toArray⟩, .slice a1 t.keys.length c1, .slice a2 t.l.length c2] 25)).alloc (.cells #[.int .i64 0, .int .i64 0, .string ⟨#[]⟩, .slice none 0 0, .slice none 0 0] 25)) ok t.keys _ (VV.out.2.1.bel (B2.out _ _)) zk 22
  have HR := hidI hR
  obtain ⟨ka, kc, rfl⟩ := hks.form
  have hsz : ((w.alloc (.cells #[.int .i64 t.kind, .int .i64 t.n, .string ⟨t.s.toArray⟩, .slice a1 t.keys.length c1, .slice a2 t.l.length c2] 25)).alloc (.cells #[.int .i64 0, .int .i64 0, .string ⟨#[]⟩, .slice none 0 0, .slice none 0 0] 25)).heap.size = w.heap.size + 2 := by simp
  have K5 : Hid (BoxIs w5 w.heap.size (.int .i64 t.kind) (.int .i64 t.n) (.string ⟨t.s.toArray⟩) (.slice a1 t.keys.length c1) (.slice a2 t.l.length c2) ∧ BoxIs w5 (w.heap.size + 1) (.int .i64 0) (.int .i64 0) (.string ⟨#[]⟩) (.slice none 0 0) (.slice none 0 0) ∧ Below w.heap.size w w5 ∧ StrsAre w5 (fun j => w.heap.size + 2 ≤ j) t.keys (.slice ka t.keys.length kc)) := hidI ⟨box_bel hb5 (h2a w _ _), box_bel hb5 (h2b w _ _), bel_trans (B2.out _ _) hb5, by rw [hsz] at hks; exact hks⟩
  clear h ih hN z0 z1 hR hks hb5 hsz
  have I0 : Hid (CpI w d t 0 ((w5.setCell ⟨w.heap.size, 3, none⟩ (.slice ka t.keys.length kc)).setCell ⟨w.heap.size, 4, none⟩ (.slice none 0 0))) := by
    obtain ⟨k1, k2, k3, k4⟩ := K5.out
    have g1 : w5.grownBy ((w5.setCell ⟨w.heap.size, 3, none⟩ (.slice ka t.keys.length kc)).setCell ⟨w.heap.size, 4, none⟩ (.slice none 0 0)) (some w.heap.size) := gb_set (gb_set (gb_refl _ _) _ _) _ _
    refine hidI ⟨ka, none, kc, 0, w5.heap.size, [], box_sL (box_sK k1 _) _, k2.grown g1 (by simp), World.ownsRow_nil _ _ _ _, .inl ⟨rfl, g1.size⟩, rfl, ?_, gb_none (gb_out (gb_below k3) g1 (Nat.le_refl _))⟩
    exact k4.bel2 g1 (fun j hj e => by simp at e; omega) (fun j hj hlt => ⟨hj, by omega⟩)
  obtain ⟨y0, y1, y2, y3, y4, y5, y6, y7, y8, y9⟩ := K5.out.1.c
  go_enter Tryz.func4, Tryz.ntmps4
  go_wp2_with (at_builtin; go_must (refine Lib.wpList_append_run _ rfl _ _ _ _ rfl (.slice none 0 0) (.slice a1 t.keys.length c1) rfl rfl _ _ HR.out ?_); refine Hid.out ?_)
  refine hidI ?_
  go_wp2_with fail
  clear y0 y1 y2 y3 y4 y5 y6 y7 y8 y9 HR
  go_loopg [15] t.l.length (fun gk i wr => ∃ k : Nat, k ≤ t.l.length ∧ gk = t.l.length - k ∧ i = .int .i64 k ∧ CpI w d t k wr)
  case atStart => exact ⟨0, Nat.zero_le _, rfl, rfl, I0.out⟩
  case round =>
    obtain ⟨k, hk, hgk, rfl, ka, la, kc, lc, g0, cs, i1, i2, i3, i4, i5, i6, i7⟩ := hrel
    have GK := hidI hgk
    have I : Hid (BoxIs wr w.heap.size (.int .i64 t.kind) (.int .i64 t.n) (.string ⟨t.s.toArray⟩) (.slice ka t.keys.length kc) (.slice la k lc) ∧ BoxIs wr (w.heap.size + 1) (.int .i64 0) (.int .i64 0) (.string ⟨#[]⟩) (.slice none 0 0) (.slice none 0 0) ∧ wr.ownsRow (w.heap.size + 2) 25 5 (.slice la k lc) k cs ∧ (((.slice la k lc : Value).ownBlock = none ∧ g0 ≤ wr.heap.size) ∨ (.slice la k lc : Value).ownBlock = some g0) ∧ RowV (VIs wr (fun j => w.heap.size + 2 ≤ j ∧ j ≠ g0) d) (t.l.take k) cs ∧ StrsAre wr (fun j => w.heap.size + 2 ≤ j ∧ j ≠ g0) t.keys (.slice ka t.keys.length kc) ∧ Below w.heap.size w wr) := hidI ⟨i1, i2, i3, i4, i5, i6, i7⟩
    clear hgk i1 i2 i3 i4 i5 i6 i7
    by_cases hlt : k < t.l.length
    · obtain ⟨b, off, rfl, z1, z2, a5, c5, a6, c6, p0, p1, p2, p3, p4, p5⟩ := vals_at VV.out.1 hlt
      unfold maxLen at z2
      replace p0 := cell_bel I.out.2.2.2.2.2.2 p0
      replace p1 := cell_bel I.out.2.2.2.2.2.2 p1
      replace p2 := cell_bel I.out.2.2.2.2.2.2 p2
      replace p3 := cell_bel I.out.2.2.2.2.2.2 p3
      replace p4 := cell_bel I.out.2.2.2.2.2.2 p4
      have P5 := hidI (p5.bel I.out.2.2.2.2.2.2)
      have w1 : (0 : Int) ≤ (k : Int) := by omega
      have w2 : (k : Int) < (t.l.length : Int) := by omega
      have zx : Hid (siz t.l[k] ≤ 1000000000000) := hidI (by have := sizs_mem (List.getElem_mem hlt); have := ZS.out; omega)
      have call : Hid (∀ W, W.heap = (wr.alloc (.cells #[.int .i64 t.l[k].kind, .int .i64 t.l[k].n, .string ⟨t.l[k].s.toArray⟩, .slice a5 t.l[k].keys.length c5, .slice a6 t.l[k].l.length c6] 25)).heap → W.os = wr.os → W.tape = wr.tape → W.output = wr.output → Calls Tryz.prog 4 #[.agg #[.int .i64 t.l[k].kind, .int .i64 t.l[k].n, .string ⟨t.l[k].s.toArray⟩, .slice a5 t.l[k].keys.length c5, .slice a6 t.l[k].l.length c6]] W fun e w3 => ∃ (a7 a8 : Option Addr) (c7 c8 : Nat), e = .returned (.agg #[.int .i64 t.l[k].kind, .int .i64 t.l[k].n, .string ⟨t.l[k].s.toArray⟩, .slice a7 t.l[k].keys.length c7, .slice a8 t.l[k].l.length c8]) ∧ VIs w3 (fun j => wr.heap.size + 1 ≤ j) d t.l[k] (.agg #[.int .i64 t.l[k].kind, .int .i64 t.l[k].n, .string ⟨t.l[k].s.toArray⟩, .slice a7 t.l[k].keys.length c7, .slice a8 t.l[k].l.length c8]) ∧ Below wr.heap.size wr w3) := by
        intro W e1 e2 e3 e4
        have hbW : Below wr.heap.size wr W := by
          have := bel_alloc wr (.cells #[.int .i64 t.l[k].kind, .int .i64 t.l[k].n, .string ⟨t.l[k].s.toArray⟩, .slice a5 t.l[k].keys.length c5, .slice a6 t.l[k].l.length c6] 25)
          exact ⟨e2, e3, e4, by rw [e1]; exact this.size, fun k hk => by rw [e1]; exact this.block k hk⟩
        have hsz : W.heap.size = wr.heap.size + 1 := by rw [e1]; simp
        refine (IH.out W ok t.l[k] _ (P5.out.bel hbW) zx.out).mono ?_
        rintro e w3 ⟨r, rfl, hb, hr⟩
        obtain ⟨a7, a8, c7, c8, rfl⟩ := hr.shape
        rw [hsz] at hr
        exact ⟨a7, a8, c7, c8, rfl, hr, bel_trans hbW hb⟩
      have q4 := (box_bel (bel_alloc wr (.cells #[.int .i64 t.l[k].kind, .int .i64 t.l[k].n, .string ⟨t.l[k].s.toArray⟩, .slice a5 t.l[k].keys.length c5, .slice a6 t.l[k].l.length c6] 25)) I.out.1).c.2.2.2.2.1
      have hnl : k ≤ 1700000000000 := by omega
      clear p5
      go_wp2_with fail
      go_region_law ((first | (refine step_V (by rfl) _ _ (by rfl) (w.heap.size + 2) (.slice la k lc) k cs t.l[k].kind t.l[k].n ⟨t.l[k].s.toArray⟩ a7 a8 t.l[k].keys.length c7 t.l[k].l.length c8 (by rfl) (by rfl) K3.out.2.2.1 hsz3 hnl ?_; intro g cap w4 ho4 hg4 hgg4; obtain ⟨x0, x1, x2, x3, x4, -, -, -, -, x9⟩ := ((K3.out.1.grown (World.grownBy_alloc _ _ none) (by simp)).grown hg4 (ne3.out _ (by omega))).c; have CM := hidI (cp_mk hlt rfl K3.out.1 K3.out.2.1 K3.out.2.2.1 (K3.out.2.2.2.1.imp And.left id) K3.out.2.2.2.2.1 K3.out.2.2.2.2.2.1 K3.out.2.2.2.2.2.2 V3.out ho4 hg4 hgg4); clear ho4 hg4 hgg4) | (go_simp; go_at_call 4; refine (call.out _ (by rfl) (by rfl) (by rfl) (by rfl)).mono ?_; rintro e w3 ⟨a7, a8, c7, c8, rfl, hv3, hb3⟩; have V3 : Hid (VIs w3 (fun j => w.heap.size + 2 ≤ j ∧ j ≠ g0) d t.l[k] (.agg #[.int .i64 t.l[k].kind, .int .i64 t.l[k].n, .string ⟨t.l[k].s.toArray⟩, .slice a7 t.l[k].keys.length c7, .slice a8 t.l[k].l.length c8])) := hidI (fresh_ne hv3 I.out.2.2.1 I.out.2.2.2.1 I.out.2.1.lt); have K3 : Hid (BoxIs w3 w.heap.size (.int .i64 t.kind) (.int .i64 t.n) (.string ⟨t.s.toArray⟩) (.slice ka t.keys.length kc) (.slice la k lc) ∧ BoxIs w3 (w.heap.size + 1) (.int .i64 0) (.int .i64 0) (.string ⟨#[]⟩) (.slice none 0 0) (.slice none 0 0) ∧ w3.ownsRow (w.heap.size + 2) 25 5 (.slice la k lc) k cs ∧ (((.slice la k lc : Value).ownBlock = none ∧ g0 ≤ wr.heap.size) ∨ (.slice la k lc : Value).ownBlock = some g0) ∧ RowV (VIs w3 (fun j => w.heap.size + 2 ≤ j ∧ j ≠ g0) d) (t.l.take k) cs ∧ StrsAre w3 (fun j => w.heap.size + 2 ≤ j ∧ j ≠ g0) t.keys (.slice ka t.keys.length kc) ∧ Below w.heap.size w w3) := hidI ⟨box_bel hb3 I.out.1, box_bel hb3 I.out.2.1, I.out.2.2.1.kept (gb_below (r := none) hb3) (by cases (.slice la k lc : Value).ownBlock <;> simp), I.out.2.2.2.1, I.out.2.2.2.2.1.imp fun _ _ h => h.bel hb3, I.out.2.2.2.2.2.1.bel hb3, bel_trans I.out.2.2.2.2.2.2 hb3⟩; have hsz3 : w.heap.size + 2 ≤ w3.heap.size := Nat.le_trans I.out.2.1.lt hb3.size; have ne3 : Hid (∀ j, j < w.heap.size + 2 → some j ≠ (.slice la k lc : Value).ownBlock) := hidI (fun j hj e => by have := (K3.out.2.2.1.lt j e.symm).1; omega); have r4 := K3.out.1.c.2.2.2.2.1; have r5 : ∀ o, (w3.alloc o).cell? ⟨w.heap.size, 4, none⟩ = some (.slice la k lc) := fun o => (box_bel (bel_alloc w3 o) K3.out.1).c.2.2.2.2.1; clear hv3 hb3)))
      all_goals
        go_wp2_with fail
        go_roundg (t.l.length - (k + 1))
        case measure => rw [GK.out]; omega
        case rel => exact ⟨k + 1, hlt, rfl, by go_num, CM.out⟩
    · have hke : k = t.l.length := by omega
      subst hke
      have d1 : ¬ (t.l.length : Int) < (t.l.length : Int) := by omega
      obtain ⟨y0, y1, y2, y3, y4, -⟩ := I.out.1.c
      obtain ⟨z0, z1, z2, z3, z4, z5, z6, z7, z8, z9⟩ := I.out.2.1.c
      have gs := set5_gb wr (w.heap.size + 1) (.int .i64 t.kind) (.int .i64 t.n) (.string ⟨t.s.toArray⟩) (.slice ka t.keys.length kc) (.slice la t.l.length lc)
      have ZB : Hid _ := hidI (I.out.2.1.set (.int .i64 t.kind) (.int .i64 t.n) (.string ⟨t.s.toArray⟩) (.slice ka t.keys.length kc) (.slice la t.l.length lc))
      have Z : Hid (Below w.heap.size w (set5 wr (w.heap.size + 1) (.int .i64 t.kind) (.int .i64 t.n) (.string ⟨t.s.toArray⟩) (.slice ka t.keys.length kc) (.slice la t.l.length lc)) ∧ VIs (set5 wr (w.heap.size + 1) (.int .i64 t.kind) (.int .i64 t.n) (.string ⟨t.s.toArray⟩) (.slice ka t.keys.length kc) (.slice la t.l.length lc)) (fun j => w.heap.size ≤ j) (d + 1) t (.agg #[.int .i64 t.kind, .int .i64 t.n, .string ⟨t.s.toArray⟩, .slice ka t.keys.length kc, .slice la t.l.length lc])) := by
        obtain ⟨k1, k2, k3, k4, k5, k6, k7⟩ := I.out
        refine hidI ⟨bel_set5 k7 (by omega) _ _ _ _ _, _, _, rfl, VV.out.2.2.2.1, VV.out.2.2.2.2, VV.out.2.2.1, ?_, ?_⟩
        · exact k6.bel2 gs (fun j hj e => by have := hj.1; simp at e; omega) (fun j hj _ => by have := hj.1; omega)
        · rw [List.take_of_length_le (Nat.le_refl _)] at k5
          exact own_vals rfl (own_kept' k3 gs (by omega)) (k5.imp fun x v h => (h.grown gs (fun j hj e => by have := hj.1; simp at e; omega)).weak fun j hj => by have := hj.1; omega) (fun j hj => by omega) ll
      clear gs
      go_wp2_with fail
      obtain ⟨q0, q1, q2, q3, q4, -⟩ := ZB.out.c
      refine bodyPost_ret (v := .agg #[.int .i64 t.kind, .int .i64 t.n, .string ⟨t.s.toArray⟩, .slice ka t.keys.length kc, .slice la t.l.length lc]) ?_ rfl ?_
      · simp only [set5] at q0 q1 q2 q3 q4
        simp [results, Tryz.results4, go_sem, q0, q1, q2, q3, q4]
      · exact ⟨_, rfl, Z.out.1, Z.out.2⟩
theorem copyValue_all (d : Nat) : CpC d := by
  induction d with
  | zero => exact fun _ _ _ _ h => h.elim
  | succ d ih => exact copyValue_succ d ih
end Go.Proofs.YtkboplcffailoaaGreatDoor
