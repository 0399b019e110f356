/- Whatever it is handed, PatchReads answers true and leaves all as it was.
   Its conditions: what it is handed is of bulk at most 1048576 (values and letters); the listed package-level variables hold what the program's text lays (the card ties them, over a pruned copy of the project). -/
import Derived.Test.YtaifciobaapehaaDoorGFm
import Derived.Maps.AppendAt
import Derived.Laws.AppendOwnNone
import Derived.Test.YtaifciobaapehaaDoorTp
import Derived.Deep.DrawnRows
import Derived.Deep.RegionLaw
import Derived.Test.YtaifciobaapehaaDoorXz
import Derived.Test.YtaifciobaapehaaDoorGZf
import Derived.Test.YtaifciobaapehaaDoorGYb
import Derived.Test.YtaifciobaapehaaDoorGYl
import Derived.Test.YtaifciobaapehaaDoorKd
import Derived.Test.YtaifciobaapehaaDoorRows
import Derived.Test.YtaifciobaapehaaDoorKx
import Derived.Test.YtaifciobaapehaaDoorGZd
/- A list of texts, copied: append onto nil. -/
set_option linter.unusedSimpArgs false
set_option linter.unusedVariables false
namespace Go.Proofs.YtaifciobaapehaaDoor
open Go.RowKit

theorem run_nil_nil (W : World) (ty : TypeId) : (Builtin.append_ #[22, 22] ty #[.slice none 0 0, .slice none 0 0]).run Tryd.prog W = .ok (.slice none 0 0) W := by
  obtain ⟨i0, hi, hz0, hz1, hz2⟩ := info_parts info9
  simp [Builtin.append_, run_underlying Tryd.underlying22, hi, go_sem]
theorem run_copyS (W : World) (ok : Nat → Prop) (xs : List (List UInt8)) (v : Value) (h : StrsAre W ok xs v) (hl : xs.length ≤ 8000000000000) (ty : TypeId) :
    ∃ v' W', (Builtin.append_ #[22, 22] ty #[.slice none 0 0, v]).run Tryd.prog W = .ok v' W' ∧ StrsAre W' (fun k => W.heap.size ≤ k) xs v' ∧ Below W.heap.size W W' := by
  obtain ⟨i0, hi, hz0, hz1, hz2⟩ := info_parts info9
  have hm := h.1
  have some_case : ∀ (ad : Addr) (c : Nat), (∀ j u, (xs.map str)[j]? = some u → W.cell? (ad.add j) = some u) → (∀ x ∈ xs, x.length ≤ maxLen) →
      ∃ v' W', (Builtin.append_ #[22, 22] ty #[.slice none 0 0, .slice (some ad) xs.length c]).run Tryd.prog W = .ok v' W' ∧ StrsAre W' (fun k => W.heap.size ≤ k) xs v' ∧ Below W.heap.size W W' := by
    intro ad c hc hx
    obtain ⟨v', W', hr, ho, hg, -, -⟩ := run_append_own_at (P := Tryd.prog) W W.heap.size 22 ty 9 i0 _ 1 16 Tryd.underlying22 hi hz0 hz1 hz2 rfl (by decide) (.slice none 0 0) 0 [] (World.ownsRow_nil _ _ _ _) ad xs.length c (xs.map str) (by simp) hc (by intro u hu; simp only [List.mem_map] at hu; obtain ⟨x, -, rfl⟩ := hu; rfl) (by omega) (by omega) (Nat.le_refl _)
    refine ⟨v', W', hr, own_strs (n := xs.length) rfl (by simpa using ho) hx (fun _ h => h) hm, ?_⟩
    exact gb_none (by simpa [Value.ownBlock] using hg)
  rcases h.2 with ⟨rfl, a, rfl⟩ | ⟨b, off, c, rfl, h1, h2, h3⟩
  · cases a with
    | none => exact ⟨_, _, run_nil_nil W ty, ⟨by simp, .inl ⟨rfl, none, rfl⟩⟩, Below.refl _ _⟩
    | some ad => exact some_case ad 0 (by simp) (by simp)
  · refine some_case ⟨b, off, none⟩ c ?_ ?_
    · intro j u hj
      rw [addr_add]
      simp only [List.getElem?_map, Option.map_eq_some_iff] at hj
      obtain ⟨x, hx, rfl⟩ := hj
      exact (h3 j x hx).2.2
    · intro x hx
      obtain ⟨i, hi⟩ := List.getElem?_of_mem hx
      exact (h3 i x hi).1
end Go.Proofs.YtaifciobaapehaaDoor

/- What CopyValue of package stairwellref does. -/
set_option linter.unusedSimpArgs false
set_option linter.unusedVariables false
namespace Go.Proofs.YtaifciobaapehaaDoor
open Go.RowKit
attribute [local go_sem ↓] Go.wp_at_zero Go.wp_at_succ

/- How much there is in a value: itself, its keys, its items. -/
def siz : V → Nat
  | ⟨_, _, _, ks, l⟩ => 1 + ks.length + (l.map siz).sum
def sizs (xs : List V) : Nat := (xs.map siz).sum
theorem sizs_cons (x : V) (xs : List V) : sizs (x :: xs) = siz x + sizs xs := by simp [sizs]
theorem siz_eq (t : V) : siz t = 1 + t.keys.length + sizs t.l := by cases t; rw [siz]; rfl
theorem sizs_mem {xs : List V} {x : V} (h : x ∈ xs) : siz x ≤ sizs xs := by
  induction xs with
  | nil => cases h
  | cons y xs ih =>
    rw [sizs_cons]
    rcases List.mem_cons.1 h with rfl | h
    · omega
    · have := ih h; omega
theorem sizs_len : ∀ (xs : List V), xs.length ≤ sizs xs
  | [] => Nat.le_refl _
  | x :: xs => by
    have := sizs_len xs
    have := siz_eq x
    rw [sizs_cons, List.length_cons]; omega
theorem cnts_sizs_of : ∀ (l : List V), (∀ x ∈ l, cnt x ≤ siz x) → cnts l ≤ sizs l
  | [], _ => by simp [cnts, sizs]
  | x :: l, h => by
    rw [cnts_cons, sizs_cons]
    have h1 := h x (by simp)
    have h2 := cnts_sizs_of l fun y hy => h y (by simp [hy])
    omega
theorem cnt_siz : ∀ (t : V), cnt t ≤ siz t
  | ⟨k, n, s, ks, l⟩ => by
    rw [cnt_eq, siz_eq]
    have h : ∀ x ∈ l, cnt x ≤ siz x := fun x hx => cnt_siz x
    have := cnts_sizs_of l h
    simp only
    omega
theorem box_sL {w : World} {g : Nat} {c0 c1 c2 c3 c4 : Value} (h : BoxIs w g c0 c1 c2 c3 c4) (v : Value) : BoxIs (w.setCell ⟨g, 4, none⟩ v) g c0 c1 c2 c3 v := heap_set h 4 v
theorem box_sK {w : World} {g : Nat} {c0 c1 c2 c3 c4 : Value} (h : BoxIs w g c0 c1 c2 c3 c4) (v : Value) : BoxIs (w.setCell ⟨g, 3, none⟩ v) g c0 c1 c2 v c4 := heap_set h 3 v
theorem step_V {w : World} {ops : Array Oper} {o : Oper} {a : Act} {K : Act → World → Prop} {Q : Exit → Act → World → Prop} {E : Prop} (hgd : o.guard = none) (s x : Operand)
    (ho : o.op = .call { callee := .builtin .append, args := #[s, x], argTypes := #[23, 23] }) (B : Nat) (v : Value) (n : Nat) (cs : List Value) (k m : Int) (ss : ByteArray) (a7 a8 : Option Addr) (l7 c7 l8 c8 : Nat) (hs : a.eval s = v)
    (hx : a.eval x = .slice (some ⟨w.heap.size, 0, none⟩) 1 1) (hown : w.ownsRow B 25 5 v n cs) (hB : B ≤ w.heap.size) (hl : n ≤ 1700000000000)
    (hK : ∀ g cap w', w'.ownsRow B 25 5 (.slice (some ⟨g, 0, none⟩) (n + 1) cap) (n + 1) (cs ++ [.int .i64 k, .int .i64 m, .string ss, .slice a7 l7 c7, .slice a8 l8 c8]) → (w.alloc (.cells #[.int .i64 k, .int .i64 m, .string ss, .slice a7 l7 c7, .slice a8 l8 c8] 25)).grownBy w' v.ownBlock → (v.ownBlock = some g ∨ w.heap.size < g) → K (a.put o.dst (.slice (some ⟨g, 0, none⟩) (n + 1) cap)) w') :
    if Region.wanted o (yielded ops a.tmps) = true then Oper.wp Tryd.prog o a (w.alloc (.cells #[.int .i64 k, .int .i64 m, .string ss, .slice a7 l7 c7, .slice a8 l8 c8] 25)) K Q else E := by
  obtain ⟨i0, hi, hz0, hz1, hz2⟩ := info_parts info25
  have hb : BoxIs (w.alloc (.cells #[.int .i64 k, .int .i64 m, .string ss, .slice a7 l7 c7, .slice a8 l8 c8] 25)) w.heap.size (.int .i64 k) (.int .i64 m) (.string ss) (.slice a7 l7 c7) (.slice a8 l8 c8) := heap_alloc_new w _
  refine step_append_lies _ hgd s x 23 ho B 25 i0 _ 5 80 Tryd.underlying23 hi hz0 hz1 hz2 rfl (by decide) v n cs hs (hown.alloc _) ⟨w.heap.size, 0, none⟩ 1 1 [.int .i64 k, .int .i64 m, .string ss, .slice a7 l7 c7, .slice a8 l8 c8] hx rfl (World.news_of_block (cs := #[.int .i64 k, .int .i64 m, .string ss, .slice a7 l7 c7, .slice a8 l8 c8]) hb) (one5 _ _ _ _ _ _ _ _ _) (by decide) (by unfold maxLen; omega) (by omega) (by simp; omega) (w.heap.size + 1) (by simp) ?_
  intro g cap w' ho' hg' hor _
  exact hK g cap w' ho' hg' (hor.imp id fun e => by omega)
/- On the way. -/
def CpI (w : World) (d : Nat) (t : V) (k : Nat) (wr : World) : Prop :=
  ∃ (ka la : Option Addr) (kc lc g0 : Nat) (cs : List Value), BoxIs wr w.heap.size (.int .i64 t.kind) (.int .i64 t.n) (.string ⟨t.s.toArray⟩) (.slice ka t.keys.length kc) (.slice la k lc) ∧ BoxIs wr (w.heap.size + 1) (.int .i64 0) (.int .i64 0) (.string ⟨#[]⟩) (.slice none 0 0) (.slice none 0 0) ∧ wr.ownsRow (w.heap.size + 2) 25 5 (.slice la k lc) k cs ∧ (((.slice la k lc : Value).ownBlock = none ∧ g0 ≤ wr.heap.size) ∨ (.slice la k lc : Value).ownBlock = some g0) ∧ RowV (VIs wr (fun j => w.heap.size + 2 ≤ j ∧ j ≠ g0) d) (t.l.take k) cs ∧ StrsAre wr (fun j => w.heap.size + 2 ≤ j ∧ j ≠ g0) t.keys (.slice ka t.keys.length kc) ∧ Below w.heap.size w wr
theorem StrsAre.bel2 {w w' : World} {ok ok' : Nat → Prop} {r : Option Nat} {xs : List (List UInt8)} {v : Value} (h : StrsAre w ok xs v) (hg : w.grownBy w' r) (hr : ∀ k, ok k → some k ≠ r) (hk : ∀ k, ok k → k < w.heap.size → ok' k) : StrsAre w' ok' xs v :=
  h.imp fun a x h1 h2 => ⟨hk _ h1 (World.block_lt_of_cell? w a h2), hg.cell h2 (hr _ h1)⟩
/- One more is copied. -/
theorem cp_mk {w w3 w4 : World} {d : Nat} {t y : V} {k : Nat} {ka la a7 a8 : Option Addr} {kc lc g0 c7 c8 g cap : Nat} {cs : List Value} (hk : k < t.l.length) (hy : y = t.l[k])
    (bx : BoxIs w3 w.heap.size (.int .i64 t.kind) (.int .i64 t.n) (.string ⟨t.s.toArray⟩) (.slice ka t.keys.length kc) (.slice la k lc)) (bz : BoxIs w3 (w.heap.size + 1) (.int .i64 0) (.int .i64 0) (.string ⟨#[]⟩) (.slice none 0 0) (.slice none 0 0)) (ho : w3.ownsRow (w.heap.size + 2) 25 5 (.slice la k lc) k cs) (hlv : (.slice la k lc : Value).ownBlock = none ∨ (.slice la k lc : Value).ownBlock = some g0)
    (hrow : RowV (VIs w3 (fun j => w.heap.size + 2 ≤ j ∧ j ≠ g0) d) (t.l.take k) cs) (hks : StrsAre w3 (fun j => w.heap.size + 2 ≤ j ∧ j ≠ g0) t.keys (.slice ka t.keys.length kc)) (hb : Below w.heap.size w w3)
    (hv : VIs w3 (fun j => w.heap.size + 2 ≤ j ∧ j ≠ g0) d y (.agg #[.int .i64 y.kind, .int .i64 y.n, .string ⟨y.s.toArray⟩, .slice a7 y.keys.length c7, .slice a8 y.l.length c8]))
    (ho4 : w4.ownsRow (w.heap.size + 2) 25 5 (.slice (some ⟨g, 0, none⟩) (k + 1) cap) (k + 1) (cs ++ [.int .i64 y.kind, .int .i64 y.n, .string ⟨y.s.toArray⟩, .slice a7 y.keys.length c7, .slice a8 y.l.length c8]))
    (hg4 : (w3.alloc (.cells #[.int .i64 y.kind, .int .i64 y.n, .string ⟨y.s.toArray⟩, .slice a7 y.keys.length c7, .slice a8 y.l.length c8] 25)).grownBy w4 (.slice la k lc : Value).ownBlock) (hgg : (.slice la k lc : Value).ownBlock = some g ∨ w3.heap.size < g) :
    CpI w d t (k + 1) (w4.setCell ⟨w.heap.size, 4, none⟩ (.slice (some ⟨g, 0, none⟩) (k + 1) cap)) := by
  have hlow : ∀ j, (.slice la k lc : Value).ownBlock = some j → w.heap.size + 2 ≤ j := fun j hj => (ho.lt j hj).1
  have g34 : w3.grownBy w4 (.slice la k lc : Value).ownBlock := gb_trans (World.grownBy_alloc w3 _ _) hg4
  have g5 : w4.grownBy (w4.setCell ⟨w.heap.size, 4, none⟩ (.slice (some ⟨g, 0, none⟩) (k + 1) cap)) (some w.heap.size) := gb_set (gb_refl _ _) _ _
  have ne : ∀ j, j < w.heap.size + 2 → some j ≠ (.slice la k lc : Value).ownBlock := fun j hj e => by have := hlow j e.symm; omega
  have neR : ∀ j, (fun j => w.heap.size + 2 ≤ j ∧ j ≠ g0) j → some j ≠ (.slice la k lc : Value).ownBlock := by
    intro j hj e
    rcases hlv with h0 | h0 <;> rw [h0] at e <;> simp at e
    exact hj.2 e
  have up : ∀ j, (fun j => w.heap.size + 2 ≤ j ∧ j ≠ g0) j → j < w3.heap.size → w.heap.size + 2 ≤ j ∧ j ≠ g := by
    intro j hj hlt
    refine ⟨hj.1, fun e => ?_⟩
    subst e
    rcases hgg with h0 | h0
    · rcases hlv with h2 | h2
      · rw [h2] at h0; cases h0
      · rw [h2] at h0; cases h0; exact hj.2 rfl
    · omega
  have conv : ∀ x v, VIs w3 (fun j => w.heap.size + 2 ≤ j ∧ j ≠ g0) d x v → VIs (w4.setCell ⟨w.heap.size, 4, none⟩ (.slice (some ⟨g, 0, none⟩) (k + 1) cap)) (fun j => w.heap.size + 2 ≤ j ∧ j ≠ g) d x v := by
    intro x v h
    have h1 := (h.below.grown g34 (fun j hj => neR j hj.1)).grown g5 (fun j hj e => by have := hj.1.1; simp at e; omega)
    exact h1.weak fun j hj => up j hj.1 hj.2
  refine ⟨ka, some ⟨g, 0, none⟩, kc, cap, g, _, box_sL (bx.grown g34 (ne _ (by omega))) _, (bz.grown g34 (ne _ (by omega))).grown g5 (by simp), own_kept' ho4 g5 (by omega), .inr rfl, ?_, ?_, ?_⟩
  · have rx : RowV (VIs (w4.setCell ⟨w.heap.size, 4, none⟩ (.slice (some ⟨g, 0, none⟩) (k + 1) cap)) (fun j => w.heap.size + 2 ≤ j ∧ j ≠ g) d) [y] [.int .i64 y.kind, .int .i64 y.n, .string ⟨y.s.toArray⟩, .slice a7 y.keys.length c7, .slice a8 y.l.length c8] := ⟨_, _, _, _, _, [], rfl, conv _ _ hv, rfl⟩
    rw [take_snocV hk, ← hy]
    exact rx.append (hrow.imp conv)
  · exact (hks.bel2 (ok' := fun j => w.heap.size + 2 ≤ j ∧ j ≠ g) g34 neR up).bel2 g5 (fun j hj e => by have := hj.1; simp at e; omega) (fun j hj _ => hj)
  · refine gb_none (gb_out (g := w.heap.size) ?_ g5 (Nat.le_refl _))
    have hbw : w.grownBy w3 none := gb_below hb
    exact ⟨g34.os.trans hb.os, g34.tape.trans hb.tape, g34.output.trans hb.output, Nat.le_trans hb.size g34.size, fun j hj _ => (g34.block j (Nat.lt_of_lt_of_le hj hb.size) (ne j (by omega))).trans (hb.block j hj)⟩

theorem fresh_ne {wr w3 : World} {B d k g0 : Nat} {la : Option Addr} {lc : Nat} {cs : List Value} {y : V} {yv : Value} (h : VIs w3 (fun j => wr.heap.size + 1 ≤ j) d y yv) (ho : wr.ownsRow (B + 2) 25 5 (.slice la k lc) k cs) (hlv : ((.slice la k lc : Value).ownBlock = none ∧ g0 ≤ wr.heap.size) ∨ (.slice la k lc : Value).ownBlock = some g0) (hB : B + 1 < wr.heap.size) : VIs w3 (fun j => B + 2 ≤ j ∧ j ≠ g0) d y yv := by
  refine h.weak fun j hj => ⟨by omega, fun e => ?_⟩
  subst e
  rcases hlv with h0 | h0
  · omega
  · have := (ho.lt _ h0).2; omega
def CpC (d : Nat) : Prop := ∀ (w : World) (ok : Nat → Prop) (t : V) (v : Value), VIs w ok d t v → siz t ≤ 1000000000000 →
    Calls Tryd.prog 6 #[v] w fun e w' => ∃ r, e = .returned r ∧ Below w.heap.size w w' ∧ VIs w' (fun k => w.heap.size ≤ k) d t r

set_option maxRecDepth 100000 in
set_option maxHeartbeats 40000000 in
theorem copyValue_succ (d : Nat) (ih : CpC d) : CpC (d + 1) := by
  intro w ok t v h hN
  have IH := hidI ih
  obtain ⟨a1, a2, c1, c2, rfl⟩ := h.shape
  have VV : Hid (ValsAre w ok (VIs w ok d) t.l (.slice a2 t.l.length c2) ∧ StrsAre w ok t.keys (.slice a1 t.keys.length c1) ∧ t.s.length ≤ maxLen ∧ I64 t.kind ∧ I64 t.n) := hidI (by
    obtain ⟨ks, ls, e, h1, h2, h3, h4, h5⟩ := h
    simp only [Value.agg.injEq, Array.mk.injEq, List.cons.injEq, and_true] at e
    obtain ⟨-, -, -, rfl, rfl⟩ := e
    exact ⟨h5, h4, h3, h1, h2⟩)
  have ll : t.l.length ≤ 9223372036854775807 := VV.out.1.1
  have lk : t.keys.length ≤ 9223372036854775807 := VV.out.2.1.1
  have z0 := siz_eq t
  have z1 := sizs_len t.l
  have zk : t.keys.length ≤ 8000000000000 := by omega
  have zl : t.l.length ≤ 1700000000000 := by omega
  have ZS : Hid (sizs t.l ≤ 1000000000000) := hidI (by omega)
  have B2 : Hid (∀ o1 o2, Below w.heap.size w ((w.alloc o1).alloc o2)) := fun o1 o2 => bel_trans (bel_alloc _ _) (bel_alloc _ _)
  obtain ⟨kv, w5, hR, hks, hb5⟩ := run_copyS ((w.alloc (.cells #[.int .i64 t.kind, .int .i64 t.n, .string ⟨t.s.toArray⟩, .slice a1 t.keys.length c1, .slice a2 t.l.length c2] 25)).alloc (.cells #[.int .i64 0, .int .i64 0, .string ⟨#[]⟩, .slice none 0 0, .slice none 0 0] 25)) ok t.keys _ (VV.out.2.1.bel (B2.out _ _)) zk 22
  have HR := hidI hR
  obtain ⟨ka, kc, rfl⟩ := hks.form
  have hsz : ((w.alloc (.cells #[.int .i64 t.kind, .int .i64 t.n, .string ⟨t.s.toArray⟩, .slice a1 t.keys.length c1, .slice a2 t.l.length c2] 25)).alloc (.cells #[.int .i64 0, .int .i64 0, .string ⟨#[]⟩, .slice none 0 0, .slice none 0 0] 25)).heap.size = w.heap.size + 2 := by simp
  have K5 : Hid (BoxIs w5 w.heap.size (.int .i64 t.kind) (.int .i64 t.n) (.string ⟨t.s.toArray⟩) (.slice a1 t.keys.length c1) (.slice a2 t.l.length c2) ∧ BoxIs w5 (w.heap.size + 1) (.int .i64 0) (.int .i64 0) (.string ⟨#[]⟩) (.slice none 0 0) (.slice none 0 0) ∧ Below w.heap.size w w5 ∧ StrsAre w5 (fun j => w.heap.size + 2 ≤ j) t.keys (.slice ka t.keys.length kc)) := hidI ⟨box_bel hb5 (h2a w _ _), box_bel hb5 (h2b w _ _), bel_trans (B2.out _ _) hb5, by rw [hsz] at hks; exact hks⟩
  clear h ih hN z0 z1 hR hks hb5 hsz
  have I0 : Hid (CpI w d t 0 ((w5.setCell ⟨w.heap.size, 3, none⟩ (.slice ka t.keys.length kc)).setCell ⟨w.heap.size, 4, none⟩ (.slice none 0 0))) := by
    obtain ⟨k1, k2, k3, k4⟩ := K5.out
    have g1 : w5.grownBy ((w5.setCell ⟨w.heap.size, 3, none⟩ (.slice ka t.keys.length kc)).setCell ⟨w.heap.size, 4, none⟩ (.slice none 0 0)) (some w.heap.size) := gb_set (gb_set (gb_refl _ _) _ _) _ _
    refine hidI ⟨ka, none, kc, 0, w5.heap.size, [], box_sL (box_sK k1 _) _, k2.grown g1 (by simp), World.ownsRow_nil _ _ _ _, .inl ⟨rfl, g1.size⟩, rfl, ?_, gb_none (gb_out (gb_below k3) g1 (Nat.le_refl _))⟩
    exact k4.bel2 g1 (fun j hj e => by simp at e; omega) (fun j hj hlt => ⟨hj, by omega⟩)
  obtain ⟨y0, y1, y2, y3, y4, y5, y6, y7, y8, y9⟩ := K5.out.1.c
  go_enter Tryd.func6, Tryd.ntmps6
  go_wp2_with (at_builtin; go_must (refine Lib.wpList_append_run _ rfl _ _ _ _ rfl (.slice none 0 0) (.slice a1 t.keys.length c1) rfl rfl _ _ HR.out ?_); refine Hid.out ?_)
  refine hidI ?_
  go_wp2_with fail
  clear y0 y1 y2 y3 y4 y5 y6 y7 y8 y9 HR
  go_loopg [15] t.l.length (fun gk i wr => ∃ k : Nat, k ≤ t.l.length ∧ gk = t.l.length - k ∧ i = .int .i64 k ∧ CpI w d t k wr)
  case atStart => exact ⟨0, Nat.zero_le _, rfl, rfl, I0.out⟩
  case round =>
    obtain ⟨k, hk, hgk, rfl, ka, la, kc, lc, g0, cs, i1, i2, i3, i4, i5, i6, i7⟩ := hrel
    have GK := hidI hgk
    have I : Hid (BoxIs wr w.heap.size (.int .i64 t.kind) (.int .i64 t.n) (.string ⟨t.s.toArray⟩) (.slice ka t.keys.length kc) (.slice la k lc) ∧ BoxIs wr (w.heap.size + 1) (.int .i64 0) (.int .i64 0) (.string ⟨#[]⟩) (.slice none 0 0) (.slice none 0 0) ∧ wr.ownsRow (w.heap.size + 2) 25 5 (.slice la k lc) k cs ∧ (((.slice la k lc : Value).ownBlock = none ∧ g0 ≤ wr.heap.size) ∨ (.slice la k lc : Value).ownBlock = some g0) ∧ RowV (VIs wr (fun j => w.heap.size + 2 ≤ j ∧ j ≠ g0) d) (t.l.take k) cs ∧ StrsAre wr (fun j => w.heap.size + 2 ≤ j ∧ j ≠ g0) t.keys (.slice ka t.keys.length kc) ∧ Below w.heap.size w wr) := hidI ⟨i1, i2, i3, i4, i5, i6, i7⟩
    clear hgk i1 i2 i3 i4 i5 i6 i7
    by_cases hlt : k < t.l.length
    · obtain ⟨b, off, rfl, z1, z2, a5, c5, a6, c6, p0, p1, p2, p3, p4, p5⟩ := vals_at VV.out.1 hlt
      unfold maxLen at z2
      replace p0 := cell_bel I.out.2.2.2.2.2.2 p0
      replace p1 := cell_bel I.out.2.2.2.2.2.2 p1
      replace p2 := cell_bel I.out.2.2.2.2.2.2 p2
      replace p3 := cell_bel I.out.2.2.2.2.2.2 p3
      replace p4 := cell_bel I.out.2.2.2.2.2.2 p4
      have P5 := hidI (p5.bel I.out.2.2.2.2.2.2)
      have w1 : (0 : Int) ≤ (k : Int) := by omega
      have w2 : (k : Int) < (t.l.length : Int) := by omega
      have zx : Hid (siz t.l[k] ≤ 1000000000000) := hidI (by have := sizs_mem (List.getElem_mem hlt); have := ZS.out; omega)
      have call : Hid (∀ W, W.heap = (wr.alloc (.cells #[.int .i64 t.l[k].kind, .int .i64 t.l[k].n, .string ⟨t.l[k].s.toArray⟩, .slice a5 t.l[k].keys.length c5, .slice a6 t.l[k].l.length c6] 25)).heap → W.os = wr.os → W.tape = wr.tape → W.output = wr.output → Calls Tryd.prog 6 #[.agg #[.int .i64 t.l[k].kind, .int .i64 t.l[k].n, .string ⟨t.l[k].s.toArray⟩, .slice a5 t.l[k].keys.length c5, .slice a6 t.l[k].l.length c6]] W fun e w3 => ∃ (a7 a8 : Option Addr) (c7 c8 : Nat), e = .returned (.agg #[.int .i64 t.l[k].kind, .int .i64 t.l[k].n, .string ⟨t.l[k].s.toArray⟩, .slice a7 t.l[k].keys.length c7, .slice a8 t.l[k].l.length c8]) ∧ VIs w3 (fun j => wr.heap.size + 1 ≤ j) d t.l[k] (.agg #[.int .i64 t.l[k].kind, .int .i64 t.l[k].n, .string ⟨t.l[k].s.toArray⟩, .slice a7 t.l[k].keys.length c7, .slice a8 t.l[k].l.length c8]) ∧ Below wr.heap.size wr w3) := by
        intro W e1 e2 e3 e4
        have hbW : Below wr.heap.size wr W := by
          have := bel_alloc wr (.cells #[.int .i64 t.l[k].kind, .int .i64 t.l[k].n, .string ⟨t.l[k].s.toArray⟩, .slice a5 t.l[k].keys.length c5, .slice a6 t.l[k].l.length c6] 25)
          exact ⟨e2, e3, e4, by rw [e1]; exact this.size, fun k hk => by rw [e1]; exact this.block k hk⟩
        have hsz : W.heap.size = wr.heap.size + 1 := by rw [e1]; simp
        refine (IH.out W ok t.l[k] _ (P5.out.bel hbW) zx.out).mono ?_
        rintro e w3 ⟨r, rfl, hb, hr⟩
        obtain ⟨a7, a8, c7, c8, rfl⟩ := hr.shape
        rw [hsz] at hr
        exact ⟨a7, a8, c7, c8, rfl, hr, bel_trans hbW hb⟩
      have q4 := (box_bel (bel_alloc wr (.cells #[.int .i64 t.l[k].kind, .int .i64 t.l[k].n, .string ⟨t.l[k].s.toArray⟩, .slice a5 t.l[k].keys.length c5, .slice a6 t.l[k].l.length c6] 25)) I.out.1).c.2.2.2.2.1
      have hnl : k ≤ 1700000000000 := by omega
      clear p5
      go_wp2_with fail
      go_region_law ((first | (refine step_V (by rfl) _ _ (by rfl) (w.heap.size + 2) (.slice la k lc) k cs t.l[k].kind t.l[k].n ⟨t.l[k].s.toArray⟩ a7 a8 t.l[k].keys.length c7 t.l[k].l.length c8 (by rfl) (by rfl) K3.out.2.2.1 hsz3 hnl ?_; intro g cap w4 ho4 hg4 hgg4; obtain ⟨x0, x1, x2, x3, x4, -, -, -, -, x9⟩ := ((K3.out.1.grown (World.grownBy_alloc _ _ none) (by simp)).grown hg4 (ne3.out _ (by omega))).c; have CM := hidI (cp_mk hlt rfl K3.out.1 K3.out.2.1 K3.out.2.2.1 (K3.out.2.2.2.1.imp And.left id) K3.out.2.2.2.2.1 K3.out.2.2.2.2.2.1 K3.out.2.2.2.2.2.2 V3.out ho4 hg4 hgg4); clear ho4 hg4 hgg4) | (go_simp; go_at_call 6; refine (call.out _ (by rfl) (by rfl) (by rfl) (by rfl)).mono ?_; rintro e w3 ⟨a7, a8, c7, c8, rfl, hv3, hb3⟩; have V3 : Hid (VIs w3 (fun j => w.heap.size + 2 ≤ j ∧ j ≠ g0) d t.l[k] (.agg #[.int .i64 t.l[k].kind, .int .i64 t.l[k].n, .string ⟨t.l[k].s.toArray⟩, .slice a7 t.l[k].keys.length c7, .slice a8 t.l[k].l.length c8])) := hidI (fresh_ne hv3 I.out.2.2.1 I.out.2.2.2.1 I.out.2.1.lt); have K3 : Hid (BoxIs w3 w.heap.size (.int .i64 t.kind) (.int .i64 t.n) (.string ⟨t.s.toArray⟩) (.slice ka t.keys.length kc) (.slice la k lc) ∧ BoxIs w3 (w.heap.size + 1) (.int .i64 0) (.int .i64 0) (.string ⟨#[]⟩) (.slice none 0 0) (.slice none 0 0) ∧ w3.ownsRow (w.heap.size + 2) 25 5 (.slice la k lc) k cs ∧ (((.slice la k lc : Value).ownBlock = none ∧ g0 ≤ wr.heap.size) ∨ (.slice la k lc : Value).ownBlock = some g0) ∧ RowV (VIs w3 (fun j => w.heap.size + 2 ≤ j ∧ j ≠ g0) d) (t.l.take k) cs ∧ StrsAre w3 (fun j => w.heap.size + 2 ≤ j ∧ j ≠ g0) t.keys (.slice ka t.keys.length kc) ∧ Below w.heap.size w w3) := hidI ⟨box_bel hb3 I.out.1, box_bel hb3 I.out.2.1, I.out.2.2.1.kept (gb_below (r := none) hb3) (by cases (.slice la k lc : Value).ownBlock <;> simp), I.out.2.2.2.1, I.out.2.2.2.2.1.imp fun _ _ h => h.bel hb3, I.out.2.2.2.2.2.1.bel hb3, bel_trans I.out.2.2.2.2.2.2 hb3⟩; have hsz3 : w.heap.size + 2 ≤ w3.heap.size := Nat.le_trans I.out.2.1.lt hb3.size; have ne3 : Hid (∀ j, j < w.heap.size + 2 → some j ≠ (.slice la k lc : Value).ownBlock) := hidI (fun j hj e => by have := (K3.out.2.2.1.lt j e.symm).1; omega); have r4 := K3.out.1.c.2.2.2.2.1; have r5 : ∀ o, (w3.alloc o).cell? ⟨w.heap.size, 4, none⟩ = some (.slice la k lc) := fun o => (box_bel (bel_alloc w3 o) K3.out.1).c.2.2.2.2.1; clear hv3 hb3)))
      all_goals
        go_wp2_with fail
        go_roundg (t.l.length - (k + 1))
        case measure => rw [GK.out]; omega
        case rel => exact ⟨k + 1, hlt, rfl, by go_num, CM.out⟩
    · have hke : k = t.l.length := by omega
      subst hke
      have d1 : ¬ (t.l.length : Int) < (t.l.length : Int) := by omega
      obtain ⟨y0, y1, y2, y3, y4, -⟩ := I.out.1.c
      obtain ⟨z0, z1, z2, z3, z4, z5, z6, z7, z8, z9⟩ := I.out.2.1.c
      have gs := set5_gb wr (w.heap.size + 1) (.int .i64 t.kind) (.int .i64 t.n) (.string ⟨t.s.toArray⟩) (.slice ka t.keys.length kc) (.slice la t.l.length lc)
      have ZB : Hid _ := hidI (I.out.2.1.set (.int .i64 t.kind) (.int .i64 t.n) (.string ⟨t.s.toArray⟩) (.slice ka t.keys.length kc) (.slice la t.l.length lc))
      have Z : Hid (Below w.heap.size w (set5 wr (w.heap.size + 1) (.int .i64 t.kind) (.int .i64 t.n) (.string ⟨t.s.toArray⟩) (.slice ka t.keys.length kc) (.slice la t.l.length lc)) ∧ VIs (set5 wr (w.heap.size + 1) (.int .i64 t.kind) (.int .i64 t.n) (.string ⟨t.s.toArray⟩) (.slice ka t.keys.length kc) (.slice la t.l.length lc)) (fun j => w.heap.size ≤ j) (d + 1) t (.agg #[.int .i64 t.kind, .int .i64 t.n, .string ⟨t.s.toArray⟩, .slice ka t.keys.length kc, .slice la t.l.length lc])) := by
        obtain ⟨k1, k2, k3, k4, k5, k6, k7⟩ := I.out
        refine hidI ⟨bel_set5 k7 (by omega) _ _ _ _ _, _, _, rfl, VV.out.2.2.2.1, VV.out.2.2.2.2, VV.out.2.2.1, ?_, ?_⟩
        · exact k6.bel2 gs (fun j hj e => by have := hj.1; simp at e; omega) (fun j hj _ => by have := hj.1; omega)
        · rw [List.take_of_length_le (Nat.le_refl _)] at k5
          exact own_vals rfl (own_kept' k3 gs (by omega)) (k5.imp fun x v h => (h.grown gs (fun j hj e => by have := hj.1; simp at e; omega)).weak fun j hj => by have := hj.1; omega) (fun j hj => by omega) ll
      clear gs
      go_wp2_with fail
      obtain ⟨q0, q1, q2, q3, q4, -⟩ := ZB.out.c
      refine bodyPost_ret (v := .agg #[.int .i64 t.kind, .int .i64 t.n, .string ⟨t.s.toArray⟩, .slice ka t.keys.length kc, .slice la t.l.length lc]) ?_ rfl ?_
      · simp only [set5] at q0 q1 q2 q3 q4
        simp [results, Tryd.results6, go_sem, q0, q1, q2, q3, q4]
      · exact ⟨_, rfl, Z.out.1, Z.out.2⟩
theorem copyValue_all (d : Nat) : CpC d := by
  induction d with
  | zero => exact fun _ _ _ _ h => h.elim
  | succ d ih => exact copyValue_succ d ih
end Go.Proofs.YtaifciobaapehaaDoor

/- What CopyValue of the reference does, so told. -/
set_option linter.unusedSimpArgs false
set_option linter.unusedVariables false
namespace Go.Proofs.YtaifciobaapehaaDoor
open Go.RowKit

theorem rcopy_is (w : World) (ok : Nat → Prop) (t : V) (v : Value) (h : In w ok t v) (hN : siz t ≤ 1000000000000) :
    Calls Tryd.prog 6 #[v] w fun e w' => ∃ r, e = .returned r ∧ Below w.heap.size w w' ∧ In w' (fun k => w.heap.size ≤ k) t r := by
  obtain ⟨d, h⟩ := h
  refine (copyValue_all d w ok t v h hN).mono ?_
  rintro e w' ⟨r, rfl, hb, hr⟩
  exact ⟨r, rfl, hb, hr.is⟩
end Go.Proofs.YtaifciobaapehaaDoor

/- The walk of the law PatchReads. -/
set_option linter.unusedSimpArgs false
set_option linter.unusedVariables false
namespace Go.Proofs.YtaifciobaapehaaDoor
open Go.RowKit

set_option maxRecDepth 100000 in
set_option maxHeartbeats 8000000 in
theorem patchReads_walk (w : World) (ok1 : Nat → Prop) (d1 : Nat) (t : V) (v : Value) (h1 : VIs w ok1 d1 t v) (hN : siz t ≤ 2000000) (hM : GlobM w) (hG : GlobW w) :
    Calls Tryd.prog 4 #[v] w fun e w' => e = .returned (.bool true) ∧ Below w.heap.size w w' := by
  have T0 := hidI h1.is
  have MM := hidI hM
  have GG := hidI hG
  have N1 := hidI (show siz t ≤ 1000000000000 by omega)
  have N4 := hidI (show cnt t ≤ 1000000000000000 by have := cnt_siz t; omega)
  obtain ⟨a1, a2, c1, c2, rfl⟩ := h1.is.form
  clear h1 hM hN hG
  obtain ⟨r, hr⟩ : ∃ r, readOF t = r := ⟨_, rfl⟩
  obtain ⟨os, E⟩ := r
  have HR := hidI hr
  clear hr
  have K0 : Hid (BoxIs (w.alloc (.cells #[.int .i64 t.kind, .int .i64 t.n, .string ⟨t.s.toArray⟩, .slice a1 t.keys.length c1, .slice a2 t.l.length c2] 25)) w.heap.size (.int .i64 t.kind) (.int .i64 t.n) (.string ⟨t.s.toArray⟩) (.slice a1 t.keys.length c1) (.slice a2 t.l.length c2) ∧ Below w.heap.size w (w.alloc (.cells #[.int .i64 t.kind, .int .i64 t.n, .string ⟨t.s.toArray⟩, .slice a1 t.keys.length c1, .slice a2 t.l.length c2] 25))) := hidI ⟨heap_alloc_new w _, bel_alloc _ _⟩
  go_enter Tryd.func4, Tryd.ntmps4
  go_wp2_with fail
  refine (rcopy_is _ _ t _ (by exact T0.out.bel K0.out.2) N1.out).mono ?_
  rintro e w1 ⟨cv, rfl, hb, hc⟩
  obtain ⟨b1, b2, e1, e2, rfl⟩ := hc.form
  have C1 := hidI hc
  have K1 : Hid (BoxIs w1 w.heap.size (.int .i64 t.kind) (.int .i64 t.n) (.string ⟨t.s.toArray⟩) (.slice a1 t.keys.length c1) (.slice a2 t.l.length c2) ∧ Below w.heap.size w w1) := hidI ⟨box_bel hb K0.out.1, bel_trans K0.out.2 hb⟩
  clear hb hc
  go_wp2_with fail
  refine (pread_at _ _ t _ (by exact C1.out) (by exact GG.out.bel K1.out.2)).mono ?_
  rintro e w2 ⟨sl, rfl, hs, hb⟩
  rw [HR.out] at hs ⊢
  simp only at hs ⊢
  have K2 : Hid (BoxIs w2 w.heap.size (.int .i64 t.kind) (.int .i64 t.n) (.string ⟨t.s.toArray⟩) (.slice a1 t.keys.length c1) (.slice a2 t.l.length c2) ∧ Below w.heap.size w w2) := hidI ⟨box_bel hb K1.out.1, bel_trans K1.out.2 hb⟩
  obtain ⟨s1, s2, rfl⟩ := hs.form
  have S2 := hidI hs
  obtain ⟨k0, k1, k2, k3, k4, -⟩ := K2.out.1.c
  clear hb hs
  go_wp2_with fail
  refine (rops_at _ _ t _ (by exact T0.out.bel K2.out.2) N4.out).mono ?_
  rintro e w3 ⟨sl, rfl, hs, hb⟩
  rw [HR.out] at hs ⊢
  simp only at hs ⊢
  obtain ⟨s3, s4, rfl⟩ := hs.form
  have S3 := hidI (And.intro (S2.out.bel hb) hs)
  have B3 := hidI (bel_trans K2.out.2 hb)
  clear hb hs k0 k1 k2 k3 k4
  go_wp2_with fail
  refine (rsameOps_at _ _ _ os _ _ (by exact S3.out.1) (by exact S3.out.2)).mono ?_
  rintro e w4 ⟨rfl, hb⟩
  have B4 := hidI (bel_trans B3.out hb)
  clear hb
  go_wp2_with fail
  refine (lpatches_at _ (by exact MM.out.bel B4.out)).mono ?_
  rintro e w5 ⟨rfl, hb⟩
  have B5 := hidI (bel_trans B4.out hb)
  clear hb
  go_wp2_with fail
  go_ret
  exact ⟨rfl, B5.out⟩
end Go.Proofs.YtaifciobaapehaaDoor

/- What is read of an argument that is a value, and how much there is in it. -/
set_option linter.unusedSimpArgs false
set_option linter.unusedVariables false
namespace Go.Proofs.YtaifciobaapehaaDoor
open Go.ChangeShapes Go.WideShapes Go.ChangeAt Go.RowKit
set_option maxRecDepth 100000

theorem bulk_one {H : Type} (d : DataW H) : 1 ≤ Rows.uptoBulk d := by
  cases d with
  | lit l => cases l <;> simp [Rows.uptoBulk]
  | nil => simp [Rows.uptoBulk]
  | ptr d => simp [Rows.uptoBulk]
  | slice elems spare => simp [Rows.uptoBulk]
  | agg parts => simp [Rows.uptoBulk]
  | iface t d => simp [Rows.uptoBulk]
  | map entries => simp [Rows.uptoBulk]
  | held h => simp [Rows.uptoBulk]
theorem bulk_len {H : Type} (l : List (DataW H)) : l.length ≤ Rows.uptoBulkAll l := by
  induction l with
  | nil => simp [Rows.uptoBulkAll]
  | cons x r ih => have := bulk_one x; simp only [Rows.uptoBulkAll, List.length_cons]; omega
theorem bulk_mem {H : Type} {d : DataW H} {l : List (DataW H)} (h : d ∈ l) : Rows.uptoBulk d ≤ Rows.uptoBulkAll l := by
  induction l with
  | nil => cases h
  | cons x r ih =>
    simp only [Rows.uptoBulkAll]
    rcases List.mem_cons.1 h with rfl | e
    · omega
    · have := ih e; omega
theorem bulk_sizs {H : Type} : ∀ (l : List V) (es : List (DataW H)), l.length = es.length → (∀ (i : Nat) (x : V) (e : DataW H), l[i]? = some x → es[i]? = some e → siz x ≤ Rows.uptoBulk e) → sizs l ≤ Rows.uptoBulkAll es
  | [], es, _, _ => by simp [sizs]
  | x :: l, [], h, _ => by simp at h
  | x :: l, e :: es, h, hh => by
    have h1 := hh 0 x e rfl rfl
    have h2 := bulk_sizs l es (by simpa using h) fun i y f hy hf => hh (i + 1) y f (by simpa using hy) (by simpa using hf)
    rw [sizs_cons]
    simp only [Rows.uptoBulkAll]
    omega
theorem strs_bulk {H : Type} {enc : TypeId × Value → H} {W : World} {fuel : Nat} {v : Value} {x : DataW H × List MemPlace} (h : DataW.trod enc Tryd.prog W 0 (fun _ => true) true fuel 22 [v] = some x) {ks : List (List UInt8)} (hk : StrsAre W (fun _ => True) ks v) : ks.length ≤ Rows.uptoBulk x.1 := by
  rcases open_strings Tryd.underlying22 Tryd.underlying9 cellsString h with ⟨e, -⟩ | ⟨a, len, cap, ss, e, -, hl, hm, hss, hx, hc, hz⟩
  · simp only [List.cons.injEq, and_true] at e
    subst e
    rcases hk.2 with ⟨h1, -⟩ | ⟨b, off, c, h1, -⟩
    · rw [h1]; simp
    · simp at h1
  · simp only [List.cons.injEq, and_true] at e
    subst e
    simp only [if_true] at hss
    have hlen : ks.length = len := by
      rcases hk.2 with ⟨h1, a0, h2⟩ | ⟨b, off, c, h1, -⟩
      · simp only [Value.slice.injEq] at h2; rw [h1, h2.2.1]; rfl
      · simp only [Value.slice.injEq] at h1; exact h1.2.1.symm
    subst hx
    have h1 := bulk_len (strs (H := H) (ss.take len))
    have h2 : (strs (H := H) (ss.take len)).length = len := by simp [strs]; omega
    simp only [Rows.uptoBulk]
    omega
theorem vis_bulk {H : Type} {enc : TypeId × Value → H} {W : World} (fuel : Nat) : ∀ (cs : List Value) (x : DataW H × List MemPlace), DataW.trod enc Tryd.prog W 0 (fun _ => true) true fuel 25 cs = some x →
    ∃ t v0 v1 v2 v3 v4, cs = [v0, v1, v2, v3, v4] ∧ VIs W (fun _ => True) fuel t (.agg #[v0, v1, v2, v3, v4]) ∧ siz t ≤ Rows.uptoBulk x.1 := by
  induction fuel with
  | zero => intro cs x h; simp [DataW.trod] at h
  | succ fuel ih =>
    intro cs x h
    obtain ⟨xs, n, e, hx, hl, hlen, hf⟩ := DataW.trod_struct Tryd.underlying25 h
    obtain rfl : n = fuel := by omega
    rw [cellsValue] at hl
    match cs, hl, xs, hlen with
    | [v0, v1, v2, v3, v4], _, [y0, y1, y2, y3, y4], _ =>
      have g0 : DataW.trod enc Tryd.prog W 0 (fun _ => true) true n 3 [v0] = some y0 := by simpa [cellsInt] using hf 0 _ rfl
      have g1 : DataW.trod enc Tryd.prog W 0 (fun _ => true) true n 3 [v1] = some y1 := by simpa [cellsInt] using hf 1 _ rfl
      have g2 : DataW.trod enc Tryd.prog W 0 (fun _ => true) true n 9 [v2] = some y2 := by simpa [cellsString] using hf 2 _ rfl
      have g3 : DataW.trod enc Tryd.prog W 0 (fun _ => true) true n 22 [v3] = some y3 := by simpa [cellsStrs] using hf 3 _ rfl
      have g4 : DataW.trod enc Tryd.prog W 0 (fun _ => true) true n 23 [v4] = some y4 := by simpa [cellsVals] using hf 4 _ rfl
      obtain ⟨z0, e0, -, w0⟩ := DataW.trod_int Tryd.underlying3 g0
      obtain ⟨z1, e1, -, w1⟩ := DataW.trod_int Tryd.underlying3 g1
      obtain ⟨s, e2, -, hs⟩ := DataW.trod_string Tryd.underlying9 g2
      simp only [List.cons.injEq, and_true] at e0 e1 e2
      subst e0
      subst e1
      subst e2
      obtain ⟨ks, hks⟩ := strs_of g3
      have hkb := strs_bulk g3 hks
      have hvals : ∃ l, ValsAre W (fun _ => True) (VIs W (fun _ => True) n) l v4 ∧ sizs l ≤ Rows.uptoBulk y4.1 := by
        rcases DataW.trod_slice Tryd.underlying23 g4 with ⟨e, -⟩ | ⟨a, len, cap, elems, rest, k, ek, e, hy4, -, hl, hm, hlen, hel, hsp, -⟩
        · simp only [List.cons.injEq, and_true] at e
          exact ⟨[], ⟨by simp [maxLen], .inl ⟨rfl, none, e⟩⟩, by simp [sizs]⟩
        · simp only [List.cons.injEq, and_true] at e
          rw [cellsValue] at hel hsp
          have all : ∀ i, i < len → ∃ cs' y, W.cells? 0 (a.add (i * 5)) 5 = some cs' ∧ DataW.trod enc Tryd.prog W 0 (fun _ => true) true k 25 cs' = some y ∧ elems[i]? = some y := by
            intro i hil
            have := hel i hil
            rw [List.getElem?_eq_getElem (by omega)] at this
            obtain ⟨cs', h1, h2⟩ := Option.bind_eq_some_iff.1 this
            exact ⟨cs', _, h1, h2, List.getElem?_eq_getElem (by omega)⟩
          by_cases h0 : len = 0
          · subst h0
            have he : elems = [] := List.eq_nil_of_length_eq_zero hlen
            by_cases hc : cap = 0
            · subst hc
              exact ⟨[], ⟨by simp [maxLen], .inl ⟨rfl, some a, e⟩⟩, by simp [sizs]⟩
            · have ha : a = ⟨a.block, a.off, none⟩ := by
                obtain ⟨hrl, hrest⟩ := hsp rfl
                have := hrest 0 (by omega)
                rw [List.getElem?_eq_getElem (by omega)] at this
                obtain ⟨cs', h1, h2⟩ := Option.bind_eq_some_iff.1 this
                obtain ⟨-, h2, h3⟩ := World.cells?_some h1
                have := h3 0 (by omega)
                rw [List.getElem?_eq_getElem (by omega)] at this
                exact addr_plain (spot_none (v := cs'[0]) (by simpa [Addr.add] using this))
              exact ⟨[], ⟨by simp [maxLen], .inr ⟨a.block, a.off, cap, by rw [← ha]; exact e, by simp, hm, fun i t ht => by simp at ht⟩⟩, by simp [sizs]⟩
          · have ha : a = ⟨a.block, a.off, none⟩ := by
              obtain ⟨cs', y, h1, -⟩ := all 0 (by omega)
              obtain ⟨-, h2, h3⟩ := World.cells?_some h1
              have := h3 0 (by omega)
              rw [List.getElem?_eq_getElem (by omega)] at this
              exact addr_plain (spot_none (v := cs'[0]) (by simpa [Addr.add] using this))
            obtain ⟨T, hT⟩ := @Go.Deep.choose_lt V ⟨⟨0, 0, [], [], []⟩⟩ len (fun i t => ∃ v0 v1 v2 v3 v4 y, W.cells? 0 (a.add (i * 5)) 5 = some [v0, v1, v2, v3, v4] ∧ VIs W (fun _ => True) n t (.agg #[v0, v1, v2, v3, v4]) ∧ elems[i]? = some y ∧ siz t ≤ Rows.uptoBulk y.1) (fun i hi => by
              obtain ⟨cs', y, h1, h2, h3⟩ := all i hi
              obtain ⟨t, v0, v1, v2, v3, v4, rfl, hv, hz⟩ := ih cs' y (DataW.trod_le (by omega) h2)
              exact ⟨t, v0, v1, v2, v3, v4, y, h1, hv, h3, hz⟩)
            refine ⟨(List.range len).map T, ⟨by simp only [List.length_map, List.length_range]; omega, .inr ⟨a.block, a.off, cap, by simp only [List.length_map, List.length_range]; rw [← ha]; exact e, by simp only [List.length_map, List.length_range]; omega, hm, fun i t ht => ?_⟩⟩, ?_⟩
            · simp only [List.getElem?_map, Option.map_eq_some_iff] at ht
              obtain ⟨j, hj, rfl⟩ := ht
              obtain ⟨hj1, hj2⟩ := List.getElem?_eq_some_iff.1 hj
              simp only [List.length_range] at hj1
              simp only [List.getElem_range] at hj2
              subst hj2
              obtain ⟨v0, v1, v2, v3, v4, y, h1, hv, -⟩ := hT i hj1
              obtain ⟨-, -, h3⟩ := World.cells?_some h1
              rw [ha] at h3
              have c : ∀ q, q < 5 → W.cell? ⟨a.block, a.off + i * 5 + q, none⟩ = [v0, v1, v2, v3, v4][q]? := by
                intro q hq
                have := h3 q hq
                rw [addr_add, addr_add] at this
                exact this
              exact ⟨v0, v1, v2, v3, v4, trivial, c 0 (by omega), c 1 (by omega), c 2 (by omega), c 3 (by omega), c 4 (by omega), hv⟩
            · have hb : sizs ((List.range len).map T) ≤ Rows.uptoBulkAll (elems.map (·.1)) := by
                refine bulk_sizs _ _ (by simp [hlen]) fun i x f hx hf => ?_
                simp only [List.getElem?_map, Option.map_eq_some_iff] at hx hf
                obtain ⟨j, hj, rfl⟩ := hx
                obtain ⟨hj1, hj2⟩ := List.getElem?_eq_some_iff.1 hj
                simp only [List.length_range] at hj1
                simp only [List.getElem_range] at hj2
                subst hj2
                obtain ⟨y', hy', rfl⟩ := hf
                obtain ⟨v0, v1, v2, v3, v4, y, -, -, h3, h4⟩ := hT i hj1
                rw [hy'] at h3
                cases h3
                exact h4
              rw [hy4]
              simp only [Rows.uptoBulk]
              omega
      obtain ⟨l, hl, hlb⟩ := hvals
      refine ⟨⟨z0, z1, s.data.toList, ks, l⟩, _, _, _, _, _, rfl, ⟨v3, v4, by unfold str; simp, int_wf w0, int_wf w1, by rw [Array.length_toList]; exact hs, hks, hl⟩, ?_⟩
      rw [siz_eq, hx]
      simp only [List.map_cons, List.map_nil, Rows.uptoBulk, Rows.uptoBulkAll]
      omega
theorem arg_bulk {H : Type} {enc : TypeId × Value → H} {W : World} {base : Nat} {v : Value} {d : DataW H} {p : List MemPlace} (hk : Value.okWide Tryd.prog W .any base 25 v) (h : DataW.Trod enc Tryd.prog W 0 (fun _ => true) true 25 v d p) :
    ∃ f t, VIs W (fun _ => True) f t v ∧ siz t ≤ Rows.uptoBulk d := by
  obtain ⟨cs, rfl, -⟩ := okWide_struct Tryd.underlying25 hk
  obtain ⟨f, hf⟩ := h
  obtain ⟨t, v0, v1, v2, v3, v4, e, hv, hz⟩ := vis_bulk f _ _ hf
  have e2 : cs = #[v0, v1, v2, v3, v4] := by
    obtain ⟨l⟩ := cs
    exact congrArg Array.mk e
  subst e2
  exact ⟨f, t, hv, hz⟩
/- The bound, as the row hands it over. -/
theorem bulk_bound {H : Type} {l : List (DataW H)} (hk : Rows.uptoSmall H l = true) : Rows.uptoBulkAll l ≤ 1048576 := of_decide_eq_true hk
end Go.Proofs.YtaifciobaapehaaDoor

set_option linter.unusedSimpArgs false
set_option linter.unusedVariables false
namespace Go.Proofs.YtaifciobaapehaaDoor.patchReads
open Go.ChangeShapes Go.WideShapes Go.ChangeAt Go.RowKit
open Go.ChangeMaps (open_string shut_string)

set_option maxRecDepth 100000 in
theorem contract (H : Type) (enc : TypeId × Value → H) (W : World) (base : Nat) (args : Array Value) (ds gs : List (DataW H)) (before : List MemPlace)
    (hval : ∀ (j : Nat) t v, Tryd.f4.params[j]? = some t → args[j]? = some v → Value.okWide Tryd.prog W .any base t v)
    (hW : DataW.Whole enc Tryd.prog Tryd.f4.params.toList Rows.patchReadsSpec.vars false W args.toList ds gs before)
    (hk : Rows.uptoSmall H (ds ++ gs) = true) (hZ : (DataW.weightsEach Tryd.prog (Tryd.f4.params.toList ++ (OpenSpec.ofChange Rows.patchReadsSpec).bare.plain.varTypes Tryd.prog) (ds ++ gs)).all (· ≤ reachBytes) = true) (hS : W.ShapedOpen Tryd.prog) (hL : laidMet Tryd.prog laidPw W) :
    Calls Tryd.prog 4 args W fun e W' => ∃ v, e = .returned v ∧ Rows.patchReadsSpec.post enc Tryd.prog Tryd.f4 false true false false W args v W' := by
  have hW' := hW
  obtain ⟨p, q, hA0, hV, rfl, hfz, hnd⟩ := hW
  have hA : DataW.TrodAll enc Tryd.prog W 0 (fun _ => true) true Tryd.f4.params.toList args.toList ds p := hA0
  rw [Tryd.params4] at hA hval
  obtain ⟨v0, vs0, d0, ds0, p0, q0, hargs0, rfl, rfl, h0, r0⟩ := trodAll_cons hA
  obtain ⟨rfl, rfl, rfl⟩ := trodAll_nil r0
  have hargs : args = #[v0] := by
    obtain ⟨l⟩ := args
    exact congrArg Array.mk hargs0
  subst hargs
  obtain ⟨rfl, rfl⟩ := trodVars_none hV
  have k0 : Value.okWide Tryd.prog W .any base 25 v0 := hval 0 _ _ (by simp) (by simp)
  obtain ⟨f0, t0, hv0, hz0⟩ := arg_bulk k0 h0
  clear hA0
  simp only [List.append_nil] at hW'
  have hb := bulk_bound hk
  simp only [List.append_nil, Rows.uptoBulkAll] at hb
  have b0 : siz t0 ≤ 2000000 := by omega
  have walk := patchReads_walk W (fun _ => True) f0 t0 v0 hv0 b0 (glob_pt hS) (glob_w hL)
  refine walk.mono fun e W' ⟨he, hg⟩ => ?_
  subst he
  have ef : Rows.patchReadsSpec.fn H ([d0] ++ []) = { results := [.lit (.bool true)], args := [d0] } := rfl
  refine ⟨_, rfl, _, _, _, [], (p0 ++ []), [], hW', ?_, ?_, ?_, hg.frame _, fun h => by cases h⟩
  · rw [ef]; exact trodAll_mk1 (shut_bool Tryd.underlying4 _)
  · rw [ef, Tryd.params4]; exact trodAll_cons_mk (Below.trod laidOut readableV rowedV h0 hg (trod_old h0)) (trodAll_mk0)
  · rw [ef]; rfl

set_option maxRecDepth 100000 in
theorem reads (os : Os) {H : Type} (enc : TypeId × Value → H) : ∃ places, DataW.whole enc Tryd.prog ((pwWorld os).forCall (fun _ _ => 0) ⟨#[], #[.agg #[.int .i64 0, .int .i64 0, .string ⟨#[]⟩, .slice none 0 0, .slice none 0 0]], []⟩).memory Tryd.f4.params.toList Rows.patchReadsSpec.vars false #[Value.agg #[.int .i64 0, .int .i64 0, .string ⟨#[]⟩, .slice none 0 0, .slice none 0 0]].toList 8 = some ([.agg [.lit (.int .i64 0), .lit (.int .i64 0), .lit (.string []), .nil, .nil]], [], places) :=
  ⟨[], by kernel_rfl⟩

set_option maxRecDepth 100000 in
theorem lifted (os : Os) (started : os.Started) (H : Type) (enc : TypeId × Value → H) (F : Stop.Interp) :
    ReturnsInHanded {} Tryd.checked os 4 .any ((Rows.OpenSpec.upto Rows.patchReadsSpec).preRow enc Tryd.prog Tryd.f4 Rows.patchReadsUptoRow.domain false Rows.patchReadsUptoRow.laid) (((Rows.OpenSpec.upto Rows.patchReadsSpec).at F).post enc Tryd.prog Tryd.f4 false true false false) := by
  obtain ⟨places, hx⟩ := reads os enc
  refine returnsInHanded_of_row (C := Tryd.checked) (s := Rows.OpenSpec.upto Rows.patchReadsSpec) own started (by kernel_rfl) Tryd.func4
    (witness_row_at (enc := enc) (C := Tryd.checked) false (pwWorld os) #[.agg #[.int .i64 0, .int .i64 0, .string ⟨#[]⟩, .slice none 0 0, .slice none 0 0]] rfl (by kernel_rfl) (by kernel_rfl) (by kernel_rfl)
      (OpenSpec.preRow_of_cond 8 hx (by kernel_rfl) (fun k hk => by cases hk; kernel_rfl) (by kernel_rfl) (pw_met os _))) ?_
  intro W base args ds gs before hval hW _ hc hZ hL hS _
  exact contract H enc W base args ds gs before hval hW (hc _ rfl) hZ hS hL

theorem said : Rows.PatchReadsUptoSaid :=
  OpenClaim.holds_of_cond 4 Tryd.f4 rfl rfl rfl rfl rfl rfl rfl ⟨rfl, rfl, rfl, rfl, rfl⟩ rfl rfl rfl rfl rfl (by kernel_rfl) Tryd.func4 (by kernel_rfl)
    (of_decide_eq_true (by kernel_rfl)) (by unfold Func.isWrapper; first | (rw [if_pos (by decide +kernel)]; kernel_rfl) | (rw [if_neg (by decide +kernel)]; exact ⟨rfl, rfl⟩))
    (fun os started H enc _ F => by rw [OpenClaim.pre_eq_preRow]; exact lifted os started H enc F)

theorem plain (f : FuncId) (fn : Func) (hf : Tryd.pinned.checked.prog.funcNamed "stairwell/stairwelllaw.PatchReads" = some f) (hfn : Tryd.pinned.checked.prog.funcs[f]? = some fn) :
    false = Tryd.pinned.checked.prog.looks [] ∧ ∀ (j : Nat) t, fn.params[j]? = some t → Tryd.pinned.checked.prog.wantsStandIn t = false := by
  obtain rfl : f = 4 := Option.some.inj ((show Tryd.prog.funcNamed "stairwell/stairwelllaw.PatchReads" = some 4 by kernel_rfl).symm.trans hf) |>.symm
  obtain rfl : fn = Tryd.f4 := (Option.some.inj (Tryd.func4.symm.trans hfn)).symm
  refine ⟨by kernel_rfl, fun j t ht => ?_⟩
  rw [Tryd.params4] at ht
  have hm := Array.mem_of_getElem? ht
  simp only [Array.mem_def, List.mem_cons, List.not_mem_nil, or_false] at hm
  subst hm
  exact (show Tryd.prog.wantsStandIn 25 = false by kernel_rfl)

theorem card : Rows.PatchReadsUptoCardSaid :=
  Claim7.holds_tied_plain_at .later [] _ _ _ _ said (fun _ h => by cases h) (by kernel_rfl) (fun _ h => by cases h) patchReadsUpto_row_tie rfl ⟨rfl, rfl⟩ (by kernel_rfl) rfl plain (by kernel_rfl)
end Go.Proofs.YtaifciobaapehaaDoor.patchReads
