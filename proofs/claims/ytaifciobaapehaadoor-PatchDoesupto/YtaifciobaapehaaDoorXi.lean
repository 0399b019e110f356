/- What the function that lay of package point makes on the spot does. -/
import Derived.Test.YtaifciobaapehaaDoorXh
set_option linter.unusedSimpArgs false
set_option linter.unusedVariables false
namespace Go.Proofs.YtaifciobaapehaaDoor
open Go.RowKit

set_option maxRecDepth 100000 in
set_option maxHeartbeats 4000000 in
theorem clo_added (w : World) (ok : Nat → Prop) (t x : V) (v : Value) (s : List UInt8) (gh gx : Nat) (a7 a8 : Option Addr) (c7 c8 : Nat) (tf : TypeId) (h : In w ok t v)
    (hx : In w ok x (.agg #[.int .i64 x.kind, .int .i64 x.n, .string ⟨x.s.toArray⟩, .slice a7 x.keys.length c7, .slice a8 x.l.length c8]))
    (bx : BoxIs w gx (.int .i64 x.kind) (.int .i64 x.n) (.string ⟨x.s.toArray⟩) (.slice a7 x.keys.length c7) (.slice a8 x.l.length c8)) (bh : w.heap[gh]? = some (.cells #[.func (.func 30) #[] #[]] tf))
    (hn : Nice t) (hs : s.length ≤ 9223372036854775807) :
    Calls Tryd.prog 50 #[v, str s, .pointer (some ⟨gh, 0, none⟩), .pointer (some ⟨gx, 0, none⟩)] w fun e w' => ∃ r b, e = .returned (.tuple #[r, .bool b]) ∧ Below w.heap.size w w' ∧ OptIn w' (okN ok w.heap.size) (addedV x t s) r b := by
  have H := hidI h.low
  have HX := hidI hx.low
  have HN := hidI hn
  obtain ⟨l1, l2, l3⟩ := h.lens
  obtain ⟨a1, a2, c1, c2, rfl⟩ := h.form
  have B2 : Hid (∀ o1 o2, Below w.heap.size w ((w.alloc o1).alloc o2)) := fun o1 o2 => bel_trans (bel_alloc _ _) (bel_alloc _ _)
  have hf : w.cell? ⟨gh, 0, none⟩ = some (.func (.func 30) #[] #[]) := by simp [World.cell?, bh]
  have g0 : ∀ o1 o2, ((w.alloc o1).alloc o2).cell? ⟨gh, 0, none⟩ = some (.func (.func 30) #[] #[]) := fun o1 o2 => cell_bel (B2.out o1 o2) hf
  obtain ⟨m0, m1, m2, m3, m4, -⟩ := bx.c
  have g1 : ∀ o1 o2, ((w.alloc o1).alloc o2).cell? ⟨gx, 0, none⟩ = some (.int .i64 x.kind) := fun o1 o2 => cell_bel (B2.out o1 o2) m0
  have g2 : ∀ o1 o2, ((w.alloc o1).alloc o2).cell? ⟨gx, 1, none⟩ = some (.int .i64 x.n) := fun o1 o2 => cell_bel (B2.out o1 o2) m1
  have g3 : ∀ o1 o2, ((w.alloc o1).alloc o2).cell? ⟨gx, 2, none⟩ = some (.string ⟨x.s.toArray⟩) := fun o1 o2 => cell_bel (B2.out o1 o2) m2
  have g4 : ∀ o1 o2, ((w.alloc o1).alloc o2).cell? ⟨gx, 3, none⟩ = some (.slice a7 x.keys.length c7) := fun o1 o2 => cell_bel (B2.out o1 o2) m3
  have g5 : ∀ o1 o2, ((w.alloc o1).alloc o2).cell? ⟨gx, 4, none⟩ = some (.slice a8 x.l.length c8) := fun o1 o2 => cell_bel (B2.out o1 o2) m4
  clear h hx bx bh hf m0 m1 m2 m3 m4 hn
  go_enter Tryd.func50, Tryd.ntmps50
  go_wp2_with fail
  refine (added_is _ (fun k => ok k ∧ k < w.heap.size) t x _ _ s (by exact H.out.bel (B2.out _ _)) (by exact HX.out.bel (B2.out _ _)) HN.out hs).mono ?_
  rintro e w1 ⟨r, b, rfl, hb1, hb2, y, hy, hyz⟩
  obtain ⟨a5, a6, c5, c6, rfl⟩ := hy.form
  have hbx := box_bel hb1 (h2b w _ _)
  obtain ⟨x0, x1, x2, x3, x4, y0, y1, y2, y3, y4⟩ := BoxIs.c hbx
  have Z : Hid (_ ∧ _) := hidI (set_out (g := w.heap.size + 1) hy (bel_trans (B2.out _ _) hb1) (by omega) (by simp))
  have ZB : Hid _ := hidI (BoxIs.set hbx (.int .i64 y.kind) (.int .i64 y.n) (.string ⟨y.s.toArray⟩) (.slice a5 y.keys.length c5) (.slice a6 y.l.length c6))
  have R : Hid (b = (addedV x t s).isSome ∧ ∀ z, addedV x t s = some z → y = z) := ⟨hb2, hyz⟩
  clear hb1 hb2 hy hyz hbx g0 g1 g2 g3 g4 g5
  go_wp2_with fail
  obtain ⟨z0, z1, z2, z3, z4, -⟩ := ZB.out.c
  refine bodyPost_ret (v := .tuple #[.agg #[.int .i64 y.kind, .int .i64 y.n, .string ⟨y.s.toArray⟩, .slice a5 y.keys.length c5, .slice a6 y.l.length c6], .bool b]) ?_ rfl ?_
  · simp only [set5] at z0 z1 z2 z3 z4
    simp [results, Tryd.results50, go_sem, z0, z1, z2, z3, z4]
  · exact ⟨_, _, rfl, Z.out.1, R.out.1, y, Z.out.2, R.out.2⟩

set_option maxRecDepth 100000 in
set_option maxHeartbeats 4000000 in
theorem clo_replaced (w : World) (ok : Nat → Prop) (t x : V) (v : Value) (s : List UInt8) (gh gx : Nat) (a7 a8 : Option Addr) (c7 c8 : Nat) (tf : TypeId) (h : In w ok t v)
    (hx : In w ok x (.agg #[.int .i64 x.kind, .int .i64 x.n, .string ⟨x.s.toArray⟩, .slice a7 x.keys.length c7, .slice a8 x.l.length c8]))
    (bx : BoxIs w gx (.int .i64 x.kind) (.int .i64 x.n) (.string ⟨x.s.toArray⟩) (.slice a7 x.keys.length c7) (.slice a8 x.l.length c8)) (bh : w.heap[gh]? = some (.cells #[.func (.func 34) #[] #[]] tf))
    (hn : Nice t) (hs : s.length ≤ 9223372036854775807) :
    Calls Tryd.prog 50 #[v, str s, .pointer (some ⟨gh, 0, none⟩), .pointer (some ⟨gx, 0, none⟩)] w fun e w' => ∃ r b, e = .returned (.tuple #[r, .bool b]) ∧ Below w.heap.size w w' ∧ OptIn w' (okN ok w.heap.size) (replacedV x t s) r b := by
  have H := hidI h.low
  have HX := hidI hx.low
  have HN := hidI hn
  obtain ⟨l1, l2, l3⟩ := h.lens
  obtain ⟨a1, a2, c1, c2, rfl⟩ := h.form
  have B2 : Hid (∀ o1 o2, Below w.heap.size w ((w.alloc o1).alloc o2)) := fun o1 o2 => bel_trans (bel_alloc _ _) (bel_alloc _ _)
  have hf : w.cell? ⟨gh, 0, none⟩ = some (.func (.func 34) #[] #[]) := by simp [World.cell?, bh]
  have g0 : ∀ o1 o2, ((w.alloc o1).alloc o2).cell? ⟨gh, 0, none⟩ = some (.func (.func 34) #[] #[]) := fun o1 o2 => cell_bel (B2.out o1 o2) hf
  obtain ⟨m0, m1, m2, m3, m4, -⟩ := bx.c
  have g1 : ∀ o1 o2, ((w.alloc o1).alloc o2).cell? ⟨gx, 0, none⟩ = some (.int .i64 x.kind) := fun o1 o2 => cell_bel (B2.out o1 o2) m0
  have g2 : ∀ o1 o2, ((w.alloc o1).alloc o2).cell? ⟨gx, 1, none⟩ = some (.int .i64 x.n) := fun o1 o2 => cell_bel (B2.out o1 o2) m1
  have g3 : ∀ o1 o2, ((w.alloc o1).alloc o2).cell? ⟨gx, 2, none⟩ = some (.string ⟨x.s.toArray⟩) := fun o1 o2 => cell_bel (B2.out o1 o2) m2
  have g4 : ∀ o1 o2, ((w.alloc o1).alloc o2).cell? ⟨gx, 3, none⟩ = some (.slice a7 x.keys.length c7) := fun o1 o2 => cell_bel (B2.out o1 o2) m3
  have g5 : ∀ o1 o2, ((w.alloc o1).alloc o2).cell? ⟨gx, 4, none⟩ = some (.slice a8 x.l.length c8) := fun o1 o2 => cell_bel (B2.out o1 o2) m4
  clear h hx bx bh hf m0 m1 m2 m3 m4 hn
  go_enter Tryd.func50, Tryd.ntmps50
  go_wp2_with fail
  refine (replaced_is _ (fun k => ok k ∧ k < w.heap.size) t x _ _ s (by exact H.out.bel (B2.out _ _)) (by exact HX.out.bel (B2.out _ _)) HN.out hs).mono ?_
  rintro e w1 ⟨r, b, rfl, hb1, hb2, y, hy, hyz⟩
  obtain ⟨a5, a6, c5, c6, rfl⟩ := hy.form
  have hbx := box_bel hb1 (h2b w _ _)
  obtain ⟨x0, x1, x2, x3, x4, y0, y1, y2, y3, y4⟩ := BoxIs.c hbx
  have Z : Hid (_ ∧ _) := hidI (set_out (g := w.heap.size + 1) hy (bel_trans (B2.out _ _) hb1) (by omega) (by simp))
  have ZB : Hid _ := hidI (BoxIs.set hbx (.int .i64 y.kind) (.int .i64 y.n) (.string ⟨y.s.toArray⟩) (.slice a5 y.keys.length c5) (.slice a6 y.l.length c6))
  have R : Hid (b = (replacedV x t s).isSome ∧ ∀ z, replacedV x t s = some z → y = z) := ⟨hb2, hyz⟩
  clear hb1 hb2 hy hyz hbx g0 g1 g2 g3 g4 g5
  go_wp2_with fail
  obtain ⟨z0, z1, z2, z3, z4, -⟩ := ZB.out.c
  refine bodyPost_ret (v := .tuple #[.agg #[.int .i64 y.kind, .int .i64 y.n, .string ⟨y.s.toArray⟩, .slice a5 y.keys.length c5, .slice a6 y.l.length c6], .bool b]) ?_ rfl ?_
  · simp only [set5] at z0 z1 z2 z3 z4
    simp [results, Tryd.results50, go_sem, z0, z1, z2, z3, z4]
  · exact ⟨_, _, rfl, Z.out.1, R.out.1, y, Z.out.2, R.out.2⟩

end Go.Proofs.YtaifciobaapehaaDoor
