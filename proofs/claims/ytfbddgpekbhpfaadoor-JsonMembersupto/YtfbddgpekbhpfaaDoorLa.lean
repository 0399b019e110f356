/- What JsonMembers of package stairwelllaw answers. -/
import Derived.Test.YtfbddgpekbhpfaaDoorFy
import Derived.Test.YtfbddgpekbhpfaaDoorQh
set_option linter.unusedSimpArgs false
set_option linter.unusedVariables false
namespace Go.Proofs.YtfbddgpekbhpfaaDoor
open Go.RowKit

attribute [local go_sem ↓] Go.wp_at_zero Go.wp_at_succ
open Classical in
set_option maxRecDepth 100000 in
set_option maxHeartbeats 40000000 in
theorem jsonMembers_walk (w : World) (okt : Nat → Prop) (dt : Nat) (t : V) (vt : Value) (ht : VIs w okt dt t vt) (hN : siz t ≤ 2000000) (okx : Nat → Prop) (dx : Nat) (x : V) (vx : Value) (hx : VIs w okx dx x vx) (hNx : siz x ≤ 2000000) (key : List UInt8) (hk : key.length ≤ 140737488351232) (hG : Glob w) :
    Calls Tryd.prog 4 #[vt, vx, str key] w fun e w' => e = .returned (.bool true) ∧ Below w.heap.size w w' := by
  have HG := hidI hG
  have HC : Hid (cnt t ≤ 2000000) := hidI (Nat.le_trans (cnt_siz t) hN)
  have HN := hidI hN
  have qt : In w (fun _ => True) t vt := ht.is.weak fun _ _ => trivial
  have Ht := hidI qt
  obtain ⟨la1, lb1, lc1⟩ := qt.lens
  obtain ⟨a1, b1, c1, d1, rfl⟩ := qt.form
  clear qt ht
  have qx : In w (fun _ => True) x vx := hx.is.weak fun _ _ => trivial
  have Hx := hidI qx
  obtain ⟨la2, lb2, lc2⟩ := qx.lens
  obtain ⟨a2, b2, c2, d2, rfl⟩ := qx.form
  clear qx hx
  clear hG hN
  unfold str
  have B0 : Hid (Below w.heap.size w ((w.alloc (.cells #[.int .i64 t.kind, .int .i64 t.n, .string ⟨t.s.toArray⟩, .slice a1 t.keys.length c1, .slice b1 t.l.length d1] 25)).alloc (.cells #[.int .i64 x.kind, .int .i64 x.n, .string ⟨x.s.toArray⟩, .slice a2 x.keys.length c2, .slice b2 x.l.length d2] 25))) := hidI (bel_trans (bel_alloc _ _) (bel_alloc _ _))
  have K0 : Hid ((BoxIs ((w.alloc (.cells #[.int .i64 t.kind, .int .i64 t.n, .string ⟨t.s.toArray⟩, .slice a1 t.keys.length c1, .slice b1 t.l.length d1] 25)).alloc (.cells #[.int .i64 x.kind, .int .i64 x.n, .string ⟨x.s.toArray⟩, .slice a2 x.keys.length c2, .slice b2 x.l.length d2] 25)) w.heap.size (.int .i64 t.kind) (.int .i64 t.n) (.string ⟨t.s.toArray⟩) (.slice a1 t.keys.length c1) (.slice b1 t.l.length d1) ∧ BoxIs ((w.alloc (.cells #[.int .i64 t.kind, .int .i64 t.n, .string ⟨t.s.toArray⟩, .slice a1 t.keys.length c1, .slice b1 t.l.length d1] 25)).alloc (.cells #[.int .i64 x.kind, .int .i64 x.n, .string ⟨x.s.toArray⟩, .slice a2 x.keys.length c2, .slice b2 x.l.length d2] 25)) (w.heap.size + 1) (.int .i64 x.kind) (.int .i64 x.n) (.string ⟨x.s.toArray⟩) (.slice a2 x.keys.length c2) (.slice b2 x.l.length d2)) ∧ (In ((w.alloc (.cells #[.int .i64 t.kind, .int .i64 t.n, .string ⟨t.s.toArray⟩, .slice a1 t.keys.length c1, .slice b1 t.l.length d1] 25)).alloc (.cells #[.int .i64 x.kind, .int .i64 x.n, .string ⟨x.s.toArray⟩, .slice a2 x.keys.length c2, .slice b2 x.l.length d2] 25)) (fun _ => True) t (.agg #[.int .i64 t.kind, .int .i64 t.n, .string ⟨t.s.toArray⟩, .slice a1 t.keys.length c1, .slice b1 t.l.length d1]) ∧ In ((w.alloc (.cells #[.int .i64 t.kind, .int .i64 t.n, .string ⟨t.s.toArray⟩, .slice a1 t.keys.length c1, .slice b1 t.l.length d1] 25)).alloc (.cells #[.int .i64 x.kind, .int .i64 x.n, .string ⟨x.s.toArray⟩, .slice a2 x.keys.length c2, .slice b2 x.l.length d2] 25)) (fun _ => True) x (.agg #[.int .i64 x.kind, .int .i64 x.n, .string ⟨x.s.toArray⟩, .slice a2 x.keys.length c2, .slice b2 x.l.length d2])) ∧ Below w.heap.size w ((w.alloc (.cells #[.int .i64 t.kind, .int .i64 t.n, .string ⟨t.s.toArray⟩, .slice a1 t.keys.length c1, .slice b1 t.l.length d1] 25)).alloc (.cells #[.int .i64 x.kind, .int .i64 x.n, .string ⟨x.s.toArray⟩, .slice a2 x.keys.length c2, .slice b2 x.l.length d2] 25))) := hidI ⟨⟨h2a w _ _, h2b w _ _⟩, ⟨Ht.out.bel B0.out, Hx.out.bel B0.out⟩, B0.out⟩
  go_enter Tryd.func4, Tryd.ntmps4
  obtain ⟨x00, x01, x02, x03, x04, -⟩ := K0.out.1.1.c
  obtain ⟨x10, x11, x12, x13, x14, -⟩ := K0.out.1.2.c
  go_wp2_with fail
  refine (rcopy_is _ (fun _ => True) t _ (by exact K0.out.2.1.1) (by have := HN.out; omega)).mono ?_
  rintro e w1 ⟨r3, rfl, hb1, hr3⟩
  obtain ⟨a3, b3, c3, d3, rfl⟩ := hr3.form
  have hbb3 := bel_trans hb1 (bel_alloc w1 (.cells #[.int .i64 t.kind, .int .i64 t.n, .string ⟨t.s.toArray⟩, .slice a3 t.keys.length c3, .slice b3 t.l.length d3] 25))
  have K1 : Hid ((BoxIs (w1.alloc (.cells #[.int .i64 t.kind, .int .i64 t.n, .string ⟨t.s.toArray⟩, .slice a3 t.keys.length c3, .slice b3 t.l.length d3] 25)) w.heap.size (.int .i64 t.kind) (.int .i64 t.n) (.string ⟨t.s.toArray⟩) (.slice a1 t.keys.length c1) (.slice b1 t.l.length d1) ∧ BoxIs (w1.alloc (.cells #[.int .i64 t.kind, .int .i64 t.n, .string ⟨t.s.toArray⟩, .slice a3 t.keys.length c3, .slice b3 t.l.length d3] 25)) (w.heap.size + 1) (.int .i64 x.kind) (.int .i64 x.n) (.string ⟨x.s.toArray⟩) (.slice a2 x.keys.length c2) (.slice b2 x.l.length d2) ∧ BoxIs (w1.alloc (.cells #[.int .i64 t.kind, .int .i64 t.n, .string ⟨t.s.toArray⟩, .slice a3 t.keys.length c3, .slice b3 t.l.length d3] 25)) w1.heap.size (.int .i64 t.kind) (.int .i64 t.n) (.string ⟨t.s.toArray⟩) (.slice a3 t.keys.length c3) (.slice b3 t.l.length d3)) ∧ (In (w1.alloc (.cells #[.int .i64 t.kind, .int .i64 t.n, .string ⟨t.s.toArray⟩, .slice a3 t.keys.length c3, .slice b3 t.l.length d3] 25)) (fun _ => True) t (.agg #[.int .i64 t.kind, .int .i64 t.n, .string ⟨t.s.toArray⟩, .slice a1 t.keys.length c1, .slice b1 t.l.length d1]) ∧ In (w1.alloc (.cells #[.int .i64 t.kind, .int .i64 t.n, .string ⟨t.s.toArray⟩, .slice a3 t.keys.length c3, .slice b3 t.l.length d3] 25)) (fun _ => True) x (.agg #[.int .i64 x.kind, .int .i64 x.n, .string ⟨x.s.toArray⟩, .slice a2 x.keys.length c2, .slice b2 x.l.length d2]) ∧ In (w1.alloc (.cells #[.int .i64 t.kind, .int .i64 t.n, .string ⟨t.s.toArray⟩, .slice a3 t.keys.length c3, .slice b3 t.l.length d3] 25)) (fun _ => True) t (.agg #[.int .i64 t.kind, .int .i64 t.n, .string ⟨t.s.toArray⟩, .slice a3 t.keys.length c3, .slice b3 t.l.length d3])) ∧ Below w.heap.size w (w1.alloc (.cells #[.int .i64 t.kind, .int .i64 t.n, .string ⟨t.s.toArray⟩, .slice a3 t.keys.length c3, .slice b3 t.l.length d3] 25))) := hidI ⟨⟨box_bel hbb3 K0.out.1.1, box_bel hbb3 K0.out.1.2, heap_alloc_new w1 _⟩, ⟨K0.out.2.1.1.bel hbb3, K0.out.2.1.2.bel hbb3, (hr3.bel (bel_alloc _ _)).weak fun _ _ => trivial⟩, bel_trans K0.out.2.2 hbb3⟩
  clear hr3 hb1 hbb3 x00 x01 x02 x03 x04 x10 x11 x12 x13 x14
  obtain ⟨x00, x01, x02, x03, x04, -⟩ := K1.out.1.1.c
  obtain ⟨x10, x11, x12, x13, x14, -⟩ := K1.out.1.2.1.c
  obtain ⟨x20, x21, x22, x23, x24, -⟩ := K1.out.1.2.2.c
  go_wp2_with fail
  refine (member_get _ (fun _ => True) t _ key (by exact K1.out.2.1.2.2)).mono ?_
  rintro e w2 ⟨r4, rfl, hb2, hr4⟩
  obtain ⟨m, hg4⟩ : ∃ g, (memV t key).getD zeroT = g := ⟨_, rfl⟩
  rw [hg4] at hr4
  obtain ⟨a4, b4, c4, d4, rfl⟩ := hr4.form
  have HG4 := hidI hg4
  have hbb4 := bel_trans hb2 (bel_alloc w2 (.cells #[.int .i64 m.kind, .int .i64 m.n, .string ⟨m.s.toArray⟩, .slice a4 m.keys.length c4, .slice b4 m.l.length d4] 25))
  have K2 : Hid ((BoxIs (w2.alloc (.cells #[.int .i64 m.kind, .int .i64 m.n, .string ⟨m.s.toArray⟩, .slice a4 m.keys.length c4, .slice b4 m.l.length d4] 25)) w.heap.size (.int .i64 t.kind) (.int .i64 t.n) (.string ⟨t.s.toArray⟩) (.slice a1 t.keys.length c1) (.slice b1 t.l.length d1) ∧ BoxIs (w2.alloc (.cells #[.int .i64 m.kind, .int .i64 m.n, .string ⟨m.s.toArray⟩, .slice a4 m.keys.length c4, .slice b4 m.l.length d4] 25)) (w.heap.size + 1) (.int .i64 x.kind) (.int .i64 x.n) (.string ⟨x.s.toArray⟩) (.slice a2 x.keys.length c2) (.slice b2 x.l.length d2) ∧ BoxIs (w2.alloc (.cells #[.int .i64 m.kind, .int .i64 m.n, .string ⟨m.s.toArray⟩, .slice a4 m.keys.length c4, .slice b4 m.l.length d4] 25)) w1.heap.size (.int .i64 t.kind) (.int .i64 t.n) (.string ⟨t.s.toArray⟩) (.slice a3 t.keys.length c3) (.slice b3 t.l.length d3) ∧ BoxIs (w2.alloc (.cells #[.int .i64 m.kind, .int .i64 m.n, .string ⟨m.s.toArray⟩, .slice a4 m.keys.length c4, .slice b4 m.l.length d4] 25)) w2.heap.size (.int .i64 m.kind) (.int .i64 m.n) (.string ⟨m.s.toArray⟩) (.slice a4 m.keys.length c4) (.slice b4 m.l.length d4)) ∧ (In (w2.alloc (.cells #[.int .i64 m.kind, .int .i64 m.n, .string ⟨m.s.toArray⟩, .slice a4 m.keys.length c4, .slice b4 m.l.length d4] 25)) (fun _ => True) t (.agg #[.int .i64 t.kind, .int .i64 t.n, .string ⟨t.s.toArray⟩, .slice a1 t.keys.length c1, .slice b1 t.l.length d1]) ∧ In (w2.alloc (.cells #[.int .i64 m.kind, .int .i64 m.n, .string ⟨m.s.toArray⟩, .slice a4 m.keys.length c4, .slice b4 m.l.length d4] 25)) (fun _ => True) x (.agg #[.int .i64 x.kind, .int .i64 x.n, .string ⟨x.s.toArray⟩, .slice a2 x.keys.length c2, .slice b2 x.l.length d2]) ∧ In (w2.alloc (.cells #[.int .i64 m.kind, .int .i64 m.n, .string ⟨m.s.toArray⟩, .slice a4 m.keys.length c4, .slice b4 m.l.length d4] 25)) (fun _ => True) t (.agg #[.int .i64 t.kind, .int .i64 t.n, .string ⟨t.s.toArray⟩, .slice a3 t.keys.length c3, .slice b3 t.l.length d3]) ∧ In (w2.alloc (.cells #[.int .i64 m.kind, .int .i64 m.n, .string ⟨m.s.toArray⟩, .slice a4 m.keys.length c4, .slice b4 m.l.length d4] 25)) (fun _ => True) m (.agg #[.int .i64 m.kind, .int .i64 m.n, .string ⟨m.s.toArray⟩, .slice a4 m.keys.length c4, .slice b4 m.l.length d4])) ∧ Below w.heap.size w (w2.alloc (.cells #[.int .i64 m.kind, .int .i64 m.n, .string ⟨m.s.toArray⟩, .slice a4 m.keys.length c4, .slice b4 m.l.length d4] 25))) := hidI ⟨⟨box_bel hbb4 K1.out.1.1, box_bel hbb4 K1.out.1.2.1, box_bel hbb4 K1.out.1.2.2, heap_alloc_new w2 _⟩, ⟨K1.out.2.1.1.bel hbb4, K1.out.2.1.2.1.bel hbb4, K1.out.2.1.2.2.bel hbb4, (hr4.bel (bel_alloc _ _)).weak fun _ _ => trivial⟩, bel_trans K1.out.2.2 hbb4⟩
  clear hg4 hr4 hb2 hbb4 x00 x01 x02 x03 x04 x10 x11 x12 x13 x14 x20 x21 x22 x23 x24
  obtain ⟨x00, x01, x02, x03, x04, -⟩ := K2.out.1.1.c
  obtain ⟨x10, x11, x12, x13, x14, -⟩ := K2.out.1.2.1.c
  obtain ⟨x20, x21, x22, x23, x24, -⟩ := K2.out.1.2.2.1.c
  obtain ⟨x30, x31, x32, x33, x34, -⟩ := K2.out.1.2.2.2.c
  go_wp2_with fail
  refine (rmember_is _ (fun _ => True) t _ key (by exact K2.out.2.1.1)).mono ?_
  rintro e w3 ⟨r5, rfl, hb3, hr5⟩
  rw [HG4.out] at hr5
  obtain ⟨a5, b5, c5, d5, rfl⟩ := hr5.form
  have hbb5 := bel_trans hb3 (bel_alloc w3 (.cells #[.int .i64 m.kind, .int .i64 m.n, .string ⟨m.s.toArray⟩, .slice a5 m.keys.length c5, .slice b5 m.l.length d5] 25))
  have K3 : Hid ((BoxIs (w3.alloc (.cells #[.int .i64 m.kind, .int .i64 m.n, .string ⟨m.s.toArray⟩, .slice a5 m.keys.length c5, .slice b5 m.l.length d5] 25)) w.heap.size (.int .i64 t.kind) (.int .i64 t.n) (.string ⟨t.s.toArray⟩) (.slice a1 t.keys.length c1) (.slice b1 t.l.length d1) ∧ BoxIs (w3.alloc (.cells #[.int .i64 m.kind, .int .i64 m.n, .string ⟨m.s.toArray⟩, .slice a5 m.keys.length c5, .slice b5 m.l.length d5] 25)) (w.heap.size + 1) (.int .i64 x.kind) (.int .i64 x.n) (.string ⟨x.s.toArray⟩) (.slice a2 x.keys.length c2) (.slice b2 x.l.length d2) ∧ BoxIs (w3.alloc (.cells #[.int .i64 m.kind, .int .i64 m.n, .string ⟨m.s.toArray⟩, .slice a5 m.keys.length c5, .slice b5 m.l.length d5] 25)) w1.heap.size (.int .i64 t.kind) (.int .i64 t.n) (.string ⟨t.s.toArray⟩) (.slice a3 t.keys.length c3) (.slice b3 t.l.length d3) ∧ BoxIs (w3.alloc (.cells #[.int .i64 m.kind, .int .i64 m.n, .string ⟨m.s.toArray⟩, .slice a5 m.keys.length c5, .slice b5 m.l.length d5] 25)) w2.heap.size (.int .i64 m.kind) (.int .i64 m.n) (.string ⟨m.s.toArray⟩) (.slice a4 m.keys.length c4) (.slice b4 m.l.length d4) ∧ BoxIs (w3.alloc (.cells #[.int .i64 m.kind, .int .i64 m.n, .string ⟨m.s.toArray⟩, .slice a5 m.keys.length c5, .slice b5 m.l.length d5] 25)) w3.heap.size (.int .i64 m.kind) (.int .i64 m.n) (.string ⟨m.s.toArray⟩) (.slice a5 m.keys.length c5) (.slice b5 m.l.length d5)) ∧ (In (w3.alloc (.cells #[.int .i64 m.kind, .int .i64 m.n, .string ⟨m.s.toArray⟩, .slice a5 m.keys.length c5, .slice b5 m.l.length d5] 25)) (fun _ => True) t (.agg #[.int .i64 t.kind, .int .i64 t.n, .string ⟨t.s.toArray⟩, .slice a1 t.keys.length c1, .slice b1 t.l.length d1]) ∧ In (w3.alloc (.cells #[.int .i64 m.kind, .int .i64 m.n, .string ⟨m.s.toArray⟩, .slice a5 m.keys.length c5, .slice b5 m.l.length d5] 25)) (fun _ => True) x (.agg #[.int .i64 x.kind, .int .i64 x.n, .string ⟨x.s.toArray⟩, .slice a2 x.keys.length c2, .slice b2 x.l.length d2]) ∧ In (w3.alloc (.cells #[.int .i64 m.kind, .int .i64 m.n, .string ⟨m.s.toArray⟩, .slice a5 m.keys.length c5, .slice b5 m.l.length d5] 25)) (fun _ => True) t (.agg #[.int .i64 t.kind, .int .i64 t.n, .string ⟨t.s.toArray⟩, .slice a3 t.keys.length c3, .slice b3 t.l.length d3]) ∧ In (w3.alloc (.cells #[.int .i64 m.kind, .int .i64 m.n, .string ⟨m.s.toArray⟩, .slice a5 m.keys.length c5, .slice b5 m.l.length d5] 25)) (fun _ => True) m (.agg #[.int .i64 m.kind, .int .i64 m.n, .string ⟨m.s.toArray⟩, .slice a4 m.keys.length c4, .slice b4 m.l.length d4]) ∧ In (w3.alloc (.cells #[.int .i64 m.kind, .int .i64 m.n, .string ⟨m.s.toArray⟩, .slice a5 m.keys.length c5, .slice b5 m.l.length d5] 25)) (fun _ => True) m (.agg #[.int .i64 m.kind, .int .i64 m.n, .string ⟨m.s.toArray⟩, .slice a5 m.keys.length c5, .slice b5 m.l.length d5])) ∧ Below w.heap.size w (w3.alloc (.cells #[.int .i64 m.kind, .int .i64 m.n, .string ⟨m.s.toArray⟩, .slice a5 m.keys.length c5, .slice b5 m.l.length d5] 25))) := hidI ⟨⟨box_bel hbb5 K2.out.1.1, box_bel hbb5 K2.out.1.2.1, box_bel hbb5 K2.out.1.2.2.1, box_bel hbb5 K2.out.1.2.2.2, heap_alloc_new w3 _⟩, ⟨K2.out.2.1.1.bel hbb5, K2.out.2.1.2.1.bel hbb5, K2.out.2.1.2.2.1.bel hbb5, K2.out.2.1.2.2.2.bel hbb5, (hr5.bel (bel_alloc _ _)).weak fun _ _ => trivial⟩, bel_trans K2.out.2.2 hbb5⟩
  clear hr5 hb3 hbb5 x00 x01 x02 x03 x04 x10 x11 x12 x13 x14 x20 x21 x22 x23 x24 x30 x31 x32 x33 x34
  obtain ⟨x00, x01, x02, x03, x04, -⟩ := K3.out.1.1.c
  obtain ⟨x10, x11, x12, x13, x14, -⟩ := K3.out.1.2.1.c
  obtain ⟨x20, x21, x22, x23, x24, -⟩ := K3.out.1.2.2.1.c
  obtain ⟨x30, x31, x32, x33, x34, -⟩ := K3.out.1.2.2.2.1.c
  obtain ⟨x40, x41, x42, x43, x44, -⟩ := K3.out.1.2.2.2.2.c
  go_upto_region 4 with fail
  refine wp_region_T (fun wS => (BoxIs wS w.heap.size (.int .i64 t.kind) (.int .i64 t.n) (.string ⟨t.s.toArray⟩) (.slice a1 t.keys.length c1) (.slice b1 t.l.length d1) ∧ BoxIs wS (w.heap.size + 1) (.int .i64 x.kind) (.int .i64 x.n) (.string ⟨x.s.toArray⟩) (.slice a2 x.keys.length c2) (.slice b2 x.l.length d2) ∧ BoxIs wS w1.heap.size (.int .i64 t.kind) (.int .i64 t.n) (.string ⟨t.s.toArray⟩) (.slice a3 t.keys.length c3) (.slice b3 t.l.length d3) ∧ BoxIs wS w2.heap.size (.int .i64 m.kind) (.int .i64 m.n) (.string ⟨m.s.toArray⟩) (.slice a4 m.keys.length c4) (.slice b4 m.l.length d4) ∧ BoxIs wS w3.heap.size (.int .i64 m.kind) (.int .i64 m.n) (.string ⟨m.s.toArray⟩) (.slice a5 m.keys.length c5) (.slice b5 m.l.length d5)) ∧ (In wS (fun _ => True) t (.agg #[.int .i64 t.kind, .int .i64 t.n, .string ⟨t.s.toArray⟩, .slice a1 t.keys.length c1, .slice b1 t.l.length d1]) ∧ In wS (fun _ => True) x (.agg #[.int .i64 x.kind, .int .i64 x.n, .string ⟨x.s.toArray⟩, .slice a2 x.keys.length c2, .slice b2 x.l.length d2]) ∧ In wS (fun _ => True) t (.agg #[.int .i64 t.kind, .int .i64 t.n, .string ⟨t.s.toArray⟩, .slice a3 t.keys.length c3, .slice b3 t.l.length d3]) ∧ In wS (fun _ => True) m (.agg #[.int .i64 m.kind, .int .i64 m.n, .string ⟨m.s.toArray⟩, .slice a4 m.keys.length c4, .slice b4 m.l.length d4]) ∧ In wS (fun _ => True) m (.agg #[.int .i64 m.kind, .int .i64 m.n, .string ⟨m.s.toArray⟩, .slice a5 m.keys.length c5, .slice b5 m.l.length d5])) ∧ Below w.heap.size w wS) [] (by kernel_rfl) ⟨⟨box_bel (bel_drewN _ 1) K3.out.1.1, box_bel (bel_drewN _ 1) K3.out.1.2.1, box_bel (bel_drewN _ 1) K3.out.1.2.2.1, box_bel (bel_drewN _ 1) K3.out.1.2.2.2.1, box_bel (bel_drewN _ 1) K3.out.1.2.2.2.2⟩, ⟨K3.out.2.1.1.bel (bel_drewN _ 1), K3.out.2.1.2.1.bel (bel_drewN _ 1), K3.out.2.1.2.2.1.bel (bel_drewN _ 1), K3.out.2.1.2.2.2.1.bel (bel_drewN _ 1), K3.out.2.1.2.2.2.2.bel (bel_drewN _ 1)⟩, bel_trans K3.out.2.2 (bel_drewN _ 1)⟩ (fun hHeld => ?_)
  clear x00 x01 x02 x03 x04 x10 x11 x12 x13 x14 x20 x21 x22 x23 x24 x30 x31 x32 x33 x34 x40 x41 x42 x43 x44
  refine wpAnyT_take (i := 0) (v := ?_) [] (oi := { dst := some 26, op := Go.Op.move (Go.Operand.tmp 9), type := 4, pos := "law.go:52", after := #[], guard := none }) rfl (by kernel_rfl) (by kernel_rfl) (by kernel_rfl) (by kernel_rfl) (fun _ _ _ h => h) (Or.inl ⟨by rfl, ?_⟩) hHeld ?_
  rotate_left
  · intro wS hSw
    go_simp
    all_goals with_reducible rfl
  simp only [Act.put, List.setIfInBounds_toArray, List.set_cons_zero, List.set_cons_succ]
  refine wpAnyT_take (i := 1) (v := ?_) [] (oi := { dst := some 27, op := Go.Op.move (Go.Operand.tmp 11), type := 4, pos := "law.go:52", after := #[], guard := none }) rfl (by kernel_rfl) (by kernel_rfl) (by kernel_rfl) (by kernel_rfl) (fun _ _ _ h => h) (Or.inl ⟨by rfl, ?_⟩) hHeld ?_
  rotate_left
  · intro wS hSw
    go_simp
    all_goals with_reducible rfl
  simp only [Act.put, List.setIfInBounds_toArray, List.set_cons_zero, List.set_cons_succ]
  refine wpAnyT_take (i := 2) (v := ?_) [] (oi := { dst := some 28, op := Go.Op.binOp Go.BinOp.neq 4 (Go.Operand.tmp 26) (Go.Operand.tmp 27) 4, type := 4, pos := "law.go:52", after := #[{ on := 0, ground := Go.Ground.data }, { on := 1, ground := Go.Ground.data }], guard := none }) rfl (by kernel_rfl) (by kernel_rfl) (by kernel_rfl) (by kernel_rfl) (fun _ _ _ h => h) (Or.inl ⟨by rfl, ?_⟩) hHeld ?_
  rotate_left
  · intro wS hSw
    go_simp
    all_goals with_reducible rfl
  simp only [Act.put, List.setIfInBounds_toArray, List.set_cons_zero, List.set_cons_succ]
  refine wpAnyT_take (i := 3) (v := ?_) [] (oi := { dst := some 29, op := Go.Op.move (Go.Operand.tmp 28), type := 4, pos := "law.go:52", after := #[{ on := 2, ground := Go.Ground.data }], guard := none }) rfl (by kernel_rfl) (by kernel_rfl) (by kernel_rfl) (by kernel_rfl) (fun _ _ _ h => h) (Or.inl ⟨by rfl, ?_⟩) hHeld ?_
  rotate_left
  · intro wS hSw
    go_simp
    all_goals with_reducible rfl
  simp only [Act.put, List.setIfInBounds_toArray, List.set_cons_zero, List.set_cons_succ]
  refine wpAnyT_take (i := 4) (v := ?_) [] (oi := { dst := some 30, op := Go.Op.load 25 (Go.Operand.tmp 8), type := 25, pos := "law.go:52", after := #[{ on := 3, ground := Go.Ground.guard }], guard := some (3, false) }) rfl (by kernel_rfl) (by kernel_rfl) (by kernel_rfl) (by kernel_rfl) (fun _ _ _ h => h) (Or.inl ⟨by rfl, ?_⟩) hHeld ?_
  rotate_left
  · intro wS hSw
    obtain ⟨⟨B0, B1, B2, B3, B4⟩, -, -⟩ := hSw
    obtain ⟨y00, y01, y02, y03, y04, -⟩ := B0.c
    obtain ⟨y10, y11, y12, y13, y14, -⟩ := B1.c
    obtain ⟨y20, y21, y22, y23, y24, -⟩ := B2.c
    obtain ⟨y30, y31, y32, y33, y34, -⟩ := B3.c
    obtain ⟨y40, y41, y42, y43, y44, -⟩ := B4.c
    go_simp
    all_goals with_reducible rfl
  simp only [Act.put, List.setIfInBounds_toArray, List.set_cons_zero, List.set_cons_succ]
  refine wpAnyT_take (i := 5) (v := ?_) [] (oi := { dst := some 31, op := Go.Op.load 25 (Go.Operand.tmp 10), type := 25, pos := "law.go:52", after := #[{ on := 3, ground := Go.Ground.guard }], guard := some (3, false) }) rfl (by kernel_rfl) (by kernel_rfl) (by kernel_rfl) (by kernel_rfl) (fun _ _ _ h => h) (Or.inl ⟨by rfl, ?_⟩) hHeld ?_
  rotate_left
  · intro wS hSw
    obtain ⟨⟨B0, B1, B2, B3, B4⟩, -, -⟩ := hSw
    obtain ⟨y00, y01, y02, y03, y04, -⟩ := B0.c
    obtain ⟨y10, y11, y12, y13, y14, -⟩ := B1.c
    obtain ⟨y20, y21, y22, y23, y24, -⟩ := B2.c
    obtain ⟨y30, y31, y32, y33, y34, -⟩ := B3.c
    obtain ⟨y40, y41, y42, y43, y44, -⟩ := B4.c
    go_simp
    all_goals with_reducible rfl
  simp only [Act.put, List.setIfInBounds_toArray, List.set_cons_zero, List.set_cons_succ]
  refine wpAnyT_ready (rs := [6]) (by kernel_rfl) (by simp) ?_
  refine AllReadyT.cons (i := 6) (o := { dst := some 32, op := Go.Op.call { callee := Go.Callee.value (Go.Operand.func 10), args := #[Go.Operand.tmp 30, Go.Operand.tmp 31], argTypes := #[25, 25] }, type := 4, pos := "law.go:52", after := #[{ on := 4, ground := Go.Ground.data }, { on := 5, ground := Go.Ground.data }, { on := 3, ground := Go.Ground.chain }, { on := 3, ground := Go.Ground.guard }], guard := some (3, false) }) rfl (fun K hK => ?_) ?_
  · go_simp
    refine (rsame_is _ (fun _ => True) (fun _ => True) m m _ _ (by exact hHeld.2.1.2.2.2.1) (by exact hHeld.2.1.2.2.2.2)).mono ?_
    rintro e w6q ⟨rfl, hb6⟩
    refine hK.out _ _ (⟨⟨box_bel hb6 hHeld.1.1, box_bel hb6 hHeld.1.2.1, box_bel hb6 hHeld.1.2.2.1, box_bel hb6 hHeld.1.2.2.2.1, box_bel hb6 hHeld.1.2.2.2.2⟩, ⟨hHeld.2.1.1.bel hb6, hHeld.2.1.2.1.bel hb6, hHeld.2.1.2.2.1.bel hb6, hHeld.2.1.2.2.2.1.bel hb6, hHeld.2.1.2.2.2.2.bel hb6⟩, bel_trans hHeld.2.2 hb6⟩) (fun hHeld2 => ?_)
    clear hb6
    clear hK K
    replace hHeld := hHeld2
    clear hHeld2
    try simp only [Act.put, List.setIfInBounds_toArray, List.set_cons_zero, List.set_cons_succ]
    refine wpAnyT_take (i := 7) (v := ?_) [] (oi := { dst := some 33, op := Go.Op.unOp Go.UnOp.not 4 (Go.Operand.tmp 32), type := 4, pos := "law.go:52", after := #[{ on := 6, ground := Go.Ground.data }, { on := 3, ground := Go.Ground.guard }], guard := some (3, false) }) rfl (by kernel_rfl) (by kernel_rfl) (by kernel_rfl) (by kernel_rfl) (fun _ _ _ h => h) (Or.inl ⟨by rfl, ?_⟩) hHeld ?_
    rotate_left
    · intro wS hSw
      go_simp
      all_goals with_reducible rfl
    simp only [Act.put, List.setIfInBounds_toArray, List.set_cons_zero, List.set_cons_succ]
    refine wpAnyT_take (i := 8) (v := ?_) [] (oi := { dst := some 34, op := Go.Op.pick (Go.Operand.tmp 29) (Go.Operand.const (Go.Value.bool true)) (Go.Operand.tmp 33), type := 4, pos := "law.go:52", after := #[{ on := 3, ground := Go.Ground.data }, { on := 7, ground := Go.Ground.data }], guard := none }) rfl (by kernel_rfl) (by kernel_rfl) (by kernel_rfl) (by kernel_rfl) (fun _ _ _ h => h) (Or.inl ⟨by rfl, ?_⟩) hHeld ?_
    rotate_left
    · intro wS hSw
      go_simp
      all_goals with_reducible rfl
    simp only [Act.put, List.setIfInBounds_toArray, List.set_cons_zero, List.set_cons_succ]
    refine wpAnyT_take (i := 9) (v := ?_) [] (oi := { dst := some 35, op := Go.Op.move (Go.Operand.tmp 34), type := 4, pos := "law.go:52", after := #[{ on := 8, ground := Go.Ground.data }, { on := 6, ground := Go.Ground.chain }], guard := none }) rfl (by kernel_rfl) (by kernel_rfl) (by kernel_rfl) (by kernel_rfl) (fun _ _ _ h => h) (Or.inl ⟨by rfl, ?_⟩) hHeld ?_
    rotate_left
    · intro wS hSw
      go_simp
      all_goals with_reducible rfl
    simp only [Act.put, List.setIfInBounds_toArray, List.set_cons_zero, List.set_cons_succ]
    refine wpAnyT_take (i := 10) (v := ?_) [] (oi := { dst := some 36, op := Go.Op.load 25 (Go.Operand.tmp 3), type := 25, pos := "law.go:52", after := #[{ on := 9, ground := Go.Ground.guard }], guard := some (9, false) }) rfl (by kernel_rfl) (by kernel_rfl) (by kernel_rfl) (by kernel_rfl) (fun _ _ _ h => h) (Or.inl ⟨by rfl, ?_⟩) hHeld ?_
    rotate_left
    · intro wS hSw
      obtain ⟨⟨B0, B1, B2, B3, B4⟩, -, -⟩ := hSw
      obtain ⟨y00, y01, y02, y03, y04, -⟩ := B0.c
      obtain ⟨y10, y11, y12, y13, y14, -⟩ := B1.c
      obtain ⟨y20, y21, y22, y23, y24, -⟩ := B2.c
      obtain ⟨y30, y31, y32, y33, y34, -⟩ := B3.c
      obtain ⟨y40, y41, y42, y43, y44, -⟩ := B4.c
      go_simp
      all_goals with_reducible rfl
    simp only [Act.put, List.setIfInBounds_toArray, List.set_cons_zero, List.set_cons_succ]
    refine wpAnyT_take (i := 11) (v := ?_) [] (oi := { dst := some 37, op := Go.Op.load 25 (Go.Operand.tmp 4), type := 25, pos := "law.go:52", after := #[{ on := 9, ground := Go.Ground.guard }], guard := some (9, false) }) rfl (by kernel_rfl) (by kernel_rfl) (by kernel_rfl) (by kernel_rfl) (fun _ _ _ h => h) (Or.inl ⟨by rfl, ?_⟩) hHeld ?_
    rotate_left
    · intro wS hSw
      obtain ⟨⟨B0, B1, B2, B3, B4⟩, -, -⟩ := hSw
      obtain ⟨y00, y01, y02, y03, y04, -⟩ := B0.c
      obtain ⟨y10, y11, y12, y13, y14, -⟩ := B1.c
      obtain ⟨y20, y21, y22, y23, y24, -⟩ := B2.c
      obtain ⟨y30, y31, y32, y33, y34, -⟩ := B3.c
      obtain ⟨y40, y41, y42, y43, y44, -⟩ := B4.c
      go_simp
      all_goals with_reducible rfl
    simp only [Act.put, List.setIfInBounds_toArray, List.set_cons_zero, List.set_cons_succ]
    refine wpAnyT_take (i := 13) (v := ?_) [] (oi := { dst := some 39, op := Go.Op.load 25 (Go.Operand.tmp 3), type := 25, pos := "law.go:52", after := #[{ on := 9, ground := Go.Ground.guard }], guard := some (9, false) }) rfl (by kernel_rfl) (by kernel_rfl) (by kernel_rfl) (by kernel_rfl) (fun _ _ _ h => h) (Or.inl ⟨by rfl, ?_⟩) hHeld ?_
    rotate_left
    · intro wS hSw
      obtain ⟨⟨B0, B1, B2, B3, B4⟩, -, -⟩ := hSw
      obtain ⟨y00, y01, y02, y03, y04, -⟩ := B0.c
      obtain ⟨y10, y11, y12, y13, y14, -⟩ := B1.c
      obtain ⟨y20, y21, y22, y23, y24, -⟩ := B2.c
      obtain ⟨y30, y31, y32, y33, y34, -⟩ := B3.c
      obtain ⟨y40, y41, y42, y43, y44, -⟩ := B4.c
      go_simp
      all_goals with_reducible rfl
    simp only [Act.put, List.setIfInBounds_toArray, List.set_cons_zero, List.set_cons_succ]
    refine wpAnyT_take (i := 14) (v := ?_) [] (oi := { dst := some 40, op := Go.Op.load 25 (Go.Operand.tmp 4), type := 25, pos := "law.go:52", after := #[{ on := 9, ground := Go.Ground.guard }], guard := some (9, false) }) rfl (by kernel_rfl) (by kernel_rfl) (by kernel_rfl) (by kernel_rfl) (fun _ _ _ h => h) (Or.inl ⟨by rfl, ?_⟩) hHeld ?_
    rotate_left
    · intro wS hSw
      obtain ⟨⟨B0, B1, B2, B3, B4⟩, -, -⟩ := hSw
      obtain ⟨y00, y01, y02, y03, y04, -⟩ := B0.c
      obtain ⟨y10, y11, y12, y13, y14, -⟩ := B1.c
      obtain ⟨y20, y21, y22, y23, y24, -⟩ := B2.c
      obtain ⟨y30, y31, y32, y33, y34, -⟩ := B3.c
      obtain ⟨y40, y41, y42, y43, y44, -⟩ := B4.c
      go_simp
      all_goals with_reducible rfl
    simp only [Act.put, List.setIfInBounds_toArray, List.set_cons_zero, List.set_cons_succ]
    refine wpAnyT_ready (rs := [12]) (by kernel_rfl) (by simp) ?_
    refine AllReadyT.cons (i := 12) (o := { dst := some 38, op := Go.Op.call { callee := Go.Callee.value (Go.Operand.func 15), args := #[Go.Operand.tmp 36, Go.Operand.tmp 37], argTypes := #[25, 25] }, type := 4, pos := "law.go:52", after := #[{ on := 10, ground := Go.Ground.data }, { on := 11, ground := Go.Ground.data }, { on := 9, ground := Go.Ground.chain }, { on := 9, ground := Go.Ground.guard }], guard := some (9, false) }) rfl (fun K hK => ?_) ?_
    · go_simp
      refine (same_dec _ (fun _ => True) (fun _ => True) t x _ _ (by exact hHeld.2.1.1) (by exact hHeld.2.1.2.1) (by have := HC.out; omega)).mono ?_
      rintro e w12q ⟨rfl, hb12⟩
      refine hK.out _ _ (⟨⟨box_bel hb12 hHeld.1.1, box_bel hb12 hHeld.1.2.1, box_bel hb12 hHeld.1.2.2.1, box_bel hb12 hHeld.1.2.2.2.1, box_bel hb12 hHeld.1.2.2.2.2⟩, ⟨hHeld.2.1.1.bel hb12, hHeld.2.1.2.1.bel hb12, hHeld.2.1.2.2.1.bel hb12, hHeld.2.1.2.2.2.1.bel hb12, hHeld.2.1.2.2.2.2.bel hb12⟩, bel_trans hHeld.2.2 hb12⟩) (fun hHeld2 => ?_)
      clear hb12
      clear hK K
      replace hHeld := hHeld2
      clear hHeld2
      try simp only [Act.put, List.setIfInBounds_toArray, List.set_cons_zero, List.set_cons_succ]
      refine wpAnyT_ready (rs := [15]) (by kernel_rfl) (by simp) ?_
      refine AllReadyT.cons (i := 15) (o := { dst := some 41, op := Go.Op.call { callee := Go.Callee.value (Go.Operand.func 10), args := #[Go.Operand.tmp 39, Go.Operand.tmp 40], argTypes := #[25, 25] }, type := 4, pos := "law.go:52", after := #[{ on := 13, ground := Go.Ground.data }, { on := 14, ground := Go.Ground.data }, { on := 12, ground := Go.Ground.chain }, { on := 9, ground := Go.Ground.guard }], guard := some (9, false) }) rfl (fun K hK => ?_) ?_
      · go_simp
        refine (rsame_is _ (fun _ => True) (fun _ => True) t x _ _ (by exact hHeld.2.1.1) (by exact hHeld.2.1.2.1)).mono ?_
        rintro e w15q ⟨rfl, hb15⟩
        refine hK.out _ _ (⟨⟨box_bel hb15 hHeld.1.1, box_bel hb15 hHeld.1.2.1, box_bel hb15 hHeld.1.2.2.1, box_bel hb15 hHeld.1.2.2.2.1, box_bel hb15 hHeld.1.2.2.2.2⟩, ⟨hHeld.2.1.1.bel hb15, hHeld.2.1.2.1.bel hb15, hHeld.2.1.2.2.1.bel hb15, hHeld.2.1.2.2.2.1.bel hb15, hHeld.2.1.2.2.2.2.bel hb15⟩, bel_trans hHeld.2.2 hb15⟩) (fun hHeld2 => ?_)
        clear hb15
        clear hK K
        replace hHeld := hHeld2
        clear hHeld2
        try simp only [Act.put, List.setIfInBounds_toArray, List.set_cons_zero, List.set_cons_succ]
        refine wpAnyT_take (i := 16) (v := ?_) [] (oi := { dst := some 42, op := Go.Op.binOp Go.BinOp.neq 4 (Go.Operand.tmp 38) (Go.Operand.tmp 41) 4, type := 4, pos := "law.go:52", after := #[{ on := 12, ground := Go.Ground.data }, { on := 15, ground := Go.Ground.data }, { on := 9, ground := Go.Ground.guard }], guard := some (9, false) }) rfl (by kernel_rfl) (by kernel_rfl) (by kernel_rfl) (by kernel_rfl) (fun _ _ _ h => h) (Or.inl ⟨by rfl, ?_⟩) hHeld ?_
        rotate_left
        · intro wS hSw
          go_simp
          all_goals with_reducible rfl
        simp only [Act.put, List.setIfInBounds_toArray, List.set_cons_zero, List.set_cons_succ]
        refine wpAnyT_take (i := 17) (v := ?_) [] (oi := { dst := some 43, op := Go.Op.pick (Go.Operand.tmp 35) (Go.Operand.const (Go.Value.bool true)) (Go.Operand.tmp 42), type := 4, pos := "law.go:52", after := #[{ on := 9, ground := Go.Ground.data }, { on := 16, ground := Go.Ground.data }], guard := none }) rfl (by kernel_rfl) (by kernel_rfl) (by kernel_rfl) (by kernel_rfl) (fun _ _ _ h => h) (Or.inl ⟨by rfl, ?_⟩) hHeld ?_
        rotate_left
        · intro wS hSw
          go_simp
          all_goals with_reducible rfl
        simp only [Act.put, List.setIfInBounds_toArray, List.set_cons_zero, List.set_cons_succ]
        refine wpAnyT_take (i := 18) (v := ?_) [] (oi := { dst := some 44, op := Go.Op.move (Go.Operand.tmp 43), type := 4, pos := "law.go:52", after := #[{ on := 17, ground := Go.Ground.data }, { on := 15, ground := Go.Ground.chain }], guard := none }) rfl (by kernel_rfl) (by kernel_rfl) (by kernel_rfl) (by kernel_rfl) (fun _ _ _ h => h) (Or.inl ⟨by rfl, ?_⟩) hHeld ?_
        rotate_left
        · intro wS hSw
          go_simp
          all_goals with_reducible rfl
        simp only [Act.put, List.setIfInBounds_toArray, List.set_cons_zero, List.set_cons_succ]
        refine wpAnyT_ready (rs := [19]) (by kernel_rfl) (by simp) ?_
        refine AllReadyT.cons (i := 19) (o := { dst := some 45, op := Go.Op.call { callee := Go.Callee.value (Go.Operand.func 11), args := #[], argTypes := #[] }, type := 4, pos := "law.go:52", after := #[{ on := 18, ground := Go.Ground.chain }, { on := 18, ground := Go.Ground.guard }], guard := some (18, false) }) rfl (fun K hK => ?_) ?_
        · go_simp
          refine (lreads_at _ (by exact HG.out.grown (gb_below (r := none) hHeld.2.2) (by simp))).mono ?_
          rintro e w19q ⟨rfl, hb19⟩
          refine hK.out _ _ (⟨⟨box_bel hb19 hHeld.1.1, box_bel hb19 hHeld.1.2.1, box_bel hb19 hHeld.1.2.2.1, box_bel hb19 hHeld.1.2.2.2.1, box_bel hb19 hHeld.1.2.2.2.2⟩, ⟨hHeld.2.1.1.bel hb19, hHeld.2.1.2.1.bel hb19, hHeld.2.1.2.2.1.bel hb19, hHeld.2.1.2.2.2.1.bel hb19, hHeld.2.1.2.2.2.2.bel hb19⟩, bel_trans hHeld.2.2 hb19⟩) (fun hHeld2 => ?_)
          clear hb19
          clear hK K
          replace hHeld := hHeld2
          clear hHeld2
          try simp only [Act.put, List.setIfInBounds_toArray, List.set_cons_zero, List.set_cons_succ]
          refine wpAnyT_take (i := 20) (v := ?_) [] (oi := { dst := some 46, op := Go.Op.unOp Go.UnOp.not 4 (Go.Operand.tmp 45), type := 4, pos := "law.go:52", after := #[{ on := 19, ground := Go.Ground.data }, { on := 18, ground := Go.Ground.guard }], guard := some (18, false) }) rfl (by kernel_rfl) (by kernel_rfl) (by kernel_rfl) (by kernel_rfl) (fun _ _ _ h => h) (Or.inl ⟨by rfl, ?_⟩) hHeld ?_
          rotate_left
          · intro wS hSw
            go_simp
            all_goals with_reducible rfl
          simp only [Act.put, List.setIfInBounds_toArray, List.set_cons_zero, List.set_cons_succ]
          refine wpAnyT_take (i := 21) (v := ?_) [] (oi := { dst := some 47, op := Go.Op.pick (Go.Operand.tmp 44) (Go.Operand.const (Go.Value.bool true)) (Go.Operand.tmp 46), type := 4, pos := "law.go:52", after := #[{ on := 18, ground := Go.Ground.data }, { on := 20, ground := Go.Ground.data }], guard := none }) rfl (by kernel_rfl) (by kernel_rfl) (by kernel_rfl) (by kernel_rfl) (fun _ _ _ h => h) (Or.inl ⟨by rfl, ?_⟩) hHeld ?_
          rotate_left
          · intro wS hSw
            go_simp
            all_goals with_reducible rfl
          simp only [Act.put, List.setIfInBounds_toArray, List.set_cons_zero, List.set_cons_succ]
          refine wpAnyT_done (by kernel_rfl) ?_ _
          have K40 : Hid _ := hidI hHeld
          clear hHeld
          obtain ⟨x00, x01, x02, x03, x04, -⟩ := K40.out.1.1.c
          obtain ⟨x10, x11, x12, x13, x14, -⟩ := K40.out.1.2.1.c
          obtain ⟨x20, x21, x22, x23, x24, -⟩ := K40.out.1.2.2.1.c
          obtain ⟨x30, x31, x32, x33, x34, -⟩ := K40.out.1.2.2.2.1.c
          obtain ⟨x40, x41, x42, x43, x44, -⟩ := K40.out.1.2.2.2.2.c
          go_wp2_with fail
          refine (rgood_is _ (fun _ => True) t _ (by exact K40.out.2.1.1) (by have := HC.out; omega)).mono ?_
          rintro e w41 ⟨rfl, hb41⟩
          have K41 : Hid ((BoxIs w41 w.heap.size (.int .i64 t.kind) (.int .i64 t.n) (.string ⟨t.s.toArray⟩) (.slice a1 t.keys.length c1) (.slice b1 t.l.length d1) ∧ BoxIs w41 (w.heap.size + 1) (.int .i64 x.kind) (.int .i64 x.n) (.string ⟨x.s.toArray⟩) (.slice a2 x.keys.length c2) (.slice b2 x.l.length d2) ∧ BoxIs w41 w1.heap.size (.int .i64 t.kind) (.int .i64 t.n) (.string ⟨t.s.toArray⟩) (.slice a3 t.keys.length c3) (.slice b3 t.l.length d3) ∧ BoxIs w41 w2.heap.size (.int .i64 m.kind) (.int .i64 m.n) (.string ⟨m.s.toArray⟩) (.slice a4 m.keys.length c4) (.slice b4 m.l.length d4) ∧ BoxIs w41 w3.heap.size (.int .i64 m.kind) (.int .i64 m.n) (.string ⟨m.s.toArray⟩) (.slice a5 m.keys.length c5) (.slice b5 m.l.length d5)) ∧ (In w41 (fun _ => True) t (.agg #[.int .i64 t.kind, .int .i64 t.n, .string ⟨t.s.toArray⟩, .slice a1 t.keys.length c1, .slice b1 t.l.length d1]) ∧ In w41 (fun _ => True) x (.agg #[.int .i64 x.kind, .int .i64 x.n, .string ⟨x.s.toArray⟩, .slice a2 x.keys.length c2, .slice b2 x.l.length d2]) ∧ In w41 (fun _ => True) t (.agg #[.int .i64 t.kind, .int .i64 t.n, .string ⟨t.s.toArray⟩, .slice a3 t.keys.length c3, .slice b3 t.l.length d3]) ∧ In w41 (fun _ => True) m (.agg #[.int .i64 m.kind, .int .i64 m.n, .string ⟨m.s.toArray⟩, .slice a4 m.keys.length c4, .slice b4 m.l.length d4]) ∧ In w41 (fun _ => True) m (.agg #[.int .i64 m.kind, .int .i64 m.n, .string ⟨m.s.toArray⟩, .slice a5 m.keys.length c5, .slice b5 m.l.length d5])) ∧ Below w.heap.size w w41) := hidI ⟨⟨box_bel hb41 K40.out.1.1, box_bel hb41 K40.out.1.2.1, box_bel hb41 K40.out.1.2.2.1, box_bel hb41 K40.out.1.2.2.2.1, box_bel hb41 K40.out.1.2.2.2.2⟩, ⟨K40.out.2.1.1.bel hb41, K40.out.2.1.2.1.bel hb41, K40.out.2.1.2.2.1.bel hb41, K40.out.2.1.2.2.2.1.bel hb41, K40.out.2.1.2.2.2.2.bel hb41⟩, bel_trans K40.out.2.2 hb41⟩
          clear hb41 x00 x01 x02 x03 x04 x10 x11 x12 x13 x14 x20 x21 x22 x23 x24 x30 x31 x32 x33 x34 x40 x41 x42 x43 x44
          obtain ⟨x00, x01, x02, x03, x04, -⟩ := K41.out.1.1.c
          obtain ⟨x10, x11, x12, x13, x14, -⟩ := K41.out.1.2.1.c
          obtain ⟨x20, x21, x22, x23, x24, -⟩ := K41.out.1.2.2.1.c
          obtain ⟨x30, x31, x32, x33, x34, -⟩ := K41.out.1.2.2.2.1.c
          obtain ⟨x40, x41, x42, x43, x44, -⟩ := K41.out.1.2.2.2.2.c
          cases hgd : goodV t with
          | false =>
            go_wp2_with fail
            refine (rsame_is _ (fun _ => True) (fun _ => True) t t _ _ (by exact K41.out.2.1.2.2.1) (by exact K41.out.2.1.1)).mono ?_
            rintro e w42 ⟨rfl, hb42⟩
            have B42 := hidI (bel_trans K41.out.2.2 hb42)
            clear hb42
            go_wp2_with fail
            go_ret
            exact ⟨rfl, B42.out⟩
          | true =>
            by_cases hk5 : t.kind = 5
            · have OB := hidI (ob_of (nice_shaped (nice_of hgd)) hk5)
              have LT : Hid (t.l.length ≤ 100000) := hidI (Nat.le_trans (good_items hgd) (by omega))
              have PT := hidI OB.out.paired
              have e5 : (t.kind != 5) = false := by rw [hk5]; rfl
              have HK := hidI hk5
              clear hk5
              go_upto_region 8 with fail
              refine wp_region_T (fun wS => (BoxIs wS w.heap.size (.int .i64 t.kind) (.int .i64 t.n) (.string ⟨t.s.toArray⟩) (.slice a1 t.keys.length c1) (.slice b1 t.l.length d1) ∧ BoxIs wS (w.heap.size + 1) (.int .i64 x.kind) (.int .i64 x.n) (.string ⟨x.s.toArray⟩) (.slice a2 x.keys.length c2) (.slice b2 x.l.length d2) ∧ BoxIs wS w1.heap.size (.int .i64 t.kind) (.int .i64 t.n) (.string ⟨t.s.toArray⟩) (.slice a3 t.keys.length c3) (.slice b3 t.l.length d3) ∧ BoxIs wS w2.heap.size (.int .i64 m.kind) (.int .i64 m.n) (.string ⟨m.s.toArray⟩) (.slice a4 m.keys.length c4) (.slice b4 m.l.length d4) ∧ BoxIs wS w3.heap.size (.int .i64 m.kind) (.int .i64 m.n) (.string ⟨m.s.toArray⟩) (.slice a5 m.keys.length c5) (.slice b5 m.l.length d5)) ∧ (In wS (fun _ => True) t (.agg #[.int .i64 t.kind, .int .i64 t.n, .string ⟨t.s.toArray⟩, .slice a1 t.keys.length c1, .slice b1 t.l.length d1]) ∧ In wS (fun _ => True) x (.agg #[.int .i64 x.kind, .int .i64 x.n, .string ⟨x.s.toArray⟩, .slice a2 x.keys.length c2, .slice b2 x.l.length d2]) ∧ In wS (fun _ => True) t (.agg #[.int .i64 t.kind, .int .i64 t.n, .string ⟨t.s.toArray⟩, .slice a3 t.keys.length c3, .slice b3 t.l.length d3]) ∧ In wS (fun _ => True) m (.agg #[.int .i64 m.kind, .int .i64 m.n, .string ⟨m.s.toArray⟩, .slice a4 m.keys.length c4, .slice b4 m.l.length d4]) ∧ In wS (fun _ => True) m (.agg #[.int .i64 m.kind, .int .i64 m.n, .string ⟨m.s.toArray⟩, .slice a5 m.keys.length c5, .slice b5 m.l.length d5])) ∧ Below w.heap.size w wS) [] (by kernel_rfl) ⟨⟨box_bel (bel_drewN _ 1) K41.out.1.1, box_bel (bel_drewN _ 1) K41.out.1.2.1, box_bel (bel_drewN _ 1) K41.out.1.2.2.1, box_bel (bel_drewN _ 1) K41.out.1.2.2.2.1, box_bel (bel_drewN _ 1) K41.out.1.2.2.2.2⟩, ⟨K41.out.2.1.1.bel (bel_drewN _ 1), K41.out.2.1.2.1.bel (bel_drewN _ 1), K41.out.2.1.2.2.1.bel (bel_drewN _ 1), K41.out.2.1.2.2.2.1.bel (bel_drewN _ 1), K41.out.2.1.2.2.2.2.bel (bel_drewN _ 1)⟩, bel_trans K41.out.2.2 (bel_drewN _ 1)⟩ (fun hHeld => ?_)
              clear x00 x01 x02 x03 x04 x10 x11 x12 x13 x14 x20 x21 x22 x23 x24 x30 x31 x32 x33 x34 x40 x41 x42 x43 x44
              refine wpAnyT_take (i := 0) (v := ?_) [] (oi := { dst := some 59, op := Go.Op.load 25 (Go.Operand.tmp 7), type := 25, pos := "law.go:58", after := #[], guard := none }) rfl (by kernel_rfl) (by kernel_rfl) (by kernel_rfl) (by kernel_rfl) (fun _ _ _ h => h) (Or.inl ⟨by rfl, ?_⟩) hHeld ?_
              rotate_left
              · intro wS hSw
                obtain ⟨⟨B0, B1, B2, B3, B4⟩, -, -⟩ := hSw
                obtain ⟨y00, y01, y02, y03, y04, -⟩ := B0.c
                obtain ⟨y10, y11, y12, y13, y14, -⟩ := B1.c
                obtain ⟨y20, y21, y22, y23, y24, -⟩ := B2.c
                obtain ⟨y30, y31, y32, y33, y34, -⟩ := B3.c
                obtain ⟨y40, y41, y42, y43, y44, -⟩ := B4.c
                go_simp
                all_goals with_reducible rfl
              simp only [Act.put, List.setIfInBounds_toArray, List.set_cons_zero, List.set_cons_succ]
              refine wpAnyT_take (i := 1) (v := ?_) [] (oi := { dst := some 60, op := Go.Op.move (Go.Operand.tmp 2), type := 9, pos := "law.go:58", after := #[], guard := none }) rfl (by kernel_rfl) (by kernel_rfl) (by kernel_rfl) (by kernel_rfl) (fun _ _ _ h => h) (Or.inl ⟨by rfl, ?_⟩) hHeld ?_
              rotate_left
              · intro wS hSw
                go_simp
                all_goals with_reducible rfl
              simp only [Act.put, List.setIfInBounds_toArray, List.set_cons_zero, List.set_cons_succ]
              refine wpAnyT_take (i := 2) (v := ?_) [] (oi := { dst := some 61, op := Go.Op.load 25 (Go.Operand.tmp 4), type := 25, pos := "law.go:58", after := #[], guard := none }) rfl (by kernel_rfl) (by kernel_rfl) (by kernel_rfl) (by kernel_rfl) (fun _ _ _ h => h) (Or.inl ⟨by rfl, ?_⟩) hHeld ?_
              rotate_left
              · intro wS hSw
                obtain ⟨⟨B0, B1, B2, B3, B4⟩, -, -⟩ := hSw
                obtain ⟨y00, y01, y02, y03, y04, -⟩ := B0.c
                obtain ⟨y10, y11, y12, y13, y14, -⟩ := B1.c
                obtain ⟨y20, y21, y22, y23, y24, -⟩ := B2.c
                obtain ⟨y30, y31, y32, y33, y34, -⟩ := B3.c
                obtain ⟨y40, y41, y42, y43, y44, -⟩ := B4.c
                go_simp
                all_goals with_reducible rfl
              simp only [Act.put, List.setIfInBounds_toArray, List.set_cons_zero, List.set_cons_succ]
              refine wpAnyT_take (i := 4) (v := ?_) [] (oi := { dst := some 63, op := Go.Op.load 25 (Go.Operand.tmp 3), type := 25, pos := "law.go:58", after := #[], guard := none }) rfl (by kernel_rfl) (by kernel_rfl) (by kernel_rfl) (by kernel_rfl) (fun _ _ _ h => h) (Or.inl ⟨by rfl, ?_⟩) hHeld ?_
              rotate_left
              · intro wS hSw
                obtain ⟨⟨B0, B1, B2, B3, B4⟩, -, -⟩ := hSw
                obtain ⟨y00, y01, y02, y03, y04, -⟩ := B0.c
                obtain ⟨y10, y11, y12, y13, y14, -⟩ := B1.c
                obtain ⟨y20, y21, y22, y23, y24, -⟩ := B2.c
                obtain ⟨y30, y31, y32, y33, y34, -⟩ := B3.c
                obtain ⟨y40, y41, y42, y43, y44, -⟩ := B4.c
                go_simp
                all_goals with_reducible rfl
              simp only [Act.put, List.setIfInBounds_toArray, List.set_cons_zero, List.set_cons_succ]
              refine wpAnyT_take (i := 5) (v := ?_) [] (oi := { dst := some 64, op := Go.Op.move (Go.Operand.tmp 2), type := 9, pos := "law.go:58", after := #[], guard := none }) rfl (by kernel_rfl) (by kernel_rfl) (by kernel_rfl) (by kernel_rfl) (fun _ _ _ h => h) (Or.inl ⟨by rfl, ?_⟩) hHeld ?_
              rotate_left
              · intro wS hSw
                go_simp
                all_goals with_reducible rfl
              simp only [Act.put, List.setIfInBounds_toArray, List.set_cons_zero, List.set_cons_succ]
              refine wpAnyT_take (i := 6) (v := ?_) [] (oi := { dst := some 65, op := Go.Op.load 25 (Go.Operand.tmp 4), type := 25, pos := "law.go:58", after := #[], guard := none }) rfl (by kernel_rfl) (by kernel_rfl) (by kernel_rfl) (by kernel_rfl) (fun _ _ _ h => h) (Or.inl ⟨by rfl, ?_⟩) hHeld ?_
              rotate_left
              · intro wS hSw
                obtain ⟨⟨B0, B1, B2, B3, B4⟩, -, -⟩ := hSw
                obtain ⟨y00, y01, y02, y03, y04, -⟩ := B0.c
                obtain ⟨y10, y11, y12, y13, y14, -⟩ := B1.c
                obtain ⟨y20, y21, y22, y23, y24, -⟩ := B2.c
                obtain ⟨y30, y31, y32, y33, y34, -⟩ := B3.c
                obtain ⟨y40, y41, y42, y43, y44, -⟩ := B4.c
                go_simp
                all_goals with_reducible rfl
              simp only [Act.put, List.setIfInBounds_toArray, List.set_cons_zero, List.set_cons_succ]
              refine wpAnyT_ready (rs := [3]) (by kernel_rfl) (by simp) ?_
              refine AllReadyT.cons (i := 3) (o := { dst := some 62, op := Go.Op.call { callee := Go.Callee.value (Go.Operand.func 17), args := #[Go.Operand.tmp 59, Go.Operand.tmp 60, Go.Operand.tmp 61], argTypes := #[25, 9, 25] }, type := 25, pos := "law.go:58", after := #[{ on := 0, ground := Go.Ground.data }, { on := 1, ground := Go.Ground.data }, { on := 2, ground := Go.Ground.data }], guard := none }) rfl (fun K hK => ?_) ?_
              · go_simp
                refine (with_is _ (fun _ => True) t x _ _ key (by exact hHeld.2.1.2.2.1) (by exact hHeld.2.1.2.1) PT.out LT.out (by omega)).mono ?_
                rintro e w3q ⟨r3, rfl, hr3, hb3⟩
                refine hK.out _ _ (⟨⟨box_bel hb3 hHeld.1.1, box_bel hb3 hHeld.1.2.1, box_bel hb3 hHeld.1.2.2.1, box_bel hb3 hHeld.1.2.2.2.1, box_bel hb3 hHeld.1.2.2.2.2⟩, ⟨hHeld.2.1.1.bel hb3, hHeld.2.1.2.1.bel hb3, hHeld.2.1.2.2.1.bel hb3, hHeld.2.1.2.2.2.1.bel hb3, hHeld.2.1.2.2.2.2.bel hb3⟩, bel_trans hHeld.2.2 hb3⟩) (fun hHeld2 => ?_)
                have R3 := hidI (In.weak hr3 (ok' := (fun _ => True)) fun _ _ => trivial)
                clear hr3 hb3
                clear hK K
                replace hHeld := hHeld2
                clear hHeld2
                try simp only [Act.put, List.setIfInBounds_toArray, List.set_cons_zero, List.set_cons_succ]
                refine wpAnyT_ready (rs := [7]) (by kernel_rfl) (by simp) ?_
                refine AllReadyT.cons (i := 7) (o := { dst := some 66, op := Go.Op.call { callee := Go.Callee.value (Go.Operand.func 18), args := #[Go.Operand.tmp 63, Go.Operand.tmp 64, Go.Operand.tmp 65], argTypes := #[25, 9, 25] }, type := 25, pos := "law.go:58", after := #[{ on := 4, ground := Go.Ground.data }, { on := 5, ground := Go.Ground.data }, { on := 6, ground := Go.Ground.data }, { on := 3, ground := Go.Ground.chain }], guard := none }) rfl (fun K hK => ?_) ?_
                · go_simp
                  refine (rwith_is _ (fun _ => True) t x _ _ key (by exact hHeld.2.1.1) (by exact hHeld.2.1.2.1) OB.out LT.out (by omega)).mono ?_
                  rintro e w7q ⟨r7, rfl, hr7, hb7⟩
                  refine hK.out _ _ (⟨⟨box_bel hb7 hHeld.1.1, box_bel hb7 hHeld.1.2.1, box_bel hb7 hHeld.1.2.2.1, box_bel hb7 hHeld.1.2.2.2.1, box_bel hb7 hHeld.1.2.2.2.2⟩, ⟨hHeld.2.1.1.bel hb7, hHeld.2.1.2.1.bel hb7, hHeld.2.1.2.2.1.bel hb7, hHeld.2.1.2.2.2.1.bel hb7, hHeld.2.1.2.2.2.2.bel hb7⟩, bel_trans hHeld.2.2 hb7⟩) (fun hHeld2 => ?_)
                  replace R3 := hidI (R3.out.bel hb7)
                  have R7 := hidI (In.weak hr7 (ok' := (fun _ => True)) fun _ _ => trivial)
                  clear hr7 hb7
                  clear hK K
                  replace hHeld := hHeld2
                  clear hHeld2
                  try simp only [Act.put, List.setIfInBounds_toArray, List.set_cons_zero, List.set_cons_succ]
                  refine wpAnyT_ready (rs := [8]) (by kernel_rfl) (by simp) ?_
                  refine AllReadyT.cons (i := 8) (o := { dst := some 67, op := Go.Op.call { callee := Go.Callee.value (Go.Operand.func 10), args := #[Go.Operand.tmp 62, Go.Operand.tmp 66], argTypes := #[25, 25] }, type := 4, pos := "law.go:58", after := #[{ on := 3, ground := Go.Ground.data }, { on := 7, ground := Go.Ground.data }, { on := 7, ground := Go.Ground.chain }], guard := none }) rfl (fun K hK => ?_) ?_
                  · go_simp
                    refine (rsame_is _ (fun _ => True) (fun _ => True) _ _ _ _ R3.out R7.out).mono ?_
                    rintro e w8q ⟨rfl, hb8⟩
                    refine hK.out _ _ (⟨⟨box_bel hb8 hHeld.1.1, box_bel hb8 hHeld.1.2.1, box_bel hb8 hHeld.1.2.2.1, box_bel hb8 hHeld.1.2.2.2.1, box_bel hb8 hHeld.1.2.2.2.2⟩, ⟨hHeld.2.1.1.bel hb8, hHeld.2.1.2.1.bel hb8, hHeld.2.1.2.2.1.bel hb8, hHeld.2.1.2.2.2.1.bel hb8, hHeld.2.1.2.2.2.2.bel hb8⟩, bel_trans hHeld.2.2 hb8⟩) (fun hHeld2 => ?_)
                    clear hb8 R3 R7
                    clear hK K
                    replace hHeld := hHeld2
                    clear hHeld2
                    try simp only [Act.put, List.setIfInBounds_toArray, List.set_cons_zero, List.set_cons_succ]
                    refine wpAnyT_take (i := 9) (v := ?_) [] (oi := { dst := some 68, op := Go.Op.move (Go.Operand.tmp 67), type := 4, pos := "law.go:58", after := #[{ on := 8, ground := Go.Ground.data }, { on := 8, ground := Go.Ground.chain }], guard := none }) rfl (by kernel_rfl) (by kernel_rfl) (by kernel_rfl) (by kernel_rfl) (fun _ _ _ h => h) (Or.inl ⟨by rfl, ?_⟩) hHeld ?_
                    rotate_left
                    · intro wS hSw
                      go_simp
                      all_goals with_reducible rfl
                    simp only [Act.put, List.setIfInBounds_toArray, List.set_cons_zero, List.set_cons_succ]
                    refine wpAnyT_take (i := 10) (v := ?_) [] (oi := { dst := some 69, op := Go.Op.load 25 (Go.Operand.tmp 7), type := 25, pos := "law.go:58", after := #[{ on := 9, ground := Go.Ground.guard }], guard := some (9, true) }) rfl (by kernel_rfl) (by kernel_rfl) (by kernel_rfl) (by kernel_rfl) (fun _ _ _ h => h) (Or.inl ⟨by rfl, ?_⟩) hHeld ?_
                    rotate_left
                    · intro wS hSw
                      obtain ⟨⟨B0, B1, B2, B3, B4⟩, -, -⟩ := hSw
                      obtain ⟨y00, y01, y02, y03, y04, -⟩ := B0.c
                      obtain ⟨y10, y11, y12, y13, y14, -⟩ := B1.c
                      obtain ⟨y20, y21, y22, y23, y24, -⟩ := B2.c
                      obtain ⟨y30, y31, y32, y33, y34, -⟩ := B3.c
                      obtain ⟨y40, y41, y42, y43, y44, -⟩ := B4.c
                      go_simp
                      all_goals with_reducible rfl
                    simp only [Act.put, List.setIfInBounds_toArray, List.set_cons_zero, List.set_cons_succ]
                    refine wpAnyT_take (i := 11) (v := ?_) [] (oi := { dst := some 70, op := Go.Op.move (Go.Operand.tmp 2), type := 9, pos := "law.go:58", after := #[{ on := 9, ground := Go.Ground.guard }], guard := some (9, true) }) rfl (by kernel_rfl) (by kernel_rfl) (by kernel_rfl) (by kernel_rfl) (fun _ _ _ h => h) (Or.inl ⟨by rfl, ?_⟩) hHeld ?_
                    rotate_left
                    · intro wS hSw
                      go_simp
                      all_goals with_reducible rfl
                    simp only [Act.put, List.setIfInBounds_toArray, List.set_cons_zero, List.set_cons_succ]
                    refine wpAnyT_take (i := 13) (v := ?_) [] (oi := { dst := some 72, op := Go.Op.load 25 (Go.Operand.tmp 3), type := 25, pos := "law.go:58", after := #[{ on := 9, ground := Go.Ground.guard }], guard := some (9, true) }) rfl (by kernel_rfl) (by kernel_rfl) (by kernel_rfl) (by kernel_rfl) (fun _ _ _ h => h) (Or.inl ⟨by rfl, ?_⟩) hHeld ?_
                    rotate_left
                    · intro wS hSw
                      obtain ⟨⟨B0, B1, B2, B3, B4⟩, -, -⟩ := hSw
                      obtain ⟨y00, y01, y02, y03, y04, -⟩ := B0.c
                      obtain ⟨y10, y11, y12, y13, y14, -⟩ := B1.c
                      obtain ⟨y20, y21, y22, y23, y24, -⟩ := B2.c
                      obtain ⟨y30, y31, y32, y33, y34, -⟩ := B3.c
                      obtain ⟨y40, y41, y42, y43, y44, -⟩ := B4.c
                      go_simp
                      all_goals with_reducible rfl
                    simp only [Act.put, List.setIfInBounds_toArray, List.set_cons_zero, List.set_cons_succ]
                    refine wpAnyT_take (i := 14) (v := ?_) [] (oi := { dst := some 73, op := Go.Op.move (Go.Operand.tmp 2), type := 9, pos := "law.go:58", after := #[{ on := 9, ground := Go.Ground.guard }], guard := some (9, true) }) rfl (by kernel_rfl) (by kernel_rfl) (by kernel_rfl) (by kernel_rfl) (fun _ _ _ h => h) (Or.inl ⟨by rfl, ?_⟩) hHeld ?_
                    rotate_left
                    · intro wS hSw
                      go_simp
                      all_goals with_reducible rfl
                    simp only [Act.put, List.setIfInBounds_toArray, List.set_cons_zero, List.set_cons_succ]
                    refine wpAnyT_ready (rs := [12]) (by kernel_rfl) (by simp) ?_
                    refine AllReadyT.cons (i := 12) (o := { dst := some 71, op := Go.Op.call { callee := Go.Callee.value (Go.Operand.func 19), args := #[Go.Operand.tmp 69, Go.Operand.tmp 70], argTypes := #[25, 9] }, type := 25, pos := "law.go:58", after := #[{ on := 10, ground := Go.Ground.data }, { on := 11, ground := Go.Ground.data }, { on := 9, ground := Go.Ground.chain }, { on := 9, ground := Go.Ground.guard }], guard := some (9, true) }) rfl (fun K hK => ?_) ?_
                    · go_simp
                      refine (without_is _ (fun _ => True) t _ key (by exact hHeld.2.1.2.2.1) LT.out).mono ?_
                      rintro e w12q ⟨r12, rfl, hr12, hb12⟩
                      refine hK.out _ _ (⟨⟨box_bel hb12 hHeld.1.1, box_bel hb12 hHeld.1.2.1, box_bel hb12 hHeld.1.2.2.1, box_bel hb12 hHeld.1.2.2.2.1, box_bel hb12 hHeld.1.2.2.2.2⟩, ⟨hHeld.2.1.1.bel hb12, hHeld.2.1.2.1.bel hb12, hHeld.2.1.2.2.1.bel hb12, hHeld.2.1.2.2.2.1.bel hb12, hHeld.2.1.2.2.2.2.bel hb12⟩, bel_trans hHeld.2.2 hb12⟩) (fun hHeld2 => ?_)
                      have R12 := hidI (In.weak hr12 (ok' := (fun _ => True)) fun _ _ => trivial)
                      clear hr12 hb12
                      clear hK K
                      replace hHeld := hHeld2
                      clear hHeld2
                      try simp only [Act.put, List.setIfInBounds_toArray, List.set_cons_zero, List.set_cons_succ]
                      refine wpAnyT_ready (rs := [15]) (by kernel_rfl) (by simp) ?_
                      refine AllReadyT.cons (i := 15) (o := { dst := some 74, op := Go.Op.call { callee := Go.Callee.value (Go.Operand.func 20), args := #[Go.Operand.tmp 72, Go.Operand.tmp 73], argTypes := #[25, 9] }, type := 25, pos := "law.go:58", after := #[{ on := 13, ground := Go.Ground.data }, { on := 14, ground := Go.Ground.data }, { on := 12, ground := Go.Ground.chain }, { on := 9, ground := Go.Ground.guard }], guard := some (9, true) }) rfl (fun K hK => ?_) ?_
                      · go_simp
                        refine (rwithout_is _ (fun _ => True) t _ key (by exact hHeld.2.1.1) OB.out LT.out).mono ?_
                        rintro e w15q ⟨r15, rfl, hr15, hb15⟩
                        refine hK.out _ _ (⟨⟨box_bel hb15 hHeld.1.1, box_bel hb15 hHeld.1.2.1, box_bel hb15 hHeld.1.2.2.1, box_bel hb15 hHeld.1.2.2.2.1, box_bel hb15 hHeld.1.2.2.2.2⟩, ⟨hHeld.2.1.1.bel hb15, hHeld.2.1.2.1.bel hb15, hHeld.2.1.2.2.1.bel hb15, hHeld.2.1.2.2.2.1.bel hb15, hHeld.2.1.2.2.2.2.bel hb15⟩, bel_trans hHeld.2.2 hb15⟩) (fun hHeld2 => ?_)
                        replace R12 := hidI (R12.out.bel hb15)
                        have R15 := hidI (In.weak hr15 (ok' := (fun _ => True)) fun _ _ => trivial)
                        clear hr15 hb15
                        clear hK K
                        replace hHeld := hHeld2
                        clear hHeld2
                        try simp only [Act.put, List.setIfInBounds_toArray, List.set_cons_zero, List.set_cons_succ]
                        refine wpAnyT_ready (rs := [16]) (by kernel_rfl) (by simp) ?_
                        refine AllReadyT.cons (i := 16) (o := { dst := some 75, op := Go.Op.call { callee := Go.Callee.value (Go.Operand.func 10), args := #[Go.Operand.tmp 71, Go.Operand.tmp 74], argTypes := #[25, 25] }, type := 4, pos := "law.go:58", after := #[{ on := 12, ground := Go.Ground.data }, { on := 15, ground := Go.Ground.data }, { on := 15, ground := Go.Ground.chain }, { on := 9, ground := Go.Ground.guard }], guard := some (9, true) }) rfl (fun K hK => ?_) ?_
                        · go_simp
                          refine (rsame_is _ (fun _ => True) (fun _ => True) _ _ _ _ R12.out R15.out).mono ?_
                          rintro e w16q ⟨rfl, hb16⟩
                          refine hK.out _ _ (⟨⟨box_bel hb16 hHeld.1.1, box_bel hb16 hHeld.1.2.1, box_bel hb16 hHeld.1.2.2.1, box_bel hb16 hHeld.1.2.2.2.1, box_bel hb16 hHeld.1.2.2.2.2⟩, ⟨hHeld.2.1.1.bel hb16, hHeld.2.1.2.1.bel hb16, hHeld.2.1.2.2.1.bel hb16, hHeld.2.1.2.2.2.1.bel hb16, hHeld.2.1.2.2.2.2.bel hb16⟩, bel_trans hHeld.2.2 hb16⟩) (fun hHeld2 => ?_)
                          clear hb16 R12 R15
                          clear hK K
                          replace hHeld := hHeld2
                          clear hHeld2
                          try simp only [Act.put, List.setIfInBounds_toArray, List.set_cons_zero, List.set_cons_succ]
                          refine wpAnyT_take (i := 17) (v := ?_) [] (oi := { dst := some 76, op := Go.Op.pick (Go.Operand.tmp 68) (Go.Operand.tmp 75) (Go.Operand.const (Go.Value.bool false)), type := 4, pos := "law.go:58", after := #[{ on := 9, ground := Go.Ground.data }, { on := 16, ground := Go.Ground.data }], guard := none }) rfl (by kernel_rfl) (by kernel_rfl) (by kernel_rfl) (by kernel_rfl) (fun _ _ _ h => h) (Or.inl ⟨by rfl, ?_⟩) hHeld ?_
                          rotate_left
                          · intro wS hSw
                            go_simp
                            all_goals with_reducible rfl
                          simp only [Act.put, List.setIfInBounds_toArray, List.set_cons_zero, List.set_cons_succ]
                          refine wpAnyT_take (i := 18) (v := ?_) [] (oi := { dst := some 77, op := Go.Op.move (Go.Operand.tmp 76), type := 4, pos := "law.go:58", after := #[{ on := 17, ground := Go.Ground.data }, { on := 16, ground := Go.Ground.chain }], guard := none }) rfl (by kernel_rfl) (by kernel_rfl) (by kernel_rfl) (by kernel_rfl) (fun _ _ _ h => h) (Or.inl ⟨by rfl, ?_⟩) hHeld ?_
                          rotate_left
                          · intro wS hSw
                            go_simp
                            all_goals with_reducible rfl
                          simp only [Act.put, List.setIfInBounds_toArray, List.set_cons_zero, List.set_cons_succ]
                          refine wpAnyT_take (i := 19) (v := ?_) [] (oi := { dst := some 78, op := Go.Op.load 25 (Go.Operand.tmp 7), type := 25, pos := "law.go:58", after := #[{ on := 18, ground := Go.Ground.guard }], guard := some (18, true) }) rfl (by kernel_rfl) (by kernel_rfl) (by kernel_rfl) (by kernel_rfl) (fun _ _ _ h => h) (Or.inl ⟨by rfl, ?_⟩) hHeld ?_
                          rotate_left
                          · intro wS hSw
                            obtain ⟨⟨B0, B1, B2, B3, B4⟩, -, -⟩ := hSw
                            obtain ⟨y00, y01, y02, y03, y04, -⟩ := B0.c
                            obtain ⟨y10, y11, y12, y13, y14, -⟩ := B1.c
                            obtain ⟨y20, y21, y22, y23, y24, -⟩ := B2.c
                            obtain ⟨y30, y31, y32, y33, y34, -⟩ := B3.c
                            obtain ⟨y40, y41, y42, y43, y44, -⟩ := B4.c
                            go_simp
                            all_goals with_reducible rfl
                          simp only [Act.put, List.setIfInBounds_toArray, List.set_cons_zero, List.set_cons_succ]
                          refine wpAnyT_take (i := 20) (v := ?_) [] (oi := { dst := some 79, op := Go.Op.load 25 (Go.Operand.tmp 3), type := 25, pos := "law.go:58", after := #[{ on := 18, ground := Go.Ground.guard }], guard := some (18, true) }) rfl (by kernel_rfl) (by kernel_rfl) (by kernel_rfl) (by kernel_rfl) (fun _ _ _ h => h) (Or.inl ⟨by rfl, ?_⟩) hHeld ?_
                          rotate_left
                          · intro wS hSw
                            obtain ⟨⟨B0, B1, B2, B3, B4⟩, -, -⟩ := hSw
                            obtain ⟨y00, y01, y02, y03, y04, -⟩ := B0.c
                            obtain ⟨y10, y11, y12, y13, y14, -⟩ := B1.c
                            obtain ⟨y20, y21, y22, y23, y24, -⟩ := B2.c
                            obtain ⟨y30, y31, y32, y33, y34, -⟩ := B3.c
                            obtain ⟨y40, y41, y42, y43, y44, -⟩ := B4.c
                            go_simp
                            all_goals with_reducible rfl
                          simp only [Act.put, List.setIfInBounds_toArray, List.set_cons_zero, List.set_cons_succ]
                          refine wpAnyT_ready (rs := [21]) (by kernel_rfl) (by simp) ?_
                          refine AllReadyT.cons (i := 21) (o := { dst := some 80, op := Go.Op.call { callee := Go.Callee.value (Go.Operand.func 10), args := #[Go.Operand.tmp 78, Go.Operand.tmp 79], argTypes := #[25, 25] }, type := 4, pos := "law.go:58", after := #[{ on := 19, ground := Go.Ground.data }, { on := 20, ground := Go.Ground.data }, { on := 18, ground := Go.Ground.chain }, { on := 18, ground := Go.Ground.guard }], guard := some (18, true) }) rfl (fun K hK => ?_) ?_
                          · go_simp
                            refine (rsame_is _ (fun _ => True) (fun _ => True) t t _ _ (by exact hHeld.2.1.2.2.1) (by exact hHeld.2.1.1)).mono ?_
                            rintro e w21q ⟨rfl, hb21⟩
                            refine hK.out _ _ (⟨⟨box_bel hb21 hHeld.1.1, box_bel hb21 hHeld.1.2.1, box_bel hb21 hHeld.1.2.2.1, box_bel hb21 hHeld.1.2.2.2.1, box_bel hb21 hHeld.1.2.2.2.2⟩, ⟨hHeld.2.1.1.bel hb21, hHeld.2.1.2.1.bel hb21, hHeld.2.1.2.2.1.bel hb21, hHeld.2.1.2.2.2.1.bel hb21, hHeld.2.1.2.2.2.2.bel hb21⟩, bel_trans hHeld.2.2 hb21⟩) (fun hHeld2 => ?_)
                            clear hb21
                            clear hK K
                            replace hHeld := hHeld2
                            clear hHeld2
                            try simp only [Act.put, List.setIfInBounds_toArray, List.set_cons_zero, List.set_cons_succ]
                            refine wpAnyT_take (i := 22) (v := ?_) [] (oi := { dst := some 81, op := Go.Op.pick (Go.Operand.tmp 77) (Go.Operand.tmp 80) (Go.Operand.const (Go.Value.bool false)), type := 4, pos := "law.go:58", after := #[{ on := 18, ground := Go.Ground.data }, { on := 21, ground := Go.Ground.data }], guard := none }) rfl (by kernel_rfl) (by kernel_rfl) (by kernel_rfl) (by kernel_rfl) (fun _ _ _ h => h) (Or.inl ⟨by rfl, ?_⟩) hHeld ?_
                            rotate_left
                            · intro wS hSw
                              go_simp
                              all_goals with_reducible rfl
                            simp only [Act.put, List.setIfInBounds_toArray, List.set_cons_zero, List.set_cons_succ]
                            refine wpAnyT_take (i := 23) (v := ?_) [] (oi := { dst := some 6, op := Go.Op.assign (Go.Operand.tmp 81), type := 4, pos := "law.go:58", after := #[{ on := 22, ground := Go.Ground.data }, { on := 21, ground := Go.Ground.chain }, { on := 0, ground := Go.Ground.phase }, { on := 1, ground := Go.Ground.phase }, { on := 2, ground := Go.Ground.phase }, { on := 3, ground := Go.Ground.phase }, { on := 4, ground := Go.Ground.phase }, { on := 5, ground := Go.Ground.phase }, { on := 6, ground := Go.Ground.phase }, { on := 7, ground := Go.Ground.phase }, { on := 8, ground := Go.Ground.phase }, { on := 9, ground := Go.Ground.phase }, { on := 10, ground := Go.Ground.phase }, { on := 11, ground := Go.Ground.phase }, { on := 12, ground := Go.Ground.phase }, { on := 13, ground := Go.Ground.phase }, { on := 14, ground := Go.Ground.phase }, { on := 15, ground := Go.Ground.phase }, { on := 16, ground := Go.Ground.phase }, { on := 17, ground := Go.Ground.phase }, { on := 18, ground := Go.Ground.phase }, { on := 19, ground := Go.Ground.phase }, { on := 20, ground := Go.Ground.phase }, { on := 21, ground := Go.Ground.phase }, { on := 22, ground := Go.Ground.phase }], guard := none }) rfl (by kernel_rfl) (by kernel_rfl) (by kernel_rfl) (by kernel_rfl) (fun _ _ _ h => h) (Or.inl ⟨by rfl, ?_⟩) hHeld ?_
                            rotate_left
                            · intro wS hSw
                              go_simp
                              all_goals with_reducible rfl
                            simp only [Act.put, List.setIfInBounds_toArray, List.set_cons_zero, List.set_cons_succ]
                            refine wpAnyT_done (by kernel_rfl) ?_ _
                            go_wp2_with fail
                            go_ret
                            exact ⟨rfl, hHeld.2.2⟩
                          exact AllReadyT.nil
                        exact AllReadyT.nil
                      exact AllReadyT.nil
                    exact AllReadyT.nil
                  exact AllReadyT.nil
                exact AllReadyT.nil
              exact AllReadyT.nil
            · have e5 : (t.kind != 5) = true := by rw [bne_iff_ne]; exact hk5
              clear hk5
              go_wp2_with fail
              refine (rsame_is _ (fun _ => True) (fun _ => True) t t _ _ (by exact K41.out.2.1.2.2.1) (by exact K41.out.2.1.1)).mono ?_
              rintro e w42 ⟨rfl, hb42⟩
              have B42 := hidI (bel_trans K41.out.2.2 hb42)
              clear hb42
              go_wp2_with fail
              go_ret
              exact ⟨rfl, B42.out⟩
        exact AllReadyT.nil
      exact AllReadyT.nil
    exact AllReadyT.nil
  exact AllReadyT.nil
end Go.Proofs.YtfbddgpekbhpfaaDoor
