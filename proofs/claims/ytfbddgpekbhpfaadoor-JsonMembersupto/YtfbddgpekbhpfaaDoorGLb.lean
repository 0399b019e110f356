/- Whatever it is handed, JsonMembers answers true and leaves all as it was.
   Its conditions: what it is handed is of bulk at most 1048576 (values and letters); the listed package-level variables hold what the program's text lays (the card ties them, over a pruned copy of the project). -/
import Derived.Test.YtfbddgpekbhpfaaDoorGFw
import Derived.Test.YtfbddgpekbhpfaaDoorFm
import Derived.Test.YtfbddgpekbhpfaaDoorGFs
import Derived.Test.YtfbddgpekbhpfaaDoorSm
import Derived.Test.YtfbddgpekbhpfaaDoorGQh
import Derived.Test.YtfbddgpekbhpfaaDoorKd
import Derived.Test.YtfbddgpekbhpfaaDoorFc
import Derived.Test.YtfbddgpekbhpfaaDoorRows
import Derived.Test.YtfbddgpekbhpfaaDoorKa
/- Contracts of the reference, so told: a value in memory, whatever its depth. -/
set_option linter.unusedSimpArgs false
set_option linter.unusedVariables false
namespace Go.Proofs.YtfbddgpekbhpfaaDoor
open Go.RowKit

theorem rcopy_is (w : World) (ok : Nat → Prop) (t : V) (v : Value) (h : In w ok t v) (hN : siz t ≤ 1000000000000) :
    Calls Tryd.prog 12 #[v] w fun e w' => ∃ r, e = .returned r ∧ Below w.heap.size w w' ∧ In w' (fun k => w.heap.size ≤ k) t r := by
  obtain ⟨d, h⟩ := h
  refine (copyValue_all d w ok t v h hN).mono ?_
  rintro e w' ⟨r, rfl, hb, hr⟩
  exact ⟨r, rfl, hb, hr.is⟩
theorem member_get (w : World) (ok : Nat → Prop) (t : V) (v : Value) (key : List UInt8) (h : In w ok t v) :
    Calls Tryd.prog 13 #[v, str key] w fun e w' => ∃ x, e = .returned (.tuple #[x, .bool (memV t key).isSome]) ∧ Below w.heap.size w w' ∧ In w' ok ((memV t key).getD zeroT) x := by
  obtain ⟨d, h⟩ := h
  refine (member_at w ok d t v key h).mono ?_
  rintro e w' ⟨x, b, rfl, hb, hm⟩
  cases hq : memV t key with
  | none => rw [hq] at hm; rw [hm.1, hm.2]; exact ⟨_, rfl, hb, in_zero w' ok⟩
  | some y => rw [hq] at hm; rw [hm.1]; exact ⟨x, rfl, hb, hm.2.is⟩
open Classical in
theorem same_dec (w : World) (ok ok' : Nat → Prop) (a b : V) (va vb : Value) (ha : In w ok a va) (hb : In w ok' b vb) (hN : cnt a ≤ 2000000000000) :
    Calls Tryd.prog 15 #[va, vb] w fun e w' => e = .returned (.bool (decide (a = b))) ∧ Below w.heap.size w w' := by
  refine (same_run w ok ok' a b va vb ha hb hN).mono ?_
  rintro e w' ⟨r, rfl, hr, hb⟩
  refine ⟨?_, hb⟩
  congr 2
  rw [Bool.eq_iff_iff, hr]; simp
end Go.Proofs.YtfbddgpekbhpfaaDoor

/- What JsonMembers of package stairwelllaw answers. -/
set_option linter.unusedSimpArgs false
set_option linter.unusedVariables false
namespace Go.Proofs.YtfbddgpekbhpfaaDoor
open Go.RowKit

attribute [local go_sem ↓] Go.wp_at_zero Go.wp_at_succ
open Classical in
set_option maxRecDepth 100000 in
set_option maxHeartbeats 40000000 in
theorem jsonMembers_walk (w : World) (okt : Nat → Prop) (dt : Nat) (t : V) (vt : Value) (ht : VIs w okt dt t vt) (hN : siz t ≤ 2000000) (okx : Nat → Prop) (dx : Nat) (x : V) (vx : Value) (hx : VIs w okx dx x vx) (hNx : siz x ≤ 2000000) (key : List UInt8) (hk : key.length ≤ 140737488351232) (hG : Glob w) :
    Calls Tryd.prog 4 #[vt, vx, str key] w fun e w' => e = .returned (.bool true) ∧ Below w.heap.size w w' := by
  have HG := hidI hG
  have HC : Hid (cnt t ≤ 2000000) := hidI (Nat.le_trans (cnt_siz t) hN)
  have HN := hidI hN
  have qt : In w (fun _ => True) t vt := ht.is.weak fun _ _ => trivial
  have Ht := hidI qt
  obtain ⟨la1, lb1, lc1⟩ := qt.lens
  obtain ⟨a1, b1, c1, d1, rfl⟩ := qt.form
  clear qt ht
  have qx : In w (fun _ => True) x vx := hx.is.weak fun _ _ => trivial
  have Hx := hidI qx
  obtain ⟨la2, lb2, lc2⟩ := qx.lens
  obtain ⟨a2, b2, c2, d2, rfl⟩ := qx.form
  clear qx hx
  clear hG hN
  unfold str
  have B0 : Hid (Below w.heap.size w ((w.alloc (.cells #[.int .i64 t.kind, .int .i64 t.n, .string ⟨t.s.toArray⟩, .slice a1 t.keys.length c1, .slice b1 t.l.length d1] 25)).alloc (.cells #[.int .i64 x.kind, .int .i64 x.n, .string ⟨x.s.toArray⟩, .slice a2 x.keys.length c2, .slice b2 x.l.length d2] 25))) := hidI (bel_trans (bel_alloc _ _) (bel_alloc _ _))
  have K0 : Hid ((BoxIs ((w.alloc (.cells #[.int .i64 t.kind, .int .i64 t.n, .string ⟨t.s.toArray⟩, .slice a1 t.keys.length c1, .slice b1 t.l.length d1] 25)).alloc (.cells #[.int .i64 x.kind, .int .i64 x.n, .string ⟨x.s.toArray⟩, .slice a2 x.keys.length c2, .slice b2 x.l.length d2] 25)) w.heap.size (.int .i64 t.kind) (.int .i64 t.n) (.string ⟨t.s.toArray⟩) (.slice a1 t.keys.length c1) (.slice b1 t.l.length d1) ∧ BoxIs ((w.alloc (.cells #[.int .i64 t.kind, .int .i64 t.n, .string ⟨t.s.toArray⟩, .slice a1 t.keys.length c1, .slice b1 t.l.length d1] 25)).alloc (.cells #[.int .i64 x.kind, .int .i64 x.n, .string ⟨x.s.toArray⟩, .slice a2 x.keys.length c2, .slice b2 x.l.length d2] 25)) (w.heap.size + 1) (.int .i64 x.kind) (.int .i64 x.n) (.string ⟨x.s.toArray⟩) (.slice a2 x.keys.length c2) (.slice b2 x.l.length d2)) ∧ (In ((w.alloc (.cells #[.int .i64 t.kind, .int .i64 t.n, .string ⟨t.s.toArray⟩, .slice a1 t.keys.length c1, .slice b1 t.l.length d1] 25)).alloc (.cells #[.int .i64 x.kind, .int .i64 x.n, .string ⟨x.s.toArray⟩, .slice a2 x.keys.length c2, .slice b2 x.l.length d2] 25)) (fun _ => True) t (.agg #[.int .i64 t.kind, .int .i64 t.n, .string ⟨t.s.toArray⟩, .slice a1 t.keys.length c1, .slice b1 t.l.length d1]) ∧ In ((w.alloc (.cells #[.int .i64 t.kind, .int .i64 t.n, .string ⟨t.s.toArray⟩, .slice a1 t.keys.length c1, .slice b1 t.l.length d1] 25)).alloc (.cells #[.int .i64 x.kind, .int .i64 x.n, .string ⟨x.s.toArray⟩, .slice a2 x.keys.length c2, .slice b2 x.l.length d2] 25)) (fun _ => True) x (.agg #[.int .i64 x.kind, .int .i64 x.n, .string ⟨x.s.toArray⟩, .slice a2 x.keys.length c2, .slice b2 x.l.length d2])) ∧ Below w.heap.size w ((w.alloc (.cells #[.int .i64 t.kind, .int .i64 t.n, .string ⟨t.s.toArray⟩, .slice a1 t.keys.length c1, .slice b1 t.l.length d1] 25)).alloc (.cells #[.int .i64 x.kind, .int .i64 x.n, .string ⟨x.s.toArray⟩, .slice a2 x.keys.length c2, .slice b2 x.l.length d2] 25))) := hidI ⟨⟨h2a w _ _, h2b w _ _⟩, ⟨Ht.out.bel B0.out, Hx.out.bel B0.out⟩, B0.out⟩
  go_enter Tryd.func4, Tryd.ntmps4
  obtain ⟨x00, x01, x02, x03, x04, -⟩ := K0.out.1.1.c
  obtain ⟨x10, x11, x12, x13, x14, -⟩ := K0.out.1.2.c
  go_wp2_with fail
  refine (rcopy_is _ (fun _ => True) t _ (by exact K0.out.2.1.1) (by have := HN.out; omega)).mono ?_
  rintro e w1 ⟨r3, rfl, hb1, hr3⟩
  obtain ⟨a3, b3, c3, d3, rfl⟩ := hr3.form
  have hbb3 := bel_trans hb1 (bel_alloc w1 (.cells #[.int .i64 t.kind, .int .i64 t.n, .string ⟨t.s.toArray⟩, .slice a3 t.keys.length c3, .slice b3 t.l.length d3] 25))
  have K1 : Hid ((BoxIs (w1.alloc (.cells #[.int .i64 t.kind, .int .i64 t.n, .string ⟨t.s.toArray⟩, .slice a3 t.keys.length c3, .slice b3 t.l.length d3] 25)) w.heap.size (.int .i64 t.kind) (.int .i64 t.n) (.string ⟨t.s.toArray⟩) (.slice a1 t.keys.length c1) (.slice b1 t.l.length d1) ∧ BoxIs (w1.alloc (.cells #[.int .i64 t.kind, .int .i64 t.n, .string ⟨t.s.toArray⟩, .slice a3 t.keys.length c3, .slice b3 t.l.length d3] 25)) (w.heap.size + 1) (.int .i64 x.kind) (.int .i64 x.n) (.string ⟨x.s.toArray⟩) (.slice a2 x.keys.length c2) (.slice b2 x.l.length d2) ∧ BoxIs (w1.alloc (.cells #[.int .i64 t.kind, .int .i64 t.n, .string ⟨t.s.toArray⟩, .slice a3 t.keys.length c3, .slice b3 t.l.length d3] 25)) w1.heap.size (.int .i64 t.kind) (.int .i64 t.n) (.string ⟨t.s.toArray⟩) (.slice a3 t.keys.length c3) (.slice b3 t.l.length d3)) ∧ (In (w1.alloc (.cells #[.int .i64 t.kind, .int .i64 t.n, .string ⟨t.s.toArray⟩, .slice a3 t.keys.length c3, .slice b3 t.l.length d3] 25)) (fun _ => True) t (.agg #[.int .i64 t.kind, .int .i64 t.n, .string ⟨t.s.toArray⟩, .slice a1 t.keys.length c1, .slice b1 t.l.length d1]) ∧ In (w1.alloc (.cells #[.int .i64 t.kind, .int .i64 t.n, .string ⟨t.s.toArray⟩, .slice a3 t.keys.length c3, .slice b3 t.l.length d3] 25)) (fun _ => True) x (.agg #[.int .i64 x.kind, .int .i64 x.n, .string ⟨x.s.toArray⟩, .slice a2 x.keys.length c2, .slice b2 x.l.length d2]) ∧ In (w1.alloc (.cells #[.int .i64 t.kind, .int .i64 t.n, .string ⟨t.s.toArray⟩, .slice a3 t.keys.length c3, .slice b3 t.l.length d3] 25)) (fun _ => True) t (.agg #[.int .i64 t.kind, .int .i64 t.n, .string ⟨t.s.toArray⟩, .slice a3 t.keys.length c3, .slice b3 t.l.length d3])) ∧ Below w.heap.size w (w1.alloc (.cells #[.int .i64 t.kind, .int .i64 t.n, .string ⟨t.s.toArray⟩, .slice a3 t.keys.length c3, .slice b3 t.l.length d3] 25))) := hidI ⟨⟨box_bel hbb3 K0.out.1.1, box_bel hbb3 K0.out.1.2, heap_alloc_new w1 _⟩, ⟨K0.out.2.1.1.bel hbb3, K0.out.2.1.2.bel hbb3, (hr3.bel (bel_alloc _ _)).weak fun _ _ => trivial⟩, bel_trans K0.out.2.2 hbb3⟩
  clear hr3 hb1 hbb3 x00 x01 x02 x03 x04 x10 x11 x12 x13 x14
  obtain ⟨x00, x01, x02, x03, x04, -⟩ := K1.out.1.1.c
  obtain ⟨x10, x11, x12, x13, x14, -⟩ := K1.out.1.2.1.c
  obtain ⟨x20, x21, x22, x23, x24, -⟩ := K1.out.1.2.2.c
  go_wp2_with fail
  refine (member_get _ (fun _ => True) t _ key (by exact K1.out.2.1.2.2)).mono ?_
  rintro e w2 ⟨r4, rfl, hb2, hr4⟩
  obtain ⟨m, hg4⟩ : ∃ g, (memV t key).getD zeroT = g := ⟨_, rfl⟩
  rw [hg4] at hr4
  obtain ⟨a4, b4, c4, d4, rfl⟩ := hr4.form
  have HG4 := hidI hg4
  have hbb4 := bel_trans hb2 (bel_alloc w2 (.cells #[.int .i64 m.kind, .int .i64 m.n, .string ⟨m.s.toArray⟩, .slice a4 m.keys.length c4, .slice b4 m.l.length d4] 25))
  have K2 : Hid ((BoxIs (w2.alloc (.cells #[.int .i64 m.kind, .int .i64 m.n, .string ⟨m.s.toArray⟩, .slice a4 m.keys.length c4, .slice b4 m.l.length d4] 25)) w.heap.size (.int .i64 t.kind) (.int .i64 t.n) (.string ⟨t.s.toArray⟩) (.slice a1 t.keys.length c1) (.slice b1 t.l.length d1) ∧ BoxIs (w2.alloc (.cells #[.int .i64 m.kind, .int .i64 m.n, .string ⟨m.s.toArray⟩, .slice a4 m.keys.length c4, .slice b4 m.l.length d4] 25)) (w.heap.size + 1) (.int .i64 x.kind) (.int .i64 x.n) (.string ⟨x.s.toArray⟩) (.slice a2 x.keys.length c2) (.slice b2 x.l.length d2) ∧ BoxIs (w2.alloc (.cells #[.int .i64 m.kind, .int .i64 m.n, .string ⟨m.s.toArray⟩, .slice a4 m.keys.length c4, .slice b4 m.l.length d4] 25)) w1.heap.size (.int .i64 t.kind) (.int .i64 t.n) (.string ⟨t.s.toArray⟩) (.slice a3 t.keys.length c3) (.slice b3 t.l.length d3) ∧ BoxIs (w2.alloc (.cells #[.int .i64 m.kind, .int .i64 m.n, .string ⟨m.s.toArray⟩, .slice a4 m.keys.length c4, .slice b4 m.l.length d4] 25)) w2.heap.size (.int .i64 m.kind) (.int .i64 m.n) (.string ⟨m.s.toArray⟩) (.slice a4 m.keys.length c4) (.slice b4 m.l.length d4)) ∧ (In (w2.alloc (.cells #[.int .i64 m.kind, .int .i64 m.n, .string ⟨m.s.toArray⟩, .slice a4 m.keys.length c4, .slice b4 m.l.length d4] 25)) (fun _ => True) t (.agg #[.int .i64 t.kind, .int .i64 t.n, .string ⟨t.s.toArray⟩, .slice a1 t.keys.length c1, .slice b1 t.l.length d1]) ∧ In (w2.alloc (.cells #[.int .i64 m.kind, .int .i64 m.n, .string ⟨m.s.toArray⟩, .slice a4 m.keys.length c4, .slice b4 m.l.length d4] 25)) (fun _ => True) x (.agg #[.int .i64 x.kind, .int .i64 x.n, .string ⟨x.s.toArray⟩, .slice a2 x.keys.length c2, .slice b2 x.l.length d2]) ∧ In (w2.alloc (.cells #[.int .i64 m.kind, .int .i64 m.n, .string ⟨m.s.toArray⟩, .slice a4 m.keys.length c4, .slice b4 m.l.length d4] 25)) (fun _ => True) t (.agg #[.int .i64 t.kind, .int .i64 t.n, .string ⟨t.s.toArray⟩, .slice a3 t.keys.length c3, .slice b3 t.l.length d3]) ∧ In (w2.alloc (.cells #[.int .i64 m.kind, .int .i64 m.n, .string ⟨m.s.toArray⟩, .slice a4 m.keys.length c4, .slice b4 m.l.length d4] 25)) (fun _ => True) m (.agg #[.int .i64 m.kind, .int .i64 m.n, .string ⟨m.s.toArray⟩, .slice a4 m.keys.length c4, .slice b4 m.l.length d4])) ∧ Below w.heap.size w (w2.alloc (.cells #[.int .i64 m.kind, .int .i64 m.n, .string ⟨m.s.toArray⟩, .slice a4 m.keys.length c4, .slice b4 m.l.length d4] 25))) := hidI ⟨⟨box_bel hbb4 K1.out.1.1, box_bel hbb4 K1.out.1.2.1, box_bel hbb4 K1.out.1.2.2, heap_alloc_new w2 _⟩, ⟨K1.out.2.1.1.bel hbb4, K1.out.2.1.2.1.bel hbb4, K1.out.2.1.2.2.bel hbb4, (hr4.bel (bel_alloc _ _)).weak fun _ _ => trivial⟩, bel_trans K1.out.2.2 hbb4⟩
  clear hg4 hr4 hb2 hbb4 x00 x01 x02 x03 x04 x10 x11 x12 x13 x14 x20 x21 x22 x23 x24
  obtain ⟨x00, x01, x02, x03, x04, -⟩ := K2.out.1.1.c
  obtain ⟨x10, x11, x12, x13, x14, -⟩ := K2.out.1.2.1.c
  obtain ⟨x20, x21, x22, x23, x24, -⟩ := K2.out.1.2.2.1.c
  obtain ⟨x30, x31, x32, x33, x34, -⟩ := K2.out.1.2.2.2.c
  go_wp2_with fail
  refine (rmember_is _ (fun _ => True) t _ key (by exact K2.out.2.1.1)).mono ?_
  rintro e w3 ⟨r5, rfl, hb3, hr5⟩
  rw [HG4.out] at hr5
  obtain ⟨a5, b5, c5, d5, rfl⟩ := hr5.form
  have hbb5 := bel_trans hb3 (bel_alloc w3 (.cells #[.int .i64 m.kind, .int .i64 m.n, .string ⟨m.s.toArray⟩, .slice a5 m.keys.length c5, .slice b5 m.l.length d5] 25))
  have K3 : Hid ((BoxIs (w3.alloc (.cells #[.int .i64 m.kind, .int .i64 m.n, .string ⟨m.s.toArray⟩, .slice a5 m.keys.length c5, .slice b5 m.l.length d5] 25)) w.heap.size (.int .i64 t.kind) (.int .i64 t.n) (.string ⟨t.s.toArray⟩) (.slice a1 t.keys.length c1) (.slice b1 t.l.length d1) ∧ BoxIs (w3.alloc (.cells #[.int .i64 m.kind, .int .i64 m.n, .string ⟨m.s.toArray⟩, .slice a5 m.keys.length c5, .slice b5 m.l.length d5] 25)) (w.heap.size + 1) (.int .i64 x.kind) (.int .i64 x.n) (.string ⟨x.s.toArray⟩) (.slice a2 x.keys.length c2) (.slice b2 x.l.length d2) ∧ BoxIs (w3.alloc (.cells #[.int .i64 m.kind, .int .i64 m.n, .string ⟨m.s.toArray⟩, .slice a5 m.keys.length c5, .slice b5 m.l.length d5] 25)) w1.heap.size (.int .i64 t.kind) (.int .i64 t.n) (.string ⟨t.s.toArray⟩) (.slice a3 t.keys.length c3) (.slice b3 t.l.length d3) ∧ BoxIs (w3.alloc (.cells #[.int .i64 m.kind, .int .i64 m.n, .string ⟨m.s.toArray⟩, .slice a5 m.keys.length c5, .slice b5 m.l.length d5] 25)) w2.heap.size (.int .i64 m.kind) (.int .i64 m.n) (.string ⟨m.s.toArray⟩) (.slice a4 m.keys.length c4) (.slice b4 m.l.length d4) ∧ BoxIs (w3.alloc (.cells #[.int .i64 m.kind, .int .i64 m.n, .string ⟨m.s.toArray⟩, .slice a5 m.keys.length c5, .slice b5 m.l.length d5] 25)) w3.heap.size (.int .i64 m.kind) (.int .i64 m.n) (.string ⟨m.s.toArray⟩) (.slice a5 m.keys.length c5) (.slice b5 m.l.length d5)) ∧ (In (w3.alloc (.cells #[.int .i64 m.kind, .int .i64 m.n, .string ⟨m.s.toArray⟩, .slice a5 m.keys.length c5, .slice b5 m.l.length d5] 25)) (fun _ => True) t (.agg #[.int .i64 t.kind, .int .i64 t.n, .string ⟨t.s.toArray⟩, .slice a1 t.keys.length c1, .slice b1 t.l.length d1]) ∧ In (w3.alloc (.cells #[.int .i64 m.kind, .int .i64 m.n, .string ⟨m.s.toArray⟩, .slice a5 m.keys.length c5, .slice b5 m.l.length d5] 25)) (fun _ => True) x (.agg #[.int .i64 x.kind, .int .i64 x.n, .string ⟨x.s.toArray⟩, .slice a2 x.keys.length c2, .slice b2 x.l.length d2]) ∧ In (w3.alloc (.cells #[.int .i64 m.kind, .int .i64 m.n, .string ⟨m.s.toArray⟩, .slice a5 m.keys.length c5, .slice b5 m.l.length d5] 25)) (fun _ => True) t (.agg #[.int .i64 t.kind, .int .i64 t.n, .string ⟨t.s.toArray⟩, .slice a3 t.keys.length c3, .slice b3 t.l.length d3]) ∧ In (w3.alloc (.cells #[.int .i64 m.kind, .int .i64 m.n, .string ⟨m.s.toArray⟩, .slice a5 m.keys.length c5, .slice b5 m.l.length d5] 25)) (fun _ => True) m (.agg #[.int .i64 m.kind, .int .i64 m.n, .string ⟨m.s.toArray⟩, .slice a4 m.keys.length c4, .slice b4 m.l.length d4]) ∧ In (w3.alloc (.cells #[.int .i64 m.kind, .int .i64 m.n, .string ⟨m.s.toArray⟩, .slice a5 m.keys.length c5, .slice b5 m.l.length d5] 25)) (fun _ => True) m (.agg #[.int .i64 m.kind, .int .i64 m.n, .string ⟨m.s.toArray⟩, .slice a5 m.keys.length c5, .slice b5 m.l.length d5])) ∧ Below w.heap.size w (w3.alloc (.cells #[.int .i64 m.kind, .int .i64 m.n, .string ⟨m.s.toArray⟩, .slice a5 m.keys.length c5, .slice b5 m.l.length d5] 25))) := hidI ⟨⟨box_bel hbb5 K2.out.1.1, box_bel hbb5 K2.out.1.2.1, box_bel hbb5 K2.out.1.2.2.1, box_bel hbb5 K2.out.1.2.2.2, heap_alloc_new w3 _⟩, ⟨K2.out.2.1.1.bel hbb5, K2.out.2.1.2.1.bel hbb5, K2.out.2.1.2.2.1.bel hbb5, K2.out.2.1.2.2.2.bel hbb5, (hr5.bel (bel_alloc _ _)).weak fun _ _ => trivial⟩, bel_trans K2.out.2.2 hbb5⟩
  clear hr5 hb3 hbb5 x00 x01 x02 x03 x04 x10 x11 x12 x13 x14 x20 x21 x22 x23 x24 x30 x31 x32 x33 x34
  obtain ⟨x00, x01, x02, x03, x04, -⟩ := K3.out.1.1.c
  obtain ⟨x10, x11, x12, x13, x14, -⟩ := K3.out.1.2.1.c
  obtain ⟨x20, x21, x22, x23, x24, -⟩ := K3.out.1.2.2.1.c
  obtain ⟨x30, x31, x32, x33, x34, -⟩ := K3.out.1.2.2.2.1.c
  obtain ⟨x40, x41, x42, x43, x44, -⟩ := K3.out.1.2.2.2.2.c
  go_upto_region 4 with fail
  refine wp_region_T (fun wS => (BoxIs wS w.heap.size (.int .i64 t.kind) (.int .i64 t.n) (.string ⟨t.s.toArray⟩) (.slice a1 t.keys.length c1) (.slice b1 t.l.length d1) ∧ BoxIs wS (w.heap.size + 1) (.int .i64 x.kind) (.int .i64 x.n) (.string ⟨x.s.toArray⟩) (.slice a2 x.keys.length c2) (.slice b2 x.l.length d2) ∧ BoxIs wS w1.heap.size (.int .i64 t.kind) (.int .i64 t.n) (.string ⟨t.s.toArray⟩) (.slice a3 t.keys.length c3) (.slice b3 t.l.length d3) ∧ BoxIs wS w2.heap.size (.int .i64 m.kind) (.int .i64 m.n) (.string ⟨m.s.toArray⟩) (.slice a4 m.keys.length c4) (.slice b4 m.l.length d4) ∧ BoxIs wS w3.heap.size (.int .i64 m.kind) (.int .i64 m.n) (.string ⟨m.s.toArray⟩) (.slice a5 m.keys.length c5) (.slice b5 m.l.length d5)) ∧ (In wS (fun _ => True) t (.agg #[.int .i64 t.kind, .int .i64 t.n, .string ⟨t.s.toArray⟩, .slice a1 t.keys.length c1, .slice b1 t.l.length d1]) ∧ In wS (fun _ => True) x (.agg #[.int .i64 x.kind, .int .i64 x.n, .string ⟨x.s.toArray⟩, .slice a2 x.keys.length c2, .slice b2 x.l.length d2]) ∧ In wS (fun _ => True) t (.agg #[.int .i64 t.kind, .int .i64 t.n, .string ⟨t.s.toArray⟩, .slice a3 t.keys.length c3, .slice b3 t.l.length d3]) ∧ In wS (fun _ => True) m (.agg #[.int .i64 m.kind, .int .i64 m.n, .string ⟨m.s.toArray⟩, .slice a4 m.keys.length c4, .slice b4 m.l.length d4]) ∧ In wS (fun _ => True) m (.agg #[.int .i64 m.kind, .int .i64 m.n, .string ⟨m.s.toArray⟩, .slice a5 m.keys.length c5, .slice b5 m.l.length d5])) ∧ Below w.heap.size w wS) [] (by kernel_rfl) ⟨⟨box_bel (bel_drewN _ 1) K3.out.1.1, box_bel (bel_drewN _ 1) K3.out.1.2.1, box_bel (bel_drewN _ 1) K3.out.1.2.2.1, box_bel (bel_drewN _ 1) K3.out.1.2.2.2.1, box_bel (bel_drewN _ 1) K3.out.1.2.2.2.2⟩, ⟨K3.out.2.1.1.bel (bel_drewN _ 1), K3.out.2.1.2.1.bel (bel_drewN _ 1), K3.out.2.1.2.2.1.bel (bel_drewN _ 1), K3.out.2.1.2.2.2.1.bel (bel_drewN _ 1), K3.out.2.1.2.2.2.2.bel (bel_drewN _ 1)⟩, bel_trans K3.out.2.2 (bel_drewN _ 1)⟩ (fun hHeld => ?_)
  clear x00 x01 x02 x03 x04 x10 x11 x12 x13 x14 x20 x21 x22 x23 x24 x30 x31 x32 x33 x34 x40 x41 x42 x43 x44
  refine wpAnyT_take (i := 0) (v := ?_) [] (oi := { dst := some 26, op := Go.Op.move (Go.Operand.tmp 9), type := 4, pos := "law.go:52", after := #[], guard := none }) rfl (by kernel_rfl) (by kernel_rfl) (by kernel_rfl) (by kernel_rfl) (fun _ _ _ h => h) (Or.inl ⟨by rfl, ?_⟩) hHeld ?_
  rotate_left
  · intro wS hSw
    go_simp
    all_goals with_reducible rfl
  simp only [Act.put, List.setIfInBounds_toArray, List.set_cons_zero, List.set_cons_succ]
  refine wpAnyT_take (i := 1) (v := ?_) [] (oi := { dst := some 27, op := Go.Op.move (Go.Operand.tmp 11), type := 4, pos := "law.go:52", after := #[], guard := none }) rfl (by kernel_rfl) (by kernel_rfl) (by kernel_rfl) (by kernel_rfl) (fun _ _ _ h => h) (Or.inl ⟨by rfl, ?_⟩) hHeld ?_
  rotate_left
  · intro wS hSw
    go_simp
    all_goals with_reducible rfl
  simp only [Act.put, List.setIfInBounds_toArray, List.set_cons_zero, List.set_cons_succ]
  refine wpAnyT_take (i := 2) (v := ?_) [] (oi := { dst := some 28, op := Go.Op.binOp Go.BinOp.neq 4 (Go.Operand.tmp 26) (Go.Operand.tmp 27) 4, type := 4, pos := "law.go:52", after := #[{ on := 0, ground := Go.Ground.data }, { on := 1, ground := Go.Ground.data }], guard := none }) rfl (by kernel_rfl) (by kernel_rfl) (by kernel_rfl) (by kernel_rfl) (fun _ _ _ h => h) (Or.inl ⟨by rfl, ?_⟩) hHeld ?_
  rotate_left
  · intro wS hSw
    go_simp
    all_goals with_reducible rfl
  simp only [Act.put, List.setIfInBounds_toArray, List.set_cons_zero, List.set_cons_succ]
  refine wpAnyT_take (i := 3) (v := ?_) [] (oi := { dst := some 29, op := Go.Op.move (Go.Operand.tmp 28), type := 4, pos := "law.go:52", after := #[{ on := 2, ground := Go.Ground.data }], guard := none }) rfl (by kernel_rfl) (by kernel_rfl) (by kernel_rfl) (by kernel_rfl) (fun _ _ _ h => h) (Or.inl ⟨by rfl, ?_⟩) hHeld ?_
  rotate_left
  · intro wS hSw
    go_simp
    all_goals with_reducible rfl
  simp only [Act.put, List.setIfInBounds_toArray, List.set_cons_zero, List.set_cons_succ]
  refine wpAnyT_take (i := 4) (v := ?_) [] (oi := { dst := some 30, op := Go.Op.load 25 (Go.Operand.tmp 8), type := 25, pos := "law.go:52", after := #[{ on := 3, ground := Go.Ground.guard }], guard := some (3, false) }) rfl (by kernel_rfl) (by kernel_rfl) (by kernel_rfl) (by kernel_rfl) (fun _ _ _ h => h) (Or.inl ⟨by rfl, ?_⟩) hHeld ?_
  rotate_left
  · intro wS hSw
    obtain ⟨⟨B0, B1, B2, B3, B4⟩, -, -⟩ := hSw
    obtain ⟨y00, y01, y02, y03, y04, -⟩ := B0.c
    obtain ⟨y10, y11, y12, y13, y14, -⟩ := B1.c
    obtain ⟨y20, y21, y22, y23, y24, -⟩ := B2.c
    obtain ⟨y30, y31, y32, y33, y34, -⟩ := B3.c
    obtain ⟨y40, y41, y42, y43, y44, -⟩ := B4.c
    go_simp
    all_goals with_reducible rfl
  simp only [Act.put, List.setIfInBounds_toArray, List.set_cons_zero, List.set_cons_succ]
  refine wpAnyT_take (i := 5) (v := ?_) [] (oi := { dst := some 31, op := Go.Op.load 25 (Go.Operand.tmp 10), type := 25, pos := "law.go:52", after := #[{ on := 3, ground := Go.Ground.guard }], guard := some (3, false) }) rfl (by kernel_rfl) (by kernel_rfl) (by kernel_rfl) (by kernel_rfl) (fun _ _ _ h => h) (Or.inl ⟨by rfl, ?_⟩) hHeld ?_
  rotate_left
  · intro wS hSw
    obtain ⟨⟨B0, B1, B2, B3, B4⟩, -, -⟩ := hSw
    obtain ⟨y00, y01, y02, y03, y04, -⟩ := B0.c
    obtain ⟨y10, y11, y12, y13, y14, -⟩ := B1.c
    obtain ⟨y20, y21, y22, y23, y24, -⟩ := B2.c
    obtain ⟨y30, y31, y32, y33, y34, -⟩ := B3.c
    obtain ⟨y40, y41, y42, y43, y44, -⟩ := B4.c
    go_simp
    all_goals with_reducible rfl
  simp only [Act.put, List.setIfInBounds_toArray, List.set_cons_zero, List.set_cons_succ]
  refine wpAnyT_ready (rs := [6]) (by kernel_rfl) (by simp) ?_
  refine AllReadyT.cons (i := 6) (o := { dst := some 32, op := Go.Op.call { callee := Go.Callee.value (Go.Operand.func 10), args := #[Go.Operand.tmp 30, Go.Operand.tmp 31], argTypes := #[25, 25] }, type := 4, pos := "law.go:52", after := #[{ on := 4, ground := Go.Ground.data }, { on := 5, ground := Go.Ground.data }, { on := 3, ground := Go.Ground.chain }, { on := 3, ground := Go.Ground.guard }], guard := some (3, false) }) rfl (fun K hK => ?_) ?_
  · go_simp
    refine (rsame_is _ (fun _ => True) (fun _ => True) m m _ _ (by exact hHeld.2.1.2.2.2.1) (by exact hHeld.2.1.2.2.2.2)).mono ?_
    rintro e w6q ⟨rfl, hb6⟩
    refine hK.out _ _ (⟨⟨box_bel hb6 hHeld.1.1, box_bel hb6 hHeld.1.2.1, box_bel hb6 hHeld.1.2.2.1, box_bel hb6 hHeld.1.2.2.2.1, box_bel hb6 hHeld.1.2.2.2.2⟩, ⟨hHeld.2.1.1.bel hb6, hHeld.2.1.2.1.bel hb6, hHeld.2.1.2.2.1.bel hb6, hHeld.2.1.2.2.2.1.bel hb6, hHeld.2.1.2.2.2.2.bel hb6⟩, bel_trans hHeld.2.2 hb6⟩) (fun hHeld2 => ?_)
    clear hb6
    clear hK K
    replace hHeld := hHeld2
    clear hHeld2
    try simp only [Act.put, List.setIfInBounds_toArray, List.set_cons_zero, List.set_cons_succ]
    refine wpAnyT_take (i := 7) (v := ?_) [] (oi := { dst := some 33, op := Go.Op.unOp Go.UnOp.not 4 (Go.Operand.tmp 32), type := 4, pos := "law.go:52", after := #[{ on := 6, ground := Go.Ground.data }, { on := 3, ground := Go.Ground.guard }], guard := some (3, false) }) rfl (by kernel_rfl) (by kernel_rfl) (by kernel_rfl) (by kernel_rfl) (fun _ _ _ h => h) (Or.inl ⟨by rfl, ?_⟩) hHeld ?_
    rotate_left
    · intro wS hSw
      go_simp
      all_goals with_reducible rfl
    simp only [Act.put, List.setIfInBounds_toArray, List.set_cons_zero, List.set_cons_succ]
    refine wpAnyT_take (i := 8) (v := ?_) [] (oi := { dst := some 34, op := Go.Op.pick (Go.Operand.tmp 29) (Go.Operand.const (Go.Value.bool true)) (Go.Operand.tmp 33), type := 4, pos := "law.go:52", after := #[{ on := 3, ground := Go.Ground.data }, { on := 7, ground := Go.Ground.data }], guard := none }) rfl (by kernel_rfl) (by kernel_rfl) (by kernel_rfl) (by kernel_rfl) (fun _ _ _ h => h) (Or.inl ⟨by rfl, ?_⟩) hHeld ?_
    rotate_left
    · intro wS hSw
      go_simp
      all_goals with_reducible rfl
    simp only [Act.put, List.setIfInBounds_toArray, List.set_cons_zero, List.set_cons_succ]
    refine wpAnyT_take (i := 9) (v := ?_) [] (oi := { dst := some 35, op := Go.Op.move (Go.Operand.tmp 34), type := 4, pos := "law.go:52", after := #[{ on := 8, ground := Go.Ground.data }, { on := 6, ground := Go.Ground.chain }], guard := none }) rfl (by kernel_rfl) (by kernel_rfl) (by kernel_rfl) (by kernel_rfl) (fun _ _ _ h => h) (Or.inl ⟨by rfl, ?_⟩) hHeld ?_
    rotate_left
    · intro wS hSw
      go_simp
      all_goals with_reducible rfl
    simp only [Act.put, List.setIfInBounds_toArray, List.set_cons_zero, List.set_cons_succ]
    refine wpAnyT_take (i := 10) (v := ?_) [] (oi := { dst := some 36, op := Go.Op.load 25 (Go.Operand.tmp 3), type := 25, pos := "law.go:52", after := #[{ on := 9, ground := Go.Ground.guard }], guard := some (9, false) }) rfl (by kernel_rfl) (by kernel_rfl) (by kernel_rfl) (by kernel_rfl) (fun _ _ _ h => h) (Or.inl ⟨by rfl, ?_⟩) hHeld ?_
    rotate_left
    · intro wS hSw
      obtain ⟨⟨B0, B1, B2, B3, B4⟩, -, -⟩ := hSw
      obtain ⟨y00, y01, y02, y03, y04, -⟩ := B0.c
      obtain ⟨y10, y11, y12, y13, y14, -⟩ := B1.c
      obtain ⟨y20, y21, y22, y23, y24, -⟩ := B2.c
      obtain ⟨y30, y31, y32, y33, y34, -⟩ := B3.c
      obtain ⟨y40, y41, y42, y43, y44, -⟩ := B4.c
      go_simp
      all_goals with_reducible rfl
    simp only [Act.put, List.setIfInBounds_toArray, List.set_cons_zero, List.set_cons_succ]
    refine wpAnyT_take (i := 11) (v := ?_) [] (oi := { dst := some 37, op := Go.Op.load 25 (Go.Operand.tmp 4), type := 25, pos := "law.go:52", after := #[{ on := 9, ground := Go.Ground.guard }], guard := some (9, false) }) rfl (by kernel_rfl) (by kernel_rfl) (by kernel_rfl) (by kernel_rfl) (fun _ _ _ h => h) (Or.inl ⟨by rfl, ?_⟩) hHeld ?_
    rotate_left
    · intro wS hSw
      obtain ⟨⟨B0, B1, B2, B3, B4⟩, -, -⟩ := hSw
      obtain ⟨y00, y01, y02, y03, y04, -⟩ := B0.c
      obtain ⟨y10, y11, y12, y13, y14, -⟩ := B1.c
      obtain ⟨y20, y21, y22, y23, y24, -⟩ := B2.c
      obtain ⟨y30, y31, y32, y33, y34, -⟩ := B3.c
      obtain ⟨y40, y41, y42, y43, y44, -⟩ := B4.c
      go_simp
      all_goals with_reducible rfl
    simp only [Act.put, List.setIfInBounds_toArray, List.set_cons_zero, List.set_cons_succ]
    refine wpAnyT_take (i := 13) (v := ?_) [] (oi := { dst := some 39, op := Go.Op.load 25 (Go.Operand.tmp 3), type := 25, pos := "law.go:52", after := #[{ on := 9, ground := Go.Ground.guard }], guard := some (9, false) }) rfl (by kernel_rfl) (by kernel_rfl) (by kernel_rfl) (by kernel_rfl) (fun _ _ _ h => h) (Or.inl ⟨by rfl, ?_⟩) hHeld ?_
    rotate_left
    · intro wS hSw
      obtain ⟨⟨B0, B1, B2, B3, B4⟩, -, -⟩ := hSw
      obtain ⟨y00, y01, y02, y03, y04, -⟩ := B0.c
      obtain ⟨y10, y11, y12, y13, y14, -⟩ := B1.c
      obtain ⟨y20, y21, y22, y23, y24, -⟩ := B2.c
      obtain ⟨y30, y31, y32, y33, y34, -⟩ := B3.c
      obtain ⟨y40, y41, y42, y43, y44, -⟩ := B4.c
      go_simp
      all_goals with_reducible rfl
    simp only [Act.put, List.setIfInBounds_toArray, List.set_cons_zero, List.set_cons_succ]
    refine wpAnyT_take (i := 14) (v := ?_) [] (oi := { dst := some 40, op := Go.Op.load 25 (Go.Operand.tmp 4), type := 25, pos := "law.go:52", after := #[{ on := 9, ground := Go.Ground.guard }], guard := some (9, false) }) rfl (by kernel_rfl) (by kernel_rfl) (by kernel_rfl) (by kernel_rfl) (fun _ _ _ h => h) (Or.inl ⟨by rfl, ?_⟩) hHeld ?_
    rotate_left
    · intro wS hSw
      obtain ⟨⟨B0, B1, B2, B3, B4⟩, -, -⟩ := hSw
      obtain ⟨y00, y01, y02, y03, y04, -⟩ := B0.c
      obtain ⟨y10, y11, y12, y13, y14, -⟩ := B1.c
      obtain ⟨y20, y21, y22, y23, y24, -⟩ := B2.c
      obtain ⟨y30, y31, y32, y33, y34, -⟩ := B3.c
      obtain ⟨y40, y41, y42, y43, y44, -⟩ := B4.c
      go_simp
      all_goals with_reducible rfl
    simp only [Act.put, List.setIfInBounds_toArray, List.set_cons_zero, List.set_cons_succ]
    refine wpAnyT_ready (rs := [12]) (by kernel_rfl) (by simp) ?_
    refine AllReadyT.cons (i := 12) (o := { dst := some 38, op := Go.Op.call { callee := Go.Callee.value (Go.Operand.func 15), args := #[Go.Operand.tmp 36, Go.Operand.tmp 37], argTypes := #[25, 25] }, type := 4, pos := "law.go:52", after := #[{ on := 10, ground := Go.Ground.data }, { on := 11, ground := Go.Ground.data }, { on := 9, ground := Go.Ground.chain }, { on := 9, ground := Go.Ground.guard }], guard := some (9, false) }) rfl (fun K hK => ?_) ?_
    · go_simp
      refine (same_dec _ (fun _ => True) (fun _ => True) t x _ _ (by exact hHeld.2.1.1) (by exact hHeld.2.1.2.1) (by have := HC.out; omega)).mono ?_
      rintro e w12q ⟨rfl, hb12⟩
      refine hK.out _ _ (⟨⟨box_bel hb12 hHeld.1.1, box_bel hb12 hHeld.1.2.1, box_bel hb12 hHeld.1.2.2.1, box_bel hb12 hHeld.1.2.2.2.1, box_bel hb12 hHeld.1.2.2.2.2⟩, ⟨hHeld.2.1.1.bel hb12, hHeld.2.1.2.1.bel hb12, hHeld.2.1.2.2.1.bel hb12, hHeld.2.1.2.2.2.1.bel hb12, hHeld.2.1.2.2.2.2.bel hb12⟩, bel_trans hHeld.2.2 hb12⟩) (fun hHeld2 => ?_)
      clear hb12
      clear hK K
      replace hHeld := hHeld2
      clear hHeld2
      try simp only [Act.put, List.setIfInBounds_toArray, List.set_cons_zero, List.set_cons_succ]
      refine wpAnyT_ready (rs := [15]) (by kernel_rfl) (by simp) ?_
      refine AllReadyT.cons (i := 15) (o := { dst := some 41, op := Go.Op.call { callee := Go.Callee.value (Go.Operand.func 10), args := #[Go.Operand.tmp 39, Go.Operand.tmp 40], argTypes := #[25, 25] }, type := 4, pos := "law.go:52", after := #[{ on := 13, ground := Go.Ground.data }, { on := 14, ground := Go.Ground.data }, { on := 12, ground := Go.Ground.chain }, { on := 9, ground := Go.Ground.guard }], guard := some (9, false) }) rfl (fun K hK => ?_) ?_
      · go_simp
        refine (rsame_is _ (fun _ => True) (fun _ => True) t x _ _ (by exact hHeld.2.1.1) (by exact hHeld.2.1.2.1)).mono ?_
        rintro e w15q ⟨rfl, hb15⟩
        refine hK.out _ _ (⟨⟨box_bel hb15 hHeld.1.1, box_bel hb15 hHeld.1.2.1, box_bel hb15 hHeld.1.2.2.1, box_bel hb15 hHeld.1.2.2.2.1, box_bel hb15 hHeld.1.2.2.2.2⟩, ⟨hHeld.2.1.1.bel hb15, hHeld.2.1.2.1.bel hb15, hHeld.2.1.2.2.1.bel hb15, hHeld.2.1.2.2.2.1.bel hb15, hHeld.2.1.2.2.2.2.bel hb15⟩, bel_trans hHeld.2.2 hb15⟩) (fun hHeld2 => ?_)
        clear hb15
        clear hK K
        replace hHeld := hHeld2
        clear hHeld2
        try simp only [Act.put, List.setIfInBounds_toArray, List.set_cons_zero, List.set_cons_succ]
        refine wpAnyT_take (i := 16) (v := ?_) [] (oi := { dst := some 42, op := Go.Op.binOp Go.BinOp.neq 4 (Go.Operand.tmp 38) (Go.Operand.tmp 41) 4, type := 4, pos := "law.go:52", after := #[{ on := 12, ground := Go.Ground.data }, { on := 15, ground := Go.Ground.data }, { on := 9, ground := Go.Ground.guard }], guard := some (9, false) }) rfl (by kernel_rfl) (by kernel_rfl) (by kernel_rfl) (by kernel_rfl) (fun _ _ _ h => h) (Or.inl ⟨by rfl, ?_⟩) hHeld ?_
        rotate_left
        · intro wS hSw
          go_simp
          all_goals with_reducible rfl
        simp only [Act.put, List.setIfInBounds_toArray, List.set_cons_zero, List.set_cons_succ]
        refine wpAnyT_take (i := 17) (v := ?_) [] (oi := { dst := some 43, op := Go.Op.pick (Go.Operand.tmp 35) (Go.Operand.const (Go.Value.bool true)) (Go.Operand.tmp 42), type := 4, pos := "law.go:52", after := #[{ on := 9, ground := Go.Ground.data }, { on := 16, ground := Go.Ground.data }], guard := none }) rfl (by kernel_rfl) (by kernel_rfl) (by kernel_rfl) (by kernel_rfl) (fun _ _ _ h => h) (Or.inl ⟨by rfl, ?_⟩) hHeld ?_
        rotate_left
        · intro wS hSw
          go_simp
          all_goals with_reducible rfl
        simp only [Act.put, List.setIfInBounds_toArray, List.set_cons_zero, List.set_cons_succ]
        refine wpAnyT_take (i := 18) (v := ?_) [] (oi := { dst := some 44, op := Go.Op.move (Go.Operand.tmp 43), type := 4, pos := "law.go:52", after := #[{ on := 17, ground := Go.Ground.data }, { on := 15, ground := Go.Ground.chain }], guard := none }) rfl (by kernel_rfl) (by kernel_rfl) (by kernel_rfl) (by kernel_rfl) (fun _ _ _ h => h) (Or.inl ⟨by rfl, ?_⟩) hHeld ?_
        rotate_left
        · intro wS hSw
          go_simp
          all_goals with_reducible rfl
        simp only [Act.put, List.setIfInBounds_toArray, List.set_cons_zero, List.set_cons_succ]
        refine wpAnyT_ready (rs := [19]) (by kernel_rfl) (by simp) ?_
        refine AllReadyT.cons (i := 19) (o := { dst := some 45, op := Go.Op.call { callee := Go.Callee.value (Go.Operand.func 11), args := #[], argTypes := #[] }, type := 4, pos := "law.go:52", after := #[{ on := 18, ground := Go.Ground.chain }, { on := 18, ground := Go.Ground.guard }], guard := some (18, false) }) rfl (fun K hK => ?_) ?_
        · go_simp
          refine (lreads_at _ (by exact HG.out.grown (gb_below (r := none) hHeld.2.2) (by simp))).mono ?_
          rintro e w19q ⟨rfl, hb19⟩
          refine hK.out _ _ (⟨⟨box_bel hb19 hHeld.1.1, box_bel hb19 hHeld.1.2.1, box_bel hb19 hHeld.1.2.2.1, box_bel hb19 hHeld.1.2.2.2.1, box_bel hb19 hHeld.1.2.2.2.2⟩, ⟨hHeld.2.1.1.bel hb19, hHeld.2.1.2.1.bel hb19, hHeld.2.1.2.2.1.bel hb19, hHeld.2.1.2.2.2.1.bel hb19, hHeld.2.1.2.2.2.2.bel hb19⟩, bel_trans hHeld.2.2 hb19⟩) (fun hHeld2 => ?_)
          clear hb19
          clear hK K
          replace hHeld := hHeld2
          clear hHeld2
          try simp only [Act.put, List.setIfInBounds_toArray, List.set_cons_zero, List.set_cons_succ]
          refine wpAnyT_take (i := 20) (v := ?_) [] (oi := { dst := some 46, op := Go.Op.unOp Go.UnOp.not 4 (Go.Operand.tmp 45), type := 4, pos := "law.go:52", after := #[{ on := 19, ground := Go.Ground.data }, { on := 18, ground := Go.Ground.guard }], guard := some (18, false) }) rfl (by kernel_rfl) (by kernel_rfl) (by kernel_rfl) (by kernel_rfl) (fun _ _ _ h => h) (Or.inl ⟨by rfl, ?_⟩) hHeld ?_
          rotate_left
          · intro wS hSw
            go_simp
            all_goals with_reducible rfl
          simp only [Act.put, List.setIfInBounds_toArray, List.set_cons_zero, List.set_cons_succ]
          refine wpAnyT_take (i := 21) (v := ?_) [] (oi := { dst := some 47, op := Go.Op.pick (Go.Operand.tmp 44) (Go.Operand.const (Go.Value.bool true)) (Go.Operand.tmp 46), type := 4, pos := "law.go:52", after := #[{ on := 18, ground := Go.Ground.data }, { on := 20, ground := Go.Ground.data }], guard := none }) rfl (by kernel_rfl) (by kernel_rfl) (by kernel_rfl) (by kernel_rfl) (fun _ _ _ h => h) (Or.inl ⟨by rfl, ?_⟩) hHeld ?_
          rotate_left
          · intro wS hSw
            go_simp
            all_goals with_reducible rfl
          simp only [Act.put, List.setIfInBounds_toArray, List.set_cons_zero, List.set_cons_succ]
          refine wpAnyT_done (by kernel_rfl) ?_ _
          have K40 : Hid _ := hidI hHeld
          clear hHeld
          obtain ⟨x00, x01, x02, x03, x04, -⟩ := K40.out.1.1.c
          obtain ⟨x10, x11, x12, x13, x14, -⟩ := K40.out.1.2.1.c
          obtain ⟨x20, x21, x22, x23, x24, -⟩ := K40.out.1.2.2.1.c
          obtain ⟨x30, x31, x32, x33, x34, -⟩ := K40.out.1.2.2.2.1.c
          obtain ⟨x40, x41, x42, x43, x44, -⟩ := K40.out.1.2.2.2.2.c
          go_wp2_with fail
          refine (rgood_is _ (fun _ => True) t _ (by exact K40.out.2.1.1) (by have := HC.out; omega)).mono ?_
          rintro e w41 ⟨rfl, hb41⟩
          have K41 : Hid ((BoxIs w41 w.heap.size (.int .i64 t.kind) (.int .i64 t.n) (.string ⟨t.s.toArray⟩) (.slice a1 t.keys.length c1) (.slice b1 t.l.length d1) ∧ BoxIs w41 (w.heap.size + 1) (.int .i64 x.kind) (.int .i64 x.n) (.string ⟨x.s.toArray⟩) (.slice a2 x.keys.length c2) (.slice b2 x.l.length d2) ∧ BoxIs w41 w1.heap.size (.int .i64 t.kind) (.int .i64 t.n) (.string ⟨t.s.toArray⟩) (.slice a3 t.keys.length c3) (.slice b3 t.l.length d3) ∧ BoxIs w41 w2.heap.size (.int .i64 m.kind) (.int .i64 m.n) (.string ⟨m.s.toArray⟩) (.slice a4 m.keys.length c4) (.slice b4 m.l.length d4) ∧ BoxIs w41 w3.heap.size (.int .i64 m.kind) (.int .i64 m.n) (.string ⟨m.s.toArray⟩) (.slice a5 m.keys.length c5) (.slice b5 m.l.length d5)) ∧ (In w41 (fun _ => True) t (.agg #[.int .i64 t.kind, .int .i64 t.n, .string ⟨t.s.toArray⟩, .slice a1 t.keys.length c1, .slice b1 t.l.length d1]) ∧ In w41 (fun _ => True) x (.agg #[.int .i64 x.kind, .int .i64 x.n, .string ⟨x.s.toArray⟩, .slice a2 x.keys.length c2, .slice b2 x.l.length d2]) ∧ In w41 (fun _ => True) t (.agg #[.int .i64 t.kind, .int .i64 t.n, .string ⟨t.s.toArray⟩, .slice a3 t.keys.length c3, .slice b3 t.l.length d3]) ∧ In w41 (fun _ => True) m (.agg #[.int .i64 m.kind, .int .i64 m.n, .string ⟨m.s.toArray⟩, .slice a4 m.keys.length c4, .slice b4 m.l.length d4]) ∧ In w41 (fun _ => True) m (.agg #[.int .i64 m.kind, .int .i64 m.n, .string ⟨m.s.toArray⟩, .slice a5 m.keys.length c5, .slice b5 m.l.length d5])) ∧ Below w.heap.size w w41) := hidI ⟨⟨box_bel hb41 K40.out.1.1, box_bel hb41 K40.out.1.2.1, box_bel hb41 K40.out.1.2.2.1, box_bel hb41 K40.out.1.2.2.2.1, box_bel hb41 K40.out.1.2.2.2.2⟩, ⟨K40.out.2.1.1.bel hb41, K40.out.2.1.2.1.bel hb41, K40.out.2.1.2.2.1.bel hb41, K40.out.2.1.2.2.2.1.bel hb41, K40.out.2.1.2.2.2.2.bel hb41⟩, bel_trans K40.out.2.2 hb41⟩
          clear hb41 x00 x01 x02 x03 x04 x10 x11 x12 x13 x14 x20 x21 x22 x23 x24 x30 x31 x32 x33 x34 x40 x41 x42 x43 x44
          obtain ⟨x00, x01, x02, x03, x04, -⟩ := K41.out.1.1.c
          obtain ⟨x10, x11, x12, x13, x14, -⟩ := K41.out.1.2.1.c
          obtain ⟨x20, x21, x22, x23, x24, -⟩ := K41.out.1.2.2.1.c
          obtain ⟨x30, x31, x32, x33, x34, -⟩ := K41.out.1.2.2.2.1.c
          obtain ⟨x40, x41, x42, x43, x44, -⟩ := K41.out.1.2.2.2.2.c
          cases hgd : goodV t with
          | false =>
            go_wp2_with fail
            refine (rsame_is _ (fun _ => True) (fun _ => True) t t _ _ (by exact K41.out.2.1.2.2.1) (by exact K41.out.2.1.1)).mono ?_
            rintro e w42 ⟨rfl, hb42⟩
            have B42 := hidI (bel_trans K41.out.2.2 hb42)
            clear hb42
            go_wp2_with fail
            go_ret
            exact ⟨rfl, B42.out⟩
          | true =>
            by_cases hk5 : t.kind = 5
            · have OB := hidI (ob_of (nice_shaped (nice_of hgd)) hk5)
              have LT : Hid (t.l.length ≤ 100000) := hidI (Nat.le_trans (good_items hgd) (by omega))
              have PT := hidI OB.out.paired
              have e5 : (t.kind != 5) = false := by rw [hk5]; rfl
              have HK := hidI hk5
              clear hk5
              go_upto_region 8 with fail
              refine wp_region_T (fun wS => (BoxIs wS w.heap.size (.int .i64 t.kind) (.int .i64 t.n) (.string ⟨t.s.toArray⟩) (.slice a1 t.keys.length c1) (.slice b1 t.l.length d1) ∧ BoxIs wS (w.heap.size + 1) (.int .i64 x.kind) (.int .i64 x.n) (.string ⟨x.s.toArray⟩) (.slice a2 x.keys.length c2) (.slice b2 x.l.length d2) ∧ BoxIs wS w1.heap.size (.int .i64 t.kind) (.int .i64 t.n) (.string ⟨t.s.toArray⟩) (.slice a3 t.keys.length c3) (.slice b3 t.l.length d3) ∧ BoxIs wS w2.heap.size (.int .i64 m.kind) (.int .i64 m.n) (.string ⟨m.s.toArray⟩) (.slice a4 m.keys.length c4) (.slice b4 m.l.length d4) ∧ BoxIs wS w3.heap.size (.int .i64 m.kind) (.int .i64 m.n) (.string ⟨m.s.toArray⟩) (.slice a5 m.keys.length c5) (.slice b5 m.l.length d5)) ∧ (In wS (fun _ => True) t (.agg #[.int .i64 t.kind, .int .i64 t.n, .string ⟨t.s.toArray⟩, .slice a1 t.keys.length c1, .slice b1 t.l.length d1]) ∧ In wS (fun _ => True) x (.agg #[.int .i64 x.kind, .int .i64 x.n, .string ⟨x.s.toArray⟩, .slice a2 x.keys.length c2, .slice b2 x.l.length d2]) ∧ In wS (fun _ => True) t (.agg #[.int .i64 t.kind, .int .i64 t.n, .string ⟨t.s.toArray⟩, .slice a3 t.keys.length c3, .slice b3 t.l.length d3]) ∧ In wS (fun _ => True) m (.agg #[.int .i64 m.kind, .int .i64 m.n, .string ⟨m.s.toArray⟩, .slice a4 m.keys.length c4, .slice b4 m.l.length d4]) ∧ In wS (fun _ => True) m (.agg #[.int .i64 m.kind, .int .i64 m.n, .string ⟨m.s.toArray⟩, .slice a5 m.keys.length c5, .slice b5 m.l.length d5])) ∧ Below w.heap.size w wS) [] (by kernel_rfl) ⟨⟨box_bel (bel_drewN _ 1) K41.out.1.1, box_bel (bel_drewN _ 1) K41.out.1.2.1, box_bel (bel_drewN _ 1) K41.out.1.2.2.1, box_bel (bel_drewN _ 1) K41.out.1.2.2.2.1, box_bel (bel_drewN _ 1) K41.out.1.2.2.2.2⟩, ⟨K41.out.2.1.1.bel (bel_drewN _ 1), K41.out.2.1.2.1.bel (bel_drewN _ 1), K41.out.2.1.2.2.1.bel (bel_drewN _ 1), K41.out.2.1.2.2.2.1.bel (bel_drewN _ 1), K41.out.2.1.2.2.2.2.bel (bel_drewN _ 1)⟩, bel_trans K41.out.2.2 (bel_drewN _ 1)⟩ (fun hHeld => ?_)
              clear x00 x01 x02 x03 x04 x10 x11 x12 x13 x14 x20 x21 x22 x23 x24 x30 x31 x32 x33 x34 x40 x41 x42 x43 x44
              refine wpAnyT_take (i := 0) (v := ?_) [] (oi := { dst := some 59, op := Go.Op.load 25 (Go.Operand.tmp 7), type := 25, pos := "law.go:58", after := #[], guard := none }) rfl (by kernel_rfl) (by kernel_rfl) (by kernel_rfl) (by kernel_rfl) (fun _ _ _ h => h) (Or.inl ⟨by rfl, ?_⟩) hHeld ?_
              rotate_left
              · intro wS hSw
                obtain ⟨⟨B0, B1, B2, B3, B4⟩, -, -⟩ := hSw
                obtain ⟨y00, y01, y02, y03, y04, -⟩ := B0.c
                obtain ⟨y10, y11, y12, y13, y14, -⟩ := B1.c
                obtain ⟨y20, y21, y22, y23, y24, -⟩ := B2.c
                obtain ⟨y30, y31, y32, y33, y34, -⟩ := B3.c
                obtain ⟨y40, y41, y42, y43, y44, -⟩ := B4.c
                go_simp
                all_goals with_reducible rfl
              simp only [Act.put, List.setIfInBounds_toArray, List.set_cons_zero, List.set_cons_succ]
              refine wpAnyT_take (i := 1) (v := ?_) [] (oi := { dst := some 60, op := Go.Op.move (Go.Operand.tmp 2), type := 9, pos := "law.go:58", after := #[], guard := none }) rfl (by kernel_rfl) (by kernel_rfl) (by kernel_rfl) (by kernel_rfl) (fun _ _ _ h => h) (Or.inl ⟨by rfl, ?_⟩) hHeld ?_
              rotate_left
              · intro wS hSw
                go_simp
                all_goals with_reducible rfl
              simp only [Act.put, List.setIfInBounds_toArray, List.set_cons_zero, List.set_cons_succ]
              refine wpAnyT_take (i := 2) (v := ?_) [] (oi := { dst := some 61, op := Go.Op.load 25 (Go.Operand.tmp 4), type := 25, pos := "law.go:58", after := #[], guard := none }) rfl (by kernel_rfl) (by kernel_rfl) (by kernel_rfl) (by kernel_rfl) (fun _ _ _ h => h) (Or.inl ⟨by rfl, ?_⟩) hHeld ?_
              rotate_left
              · intro wS hSw
                obtain ⟨⟨B0, B1, B2, B3, B4⟩, -, -⟩ := hSw
                obtain ⟨y00, y01, y02, y03, y04, -⟩ := B0.c
                obtain ⟨y10, y11, y12, y13, y14, -⟩ := B1.c
                obtain ⟨y20, y21, y22, y23, y24, -⟩ := B2.c
                obtain ⟨y30, y31, y32, y33, y34, -⟩ := B3.c
                obtain ⟨y40, y41, y42, y43, y44, -⟩ := B4.c
                go_simp
                all_goals with_reducible rfl
              simp only [Act.put, List.setIfInBounds_toArray, List.set_cons_zero, List.set_cons_succ]
              refine wpAnyT_take (i := 4) (v := ?_) [] (oi := { dst := some 63, op := Go.Op.load 25 (Go.Operand.tmp 3), type := 25, pos := "law.go:58", after := #[], guard := none }) rfl (by kernel_rfl) (by kernel_rfl) (by kernel_rfl) (by kernel_rfl) (fun _ _ _ h => h) (Or.inl ⟨by rfl, ?_⟩) hHeld ?_
              rotate_left
              · intro wS hSw
                obtain ⟨⟨B0, B1, B2, B3, B4⟩, -, -⟩ := hSw
                obtain ⟨y00, y01, y02, y03, y04, -⟩ := B0.c
                obtain ⟨y10, y11, y12, y13, y14, -⟩ := B1.c
                obtain ⟨y20, y21, y22, y23, y24, -⟩ := B2.c
                obtain ⟨y30, y31, y32, y33, y34, -⟩ := B3.c
                obtain ⟨y40, y41, y42, y43, y44, -⟩ := B4.c
                go_simp
                all_goals with_reducible rfl
              simp only [Act.put, List.setIfInBounds_toArray, List.set_cons_zero, List.set_cons_succ]
              refine wpAnyT_take (i := 5) (v := ?_) [] (oi := { dst := some 64, op := Go.Op.move (Go.Operand.tmp 2), type := 9, pos := "law.go:58", after := #[], guard := none }) rfl (by kernel_rfl) (by kernel_rfl) (by kernel_rfl) (by kernel_rfl) (fun _ _ _ h => h) (Or.inl ⟨by rfl, ?_⟩) hHeld ?_
              rotate_left
              · intro wS hSw
                go_simp
                all_goals with_reducible rfl
              simp only [Act.put, List.setIfInBounds_toArray, List.set_cons_zero, List.set_cons_succ]
              refine wpAnyT_take (i := 6) (v := ?_) [] (oi := { dst := some 65, op := Go.Op.load 25 (Go.Operand.tmp 4), type := 25, pos := "law.go:58", after := #[], guard := none }) rfl (by kernel_rfl) (by kernel_rfl) (by kernel_rfl) (by kernel_rfl) (fun _ _ _ h => h) (Or.inl ⟨by rfl, ?_⟩) hHeld ?_
              rotate_left
              · intro wS hSw
                obtain ⟨⟨B0, B1, B2, B3, B4⟩, -, -⟩ := hSw
                obtain ⟨y00, y01, y02, y03, y04, -⟩ := B0.c
                obtain ⟨y10, y11, y12, y13, y14, -⟩ := B1.c
                obtain ⟨y20, y21, y22, y23, y24, -⟩ := B2.c
                obtain ⟨y30, y31, y32, y33, y34, -⟩ := B3.c
                obtain ⟨y40, y41, y42, y43, y44, -⟩ := B4.c
                go_simp
                all_goals with_reducible rfl
              simp only [Act.put, List.setIfInBounds_toArray, List.set_cons_zero, List.set_cons_succ]
              refine wpAnyT_ready (rs := [3]) (by kernel_rfl) (by simp) ?_
              refine AllReadyT.cons (i := 3) (o := { dst := some 62, op := Go.Op.call { callee := Go.Callee.value (Go.Operand.func 17), args := #[Go.Operand.tmp 59, Go.Operand.tmp 60, Go.Operand.tmp 61], argTypes := #[25, 9, 25] }, type := 25, pos := "law.go:58", after := #[{ on := 0, ground := Go.Ground.data }, { on := 1, ground := Go.Ground.data }, { on := 2, ground := Go.Ground.data }], guard := none }) rfl (fun K hK => ?_) ?_
              · go_simp
                refine (with_is _ (fun _ => True) t x _ _ key (by exact hHeld.2.1.2.2.1) (by exact hHeld.2.1.2.1) PT.out LT.out (by omega)).mono ?_
                rintro e w3q ⟨r3, rfl, hr3, hb3⟩
                refine hK.out _ _ (⟨⟨box_bel hb3 hHeld.1.1, box_bel hb3 hHeld.1.2.1, box_bel hb3 hHeld.1.2.2.1, box_bel hb3 hHeld.1.2.2.2.1, box_bel hb3 hHeld.1.2.2.2.2⟩, ⟨hHeld.2.1.1.bel hb3, hHeld.2.1.2.1.bel hb3, hHeld.2.1.2.2.1.bel hb3, hHeld.2.1.2.2.2.1.bel hb3, hHeld.2.1.2.2.2.2.bel hb3⟩, bel_trans hHeld.2.2 hb3⟩) (fun hHeld2 => ?_)
                have R3 := hidI (In.weak hr3 (ok' := (fun _ => True)) fun _ _ => trivial)
                clear hr3 hb3
                clear hK K
                replace hHeld := hHeld2
                clear hHeld2
                try simp only [Act.put, List.setIfInBounds_toArray, List.set_cons_zero, List.set_cons_succ]
                refine wpAnyT_ready (rs := [7]) (by kernel_rfl) (by simp) ?_
                refine AllReadyT.cons (i := 7) (o := { dst := some 66, op := Go.Op.call { callee := Go.Callee.value (Go.Operand.func 18), args := #[Go.Operand.tmp 63, Go.Operand.tmp 64, Go.Operand.tmp 65], argTypes := #[25, 9, 25] }, type := 25, pos := "law.go:58", after := #[{ on := 4, ground := Go.Ground.data }, { on := 5, ground := Go.Ground.data }, { on := 6, ground := Go.Ground.data }, { on := 3, ground := Go.Ground.chain }], guard := none }) rfl (fun K hK => ?_) ?_
                · go_simp
                  refine (rwith_is _ (fun _ => True) t x _ _ key (by exact hHeld.2.1.1) (by exact hHeld.2.1.2.1) OB.out LT.out (by omega)).mono ?_
                  rintro e w7q ⟨r7, rfl, hr7, hb7⟩
                  refine hK.out _ _ (⟨⟨box_bel hb7 hHeld.1.1, box_bel hb7 hHeld.1.2.1, box_bel hb7 hHeld.1.2.2.1, box_bel hb7 hHeld.1.2.2.2.1, box_bel hb7 hHeld.1.2.2.2.2⟩, ⟨hHeld.2.1.1.bel hb7, hHeld.2.1.2.1.bel hb7, hHeld.2.1.2.2.1.bel hb7, hHeld.2.1.2.2.2.1.bel hb7, hHeld.2.1.2.2.2.2.bel hb7⟩, bel_trans hHeld.2.2 hb7⟩) (fun hHeld2 => ?_)
                  replace R3 := hidI (R3.out.bel hb7)
                  have R7 := hidI (In.weak hr7 (ok' := (fun _ => True)) fun _ _ => trivial)
                  clear hr7 hb7
                  clear hK K
                  replace hHeld := hHeld2
                  clear hHeld2
                  try simp only [Act.put, List.setIfInBounds_toArray, List.set_cons_zero, List.set_cons_succ]
                  refine wpAnyT_ready (rs := [8]) (by kernel_rfl) (by simp) ?_
                  refine AllReadyT.cons (i := 8) (o := { dst := some 67, op := Go.Op.call { callee := Go.Callee.value (Go.Operand.func 10), args := #[Go.Operand.tmp 62, Go.Operand.tmp 66], argTypes := #[25, 25] }, type := 4, pos := "law.go:58", after := #[{ on := 3, ground := Go.Ground.data }, { on := 7, ground := Go.Ground.data }, { on := 7, ground := Go.Ground.chain }], guard := none }) rfl (fun K hK => ?_) ?_
                  · go_simp
                    refine (rsame_is _ (fun _ => True) (fun _ => True) _ _ _ _ R3.out R7.out).mono ?_
                    rintro e w8q ⟨rfl, hb8⟩
                    refine hK.out _ _ (⟨⟨box_bel hb8 hHeld.1.1, box_bel hb8 hHeld.1.2.1, box_bel hb8 hHeld.1.2.2.1, box_bel hb8 hHeld.1.2.2.2.1, box_bel hb8 hHeld.1.2.2.2.2⟩, ⟨hHeld.2.1.1.bel hb8, hHeld.2.1.2.1.bel hb8, hHeld.2.1.2.2.1.bel hb8, hHeld.2.1.2.2.2.1.bel hb8, hHeld.2.1.2.2.2.2.bel hb8⟩, bel_trans hHeld.2.2 hb8⟩) (fun hHeld2 => ?_)
                    clear hb8 R3 R7
                    clear hK K
                    replace hHeld := hHeld2
                    clear hHeld2
                    try simp only [Act.put, List.setIfInBounds_toArray, List.set_cons_zero, List.set_cons_succ]
                    refine wpAnyT_take (i := 9) (v := ?_) [] (oi := { dst := some 68, op := Go.Op.move (Go.Operand.tmp 67), type := 4, pos := "law.go:58", after := #[{ on := 8, ground := Go.Ground.data }, { on := 8, ground := Go.Ground.chain }], guard := none }) rfl (by kernel_rfl) (by kernel_rfl) (by kernel_rfl) (by kernel_rfl) (fun _ _ _ h => h) (Or.inl ⟨by rfl, ?_⟩) hHeld ?_
                    rotate_left
                    · intro wS hSw
                      go_simp
                      all_goals with_reducible rfl
                    simp only [Act.put, List.setIfInBounds_toArray, List.set_cons_zero, List.set_cons_succ]
                    refine wpAnyT_take (i := 10) (v := ?_) [] (oi := { dst := some 69, op := Go.Op.load 25 (Go.Operand.tmp 7), type := 25, pos := "law.go:58", after := #[{ on := 9, ground := Go.Ground.guard }], guard := some (9, true) }) rfl (by kernel_rfl) (by kernel_rfl) (by kernel_rfl) (by kernel_rfl) (fun _ _ _ h => h) (Or.inl ⟨by rfl, ?_⟩) hHeld ?_
                    rotate_left
                    · intro wS hSw
                      obtain ⟨⟨B0, B1, B2, B3, B4⟩, -, -⟩ := hSw
                      obtain ⟨y00, y01, y02, y03, y04, -⟩ := B0.c
                      obtain ⟨y10, y11, y12, y13, y14, -⟩ := B1.c
                      obtain ⟨y20, y21, y22, y23, y24, -⟩ := B2.c
                      obtain ⟨y30, y31, y32, y33, y34, -⟩ := B3.c
                      obtain ⟨y40, y41, y42, y43, y44, -⟩ := B4.c
                      go_simp
                      all_goals with_reducible rfl
                    simp only [Act.put, List.setIfInBounds_toArray, List.set_cons_zero, List.set_cons_succ]
                    refine wpAnyT_take (i := 11) (v := ?_) [] (oi := { dst := some 70, op := Go.Op.move (Go.Operand.tmp 2), type := 9, pos := "law.go:58", after := #[{ on := 9, ground := Go.Ground.guard }], guard := some (9, true) }) rfl (by kernel_rfl) (by kernel_rfl) (by kernel_rfl) (by kernel_rfl) (fun _ _ _ h => h) (Or.inl ⟨by rfl, ?_⟩) hHeld ?_
                    rotate_left
                    · intro wS hSw
                      go_simp
                      all_goals with_reducible rfl
                    simp only [Act.put, List.setIfInBounds_toArray, List.set_cons_zero, List.set_cons_succ]
                    refine wpAnyT_take (i := 13) (v := ?_) [] (oi := { dst := some 72, op := Go.Op.load 25 (Go.Operand.tmp 3), type := 25, pos := "law.go:58", after := #[{ on := 9, ground := Go.Ground.guard }], guard := some (9, true) }) rfl (by kernel_rfl) (by kernel_rfl) (by kernel_rfl) (by kernel_rfl) (fun _ _ _ h => h) (Or.inl ⟨by rfl, ?_⟩) hHeld ?_
                    rotate_left
                    · intro wS hSw
                      obtain ⟨⟨B0, B1, B2, B3, B4⟩, -, -⟩ := hSw
                      obtain ⟨y00, y01, y02, y03, y04, -⟩ := B0.c
                      obtain ⟨y10, y11, y12, y13, y14, -⟩ := B1.c
                      obtain ⟨y20, y21, y22, y23, y24, -⟩ := B2.c
                      obtain ⟨y30, y31, y32, y33, y34, -⟩ := B3.c
                      obtain ⟨y40, y41, y42, y43, y44, -⟩ := B4.c
                      go_simp
                      all_goals with_reducible rfl
                    simp only [Act.put, List.setIfInBounds_toArray, List.set_cons_zero, List.set_cons_succ]
                    refine wpAnyT_take (i := 14) (v := ?_) [] (oi := { dst := some 73, op := Go.Op.move (Go.Operand.tmp 2), type := 9, pos := "law.go:58", after := #[{ on := 9, ground := Go.Ground.guard }], guard := some (9, true) }) rfl (by kernel_rfl) (by kernel_rfl) (by kernel_rfl) (by kernel_rfl) (fun _ _ _ h => h) (Or.inl ⟨by rfl, ?_⟩) hHeld ?_
                    rotate_left
                    · intro wS hSw
                      go_simp
                      all_goals with_reducible rfl
                    simp only [Act.put, List.setIfInBounds_toArray, List.set_cons_zero, List.set_cons_succ]
                    refine wpAnyT_ready (rs := [12]) (by kernel_rfl) (by simp) ?_
                    refine AllReadyT.cons (i := 12) (o := { dst := some 71, op := Go.Op.call { callee := Go.Callee.value (Go.Operand.func 19), args := #[Go.Operand.tmp 69, Go.Operand.tmp 70], argTypes := #[25, 9] }, type := 25, pos := "law.go:58", after := #[{ on := 10, ground := Go.Ground.data }, { on := 11, ground := Go.Ground.data }, { on := 9, ground := Go.Ground.chain }, { on := 9, ground := Go.Ground.guard }], guard := some (9, true) }) rfl (fun K hK => ?_) ?_
                    · go_simp
                      refine (without_is _ (fun _ => True) t _ key (by exact hHeld.2.1.2.2.1) LT.out).mono ?_
                      rintro e w12q ⟨r12, rfl, hr12, hb12⟩
                      refine hK.out _ _ (⟨⟨box_bel hb12 hHeld.1.1, box_bel hb12 hHeld.1.2.1, box_bel hb12 hHeld.1.2.2.1, box_bel hb12 hHeld.1.2.2.2.1, box_bel hb12 hHeld.1.2.2.2.2⟩, ⟨hHeld.2.1.1.bel hb12, hHeld.2.1.2.1.bel hb12, hHeld.2.1.2.2.1.bel hb12, hHeld.2.1.2.2.2.1.bel hb12, hHeld.2.1.2.2.2.2.bel hb12⟩, bel_trans hHeld.2.2 hb12⟩) (fun hHeld2 => ?_)
                      have R12 := hidI (In.weak hr12 (ok' := (fun _ => True)) fun _ _ => trivial)
                      clear hr12 hb12
                      clear hK K
                      replace hHeld := hHeld2
                      clear hHeld2
                      try simp only [Act.put, List.setIfInBounds_toArray, List.set_cons_zero, List.set_cons_succ]
                      refine wpAnyT_ready (rs := [15]) (by kernel_rfl) (by simp) ?_
                      refine AllReadyT.cons (i := 15) (o := { dst := some 74, op := Go.Op.call { callee := Go.Callee.value (Go.Operand.func 20), args := #[Go.Operand.tmp 72, Go.Operand.tmp 73], argTypes := #[25, 9] }, type := 25, pos := "law.go:58", after := #[{ on := 13, ground := Go.Ground.data }, { on := 14, ground := Go.Ground.data }, { on := 12, ground := Go.Ground.chain }, { on := 9, ground := Go.Ground.guard }], guard := some (9, true) }) rfl (fun K hK => ?_) ?_
                      · go_simp
                        refine (rwithout_is _ (fun _ => True) t _ key (by exact hHeld.2.1.1) OB.out LT.out).mono ?_
                        rintro e w15q ⟨r15, rfl, hr15, hb15⟩
                        refine hK.out _ _ (⟨⟨box_bel hb15 hHeld.1.1, box_bel hb15 hHeld.1.2.1, box_bel hb15 hHeld.1.2.2.1, box_bel hb15 hHeld.1.2.2.2.1, box_bel hb15 hHeld.1.2.2.2.2⟩, ⟨hHeld.2.1.1.bel hb15, hHeld.2.1.2.1.bel hb15, hHeld.2.1.2.2.1.bel hb15, hHeld.2.1.2.2.2.1.bel hb15, hHeld.2.1.2.2.2.2.bel hb15⟩, bel_trans hHeld.2.2 hb15⟩) (fun hHeld2 => ?_)
                        replace R12 := hidI (R12.out.bel hb15)
                        have R15 := hidI (In.weak hr15 (ok' := (fun _ => True)) fun _ _ => trivial)
                        clear hr15 hb15
                        clear hK K
                        replace hHeld := hHeld2
                        clear hHeld2
                        try simp only [Act.put, List.setIfInBounds_toArray, List.set_cons_zero, List.set_cons_succ]
                        refine wpAnyT_ready (rs := [16]) (by kernel_rfl) (by simp) ?_
                        refine AllReadyT.cons (i := 16) (o := { dst := some 75, op := Go.Op.call { callee := Go.Callee.value (Go.Operand.func 10), args := #[Go.Operand.tmp 71, Go.Operand.tmp 74], argTypes := #[25, 25] }, type := 4, pos := "law.go:58", after := #[{ on := 12, ground := Go.Ground.data }, { on := 15, ground := Go.Ground.data }, { on := 15, ground := Go.Ground.chain }, { on := 9, ground := Go.Ground.guard }], guard := some (9, true) }) rfl (fun K hK => ?_) ?_
                        · go_simp
                          refine (rsame_is _ (fun _ => True) (fun _ => True) _ _ _ _ R12.out R15.out).mono ?_
                          rintro e w16q ⟨rfl, hb16⟩
                          refine hK.out _ _ (⟨⟨box_bel hb16 hHeld.1.1, box_bel hb16 hHeld.1.2.1, box_bel hb16 hHeld.1.2.2.1, box_bel hb16 hHeld.1.2.2.2.1, box_bel hb16 hHeld.1.2.2.2.2⟩, ⟨hHeld.2.1.1.bel hb16, hHeld.2.1.2.1.bel hb16, hHeld.2.1.2.2.1.bel hb16, hHeld.2.1.2.2.2.1.bel hb16, hHeld.2.1.2.2.2.2.bel hb16⟩, bel_trans hHeld.2.2 hb16⟩) (fun hHeld2 => ?_)
                          clear hb16 R12 R15
                          clear hK K
                          replace hHeld := hHeld2
                          clear hHeld2
                          try simp only [Act.put, List.setIfInBounds_toArray, List.set_cons_zero, List.set_cons_succ]
                          refine wpAnyT_take (i := 17) (v := ?_) [] (oi := { dst := some 76, op := Go.Op.pick (Go.Operand.tmp 68) (Go.Operand.tmp 75) (Go.Operand.const (Go.Value.bool false)), type := 4, pos := "law.go:58", after := #[{ on := 9, ground := Go.Ground.data }, { on := 16, ground := Go.Ground.data }], guard := none }) rfl (by kernel_rfl) (by kernel_rfl) (by kernel_rfl) (by kernel_rfl) (fun _ _ _ h => h) (Or.inl ⟨by rfl, ?_⟩) hHeld ?_
                          rotate_left
                          · intro wS hSw
                            go_simp
                            all_goals with_reducible rfl
                          simp only [Act.put, List.setIfInBounds_toArray, List.set_cons_zero, List.set_cons_succ]
                          refine wpAnyT_take (i := 18) (v := ?_) [] (oi := { dst := some 77, op := Go.Op.move (Go.Operand.tmp 76), type := 4, pos := "law.go:58", after := #[{ on := 17, ground := Go.Ground.data }, { on := 16, ground := Go.Ground.chain }], guard := none }) rfl (by kernel_rfl) (by kernel_rfl) (by kernel_rfl) (by kernel_rfl) (fun _ _ _ h => h) (Or.inl ⟨by rfl, ?_⟩) hHeld ?_
                          rotate_left
                          · intro wS hSw
                            go_simp
                            all_goals with_reducible rfl
                          simp only [Act.put, List.setIfInBounds_toArray, List.set_cons_zero, List.set_cons_succ]
                          refine wpAnyT_take (i := 19) (v := ?_) [] (oi := { dst := some 78, op := Go.Op.load 25 (Go.Operand.tmp 7), type := 25, pos := "law.go:58", after := #[{ on := 18, ground := Go.Ground.guard }], guard := some (18, true) }) rfl (by kernel_rfl) (by kernel_rfl) (by kernel_rfl) (by kernel_rfl) (fun _ _ _ h => h) (Or.inl ⟨by rfl, ?_⟩) hHeld ?_
                          rotate_left
                          · intro wS hSw
                            obtain ⟨⟨B0, B1, B2, B3, B4⟩, -, -⟩ := hSw
                            obtain ⟨y00, y01, y02, y03, y04, -⟩ := B0.c
                            obtain ⟨y10, y11, y12, y13, y14, -⟩ := B1.c
                            obtain ⟨y20, y21, y22, y23, y24, -⟩ := B2.c
                            obtain ⟨y30, y31, y32, y33, y34, -⟩ := B3.c
                            obtain ⟨y40, y41, y42, y43, y44, -⟩ := B4.c
                            go_simp
                            all_goals with_reducible rfl
                          simp only [Act.put, List.setIfInBounds_toArray, List.set_cons_zero, List.set_cons_succ]
                          refine wpAnyT_take (i := 20) (v := ?_) [] (oi := { dst := some 79, op := Go.Op.load 25 (Go.Operand.tmp 3), type := 25, pos := "law.go:58", after := #[{ on := 18, ground := Go.Ground.guard }], guard := some (18, true) }) rfl (by kernel_rfl) (by kernel_rfl) (by kernel_rfl) (by kernel_rfl) (fun _ _ _ h => h) (Or.inl ⟨by rfl, ?_⟩) hHeld ?_
                          rotate_left
                          · intro wS hSw
                            obtain ⟨⟨B0, B1, B2, B3, B4⟩, -, -⟩ := hSw
                            obtain ⟨y00, y01, y02, y03, y04, -⟩ := B0.c
                            obtain ⟨y10, y11, y12, y13, y14, -⟩ := B1.c
                            obtain ⟨y20, y21, y22, y23, y24, -⟩ := B2.c
                            obtain ⟨y30, y31, y32, y33, y34, -⟩ := B3.c
                            obtain ⟨y40, y41, y42, y43, y44, -⟩ := B4.c
                            go_simp
                            all_goals with_reducible rfl
                          simp only [Act.put, List.setIfInBounds_toArray, List.set_cons_zero, List.set_cons_succ]
                          refine wpAnyT_ready (rs := [21]) (by kernel_rfl) (by simp) ?_
                          refine AllReadyT.cons (i := 21) (o := { dst := some 80, op := Go.Op.call { callee := Go.Callee.value (Go.Operand.func 10), args := #[Go.Operand.tmp 78, Go.Operand.tmp 79], argTypes := #[25, 25] }, type := 4, pos := "law.go:58", after := #[{ on := 19, ground := Go.Ground.data }, { on := 20, ground := Go.Ground.data }, { on := 18, ground := Go.Ground.chain }, { on := 18, ground := Go.Ground.guard }], guard := some (18, true) }) rfl (fun K hK => ?_) ?_
                          · go_simp
                            refine (rsame_is _ (fun _ => True) (fun _ => True) t t _ _ (by exact hHeld.2.1.2.2.1) (by exact hHeld.2.1.1)).mono ?_
                            rintro e w21q ⟨rfl, hb21⟩
                            refine hK.out _ _ (⟨⟨box_bel hb21 hHeld.1.1, box_bel hb21 hHeld.1.2.1, box_bel hb21 hHeld.1.2.2.1, box_bel hb21 hHeld.1.2.2.2.1, box_bel hb21 hHeld.1.2.2.2.2⟩, ⟨hHeld.2.1.1.bel hb21, hHeld.2.1.2.1.bel hb21, hHeld.2.1.2.2.1.bel hb21, hHeld.2.1.2.2.2.1.bel hb21, hHeld.2.1.2.2.2.2.bel hb21⟩, bel_trans hHeld.2.2 hb21⟩) (fun hHeld2 => ?_)
                            clear hb21
                            clear hK K
                            replace hHeld := hHeld2
                            clear hHeld2
                            try simp only [Act.put, List.setIfInBounds_toArray, List.set_cons_zero, List.set_cons_succ]
                            refine wpAnyT_take (i := 22) (v := ?_) [] (oi := { dst := some 81, op := Go.Op.pick (Go.Operand.tmp 77) (Go.Operand.tmp 80) (Go.Operand.const (Go.Value.bool false)), type := 4, pos := "law.go:58", after := #[{ on := 18, ground := Go.Ground.data }, { on := 21, ground := Go.Ground.data }], guard := none }) rfl (by kernel_rfl) (by kernel_rfl) (by kernel_rfl) (by kernel_rfl) (fun _ _ _ h => h) (Or.inl ⟨by rfl, ?_⟩) hHeld ?_
                            rotate_left
                            · intro wS hSw
                              go_simp
                              all_goals with_reducible rfl
                            simp only [Act.put, List.setIfInBounds_toArray, List.set_cons_zero, List.set_cons_succ]
                            refine wpAnyT_take (i := 23) (v := ?_) [] (oi := { dst := some 6, op := Go.Op.assign (Go.Operand.tmp 81), type := 4, pos := "law.go:58", after := #[{ on := 22, ground := Go.Ground.data }, { on := 21, ground := Go.Ground.chain }, { on := 0, ground := Go.Ground.phase }, { on := 1, ground := Go.Ground.phase }, { on := 2, ground := Go.Ground.phase }, { on := 3, ground := Go.Ground.phase }, { on := 4, ground := Go.Ground.phase }, { on := 5, ground := Go.Ground.phase }, { on := 6, ground := Go.Ground.phase }, { on := 7, ground := Go.Ground.phase }, { on := 8, ground := Go.Ground.phase }, { on := 9, ground := Go.Ground.phase }, { on := 10, ground := Go.Ground.phase }, { on := 11, ground := Go.Ground.phase }, { on := 12, ground := Go.Ground.phase }, { on := 13, ground := Go.Ground.phase }, { on := 14, ground := Go.Ground.phase }, { on := 15, ground := Go.Ground.phase }, { on := 16, ground := Go.Ground.phase }, { on := 17, ground := Go.Ground.phase }, { on := 18, ground := Go.Ground.phase }, { on := 19, ground := Go.Ground.phase }, { on := 20, ground := Go.Ground.phase }, { on := 21, ground := Go.Ground.phase }, { on := 22, ground := Go.Ground.phase }], guard := none }) rfl (by kernel_rfl) (by kernel_rfl) (by kernel_rfl) (by kernel_rfl) (fun _ _ _ h => h) (Or.inl ⟨by rfl, ?_⟩) hHeld ?_
                            rotate_left
                            · intro wS hSw
                              go_simp
                              all_goals with_reducible rfl
                            simp only [Act.put, List.setIfInBounds_toArray, List.set_cons_zero, List.set_cons_succ]
                            refine wpAnyT_done (by kernel_rfl) ?_ _
                            go_wp2_with fail
                            go_ret
                            exact ⟨rfl, hHeld.2.2⟩
                          exact AllReadyT.nil
                        exact AllReadyT.nil
                      exact AllReadyT.nil
                    exact AllReadyT.nil
                  exact AllReadyT.nil
                exact AllReadyT.nil
              exact AllReadyT.nil
            · have e5 : (t.kind != 5) = true := by rw [bne_iff_ne]; exact hk5
              clear hk5
              go_wp2_with fail
              refine (rsame_is _ (fun _ => True) (fun _ => True) t t _ _ (by exact K41.out.2.1.2.2.1) (by exact K41.out.2.1.1)).mono ?_
              rintro e w42 ⟨rfl, hb42⟩
              have B42 := hidI (bel_trans K41.out.2.2 hb42)
              clear hb42
              go_wp2_with fail
              go_ret
              exact ⟨rfl, B42.out⟩
        exact AllReadyT.nil
      exact AllReadyT.nil
    exact AllReadyT.nil
  exact AllReadyT.nil
end Go.Proofs.YtfbddgpekbhpfaaDoor

/- What is read of an argument that is a value, and how much there is in it. -/
set_option linter.unusedSimpArgs false
set_option linter.unusedVariables false
namespace Go.Proofs.YtfbddgpekbhpfaaDoor
open Go.ChangeShapes Go.WideShapes Go.ChangeAt Go.RowKit
set_option maxRecDepth 100000

theorem bulk_one {H : Type} (d : DataW H) : 1 ≤ Rows.uptoBulk d := by
  cases d with
  | lit l => cases l <;> simp [Rows.uptoBulk]
  | nil => simp [Rows.uptoBulk]
  | ptr d => simp [Rows.uptoBulk]
  | slice elems spare => simp [Rows.uptoBulk]
  | agg parts => simp [Rows.uptoBulk]
  | iface t d => simp [Rows.uptoBulk]
  | map entries => simp [Rows.uptoBulk]
  | held h => simp [Rows.uptoBulk]
theorem bulk_len {H : Type} (l : List (DataW H)) : l.length ≤ Rows.uptoBulkAll l := by
  induction l with
  | nil => simp [Rows.uptoBulkAll]
  | cons x r ih => have := bulk_one x; simp only [Rows.uptoBulkAll, List.length_cons]; omega
theorem bulk_mem {H : Type} {d : DataW H} {l : List (DataW H)} (h : d ∈ l) : Rows.uptoBulk d ≤ Rows.uptoBulkAll l := by
  induction l with
  | nil => cases h
  | cons x r ih =>
    simp only [Rows.uptoBulkAll]
    rcases List.mem_cons.1 h with rfl | e
    · omega
    · have := ih e; omega
theorem bulk_sizs {H : Type} : ∀ (l : List V) (es : List (DataW H)), l.length = es.length → (∀ (i : Nat) (x : V) (e : DataW H), l[i]? = some x → es[i]? = some e → siz x ≤ Rows.uptoBulk e) → sizs l ≤ Rows.uptoBulkAll es
  | [], es, _, _ => by simp [sizs]
  | x :: l, [], h, _ => by simp at h
  | x :: l, e :: es, h, hh => by
    have h1 := hh 0 x e rfl rfl
    have h2 := bulk_sizs l es (by simpa using h) fun i y f hy hf => hh (i + 1) y f (by simpa using hy) (by simpa using hf)
    rw [sizs_cons]
    simp only [Rows.uptoBulkAll]
    omega
theorem strs_bulk {H : Type} {enc : TypeId × Value → H} {W : World} {fuel : Nat} {v : Value} {x : DataW H × List MemPlace} (h : DataW.trod enc Tryd.prog W 0 (fun _ => true) true fuel 22 [v] = some x) {ks : List (List UInt8)} (hk : StrsAre W (fun _ => True) ks v) : ks.length ≤ Rows.uptoBulk x.1 := by
  rcases open_strings Tryd.underlying22 Tryd.underlying9 cellsString h with ⟨e, -⟩ | ⟨a, len, cap, ss, e, -, hl, hm, hss, hx, hc, hz⟩
  · simp only [List.cons.injEq, and_true] at e
    subst e
    rcases hk.2 with ⟨h1, -⟩ | ⟨b, off, c, h1, -⟩
    · rw [h1]; simp
    · simp at h1
  · simp only [List.cons.injEq, and_true] at e
    subst e
    simp only [if_true] at hss
    have hlen : ks.length = len := by
      rcases hk.2 with ⟨h1, a0, h2⟩ | ⟨b, off, c, h1, -⟩
      · simp only [Value.slice.injEq] at h2; rw [h1, h2.2.1]; rfl
      · simp only [Value.slice.injEq] at h1; exact h1.2.1.symm
    subst hx
    have h1 := bulk_len (strs (H := H) (ss.take len))
    have h2 : (strs (H := H) (ss.take len)).length = len := by simp [strs]; omega
    simp only [Rows.uptoBulk]
    omega
theorem vis_bulk {H : Type} {enc : TypeId × Value → H} {W : World} (fuel : Nat) : ∀ (cs : List Value) (x : DataW H × List MemPlace), DataW.trod enc Tryd.prog W 0 (fun _ => true) true fuel 25 cs = some x →
    ∃ t v0 v1 v2 v3 v4, cs = [v0, v1, v2, v3, v4] ∧ VIs W (fun _ => True) fuel t (.agg #[v0, v1, v2, v3, v4]) ∧ siz t ≤ Rows.uptoBulk x.1 := by
  induction fuel with
  | zero => intro cs x h; simp [DataW.trod] at h
  | succ fuel ih =>
    intro cs x h
    obtain ⟨xs, n, e, hx, hl, hlen, hf⟩ := DataW.trod_struct Tryd.underlying25 h
    obtain rfl : n = fuel := by omega
    rw [cellsValue] at hl
    match cs, hl, xs, hlen with
    | [v0, v1, v2, v3, v4], _, [y0, y1, y2, y3, y4], _ =>
      have g0 : DataW.trod enc Tryd.prog W 0 (fun _ => true) true n 3 [v0] = some y0 := by simpa [cellsInt] using hf 0 _ rfl
      have g1 : DataW.trod enc Tryd.prog W 0 (fun _ => true) true n 3 [v1] = some y1 := by simpa [cellsInt] using hf 1 _ rfl
      have g2 : DataW.trod enc Tryd.prog W 0 (fun _ => true) true n 9 [v2] = some y2 := by simpa [cellsString] using hf 2 _ rfl
      have g3 : DataW.trod enc Tryd.prog W 0 (fun _ => true) true n 22 [v3] = some y3 := by simpa [cellsStrs] using hf 3 _ rfl
      have g4 : DataW.trod enc Tryd.prog W 0 (fun _ => true) true n 23 [v4] = some y4 := by simpa [cellsVals] using hf 4 _ rfl
      obtain ⟨z0, e0, -, w0⟩ := DataW.trod_int Tryd.underlying3 g0
      obtain ⟨z1, e1, -, w1⟩ := DataW.trod_int Tryd.underlying3 g1
      obtain ⟨s, e2, -, hs⟩ := DataW.trod_string Tryd.underlying9 g2
      simp only [List.cons.injEq, and_true] at e0 e1 e2
      subst e0
      subst e1
      subst e2
      obtain ⟨ks, hks⟩ := strs_of g3
      have hkb := strs_bulk g3 hks
      have hvals : ∃ l, ValsAre W (fun _ => True) (VIs W (fun _ => True) n) l v4 ∧ sizs l ≤ Rows.uptoBulk y4.1 := by
        rcases DataW.trod_slice Tryd.underlying23 g4 with ⟨e, -⟩ | ⟨a, len, cap, elems, rest, k, ek, e, hy4, -, hl, hm, hlen, hel, hsp, -⟩
        · simp only [List.cons.injEq, and_true] at e
          exact ⟨[], ⟨by simp [maxLen], .inl ⟨rfl, none, e⟩⟩, by simp [sizs]⟩
        · simp only [List.cons.injEq, and_true] at e
          rw [cellsValue] at hel hsp
          have all : ∀ i, i < len → ∃ cs' y, W.cells? 0 (a.add (i * 5)) 5 = some cs' ∧ DataW.trod enc Tryd.prog W 0 (fun _ => true) true k 25 cs' = some y ∧ elems[i]? = some y := by
            intro i hil
            have := hel i hil
            rw [List.getElem?_eq_getElem (by omega)] at this
            obtain ⟨cs', h1, h2⟩ := Option.bind_eq_some_iff.1 this
            exact ⟨cs', _, h1, h2, List.getElem?_eq_getElem (by omega)⟩
          by_cases h0 : len = 0
          · subst h0
            have he : elems = [] := List.eq_nil_of_length_eq_zero hlen
            by_cases hc : cap = 0
            · subst hc
              exact ⟨[], ⟨by simp [maxLen], .inl ⟨rfl, some a, e⟩⟩, by simp [sizs]⟩
            · have ha : a = ⟨a.block, a.off, none⟩ := by
                obtain ⟨hrl, hrest⟩ := hsp rfl
                have := hrest 0 (by omega)
                rw [List.getElem?_eq_getElem (by omega)] at this
                obtain ⟨cs', h1, h2⟩ := Option.bind_eq_some_iff.1 this
                obtain ⟨-, h2, h3⟩ := World.cells?_some h1
                have := h3 0 (by omega)
                rw [List.getElem?_eq_getElem (by omega)] at this
                exact addr_plain (spot_none (v := cs'[0]) (by simpa [Addr.add] using this))
              exact ⟨[], ⟨by simp [maxLen], .inr ⟨a.block, a.off, cap, by rw [← ha]; exact e, by simp, hm, fun i t ht => by simp at ht⟩⟩, by simp [sizs]⟩
          · have ha : a = ⟨a.block, a.off, none⟩ := by
              obtain ⟨cs', y, h1, -⟩ := all 0 (by omega)
              obtain ⟨-, h2, h3⟩ := World.cells?_some h1
              have := h3 0 (by omega)
              rw [List.getElem?_eq_getElem (by omega)] at this
              exact addr_plain (spot_none (v := cs'[0]) (by simpa [Addr.add] using this))
            obtain ⟨T, hT⟩ := @Go.Deep.choose_lt V ⟨⟨0, 0, [], [], []⟩⟩ len (fun i t => ∃ v0 v1 v2 v3 v4 y, W.cells? 0 (a.add (i * 5)) 5 = some [v0, v1, v2, v3, v4] ∧ VIs W (fun _ => True) n t (.agg #[v0, v1, v2, v3, v4]) ∧ elems[i]? = some y ∧ siz t ≤ Rows.uptoBulk y.1) (fun i hi => by
              obtain ⟨cs', y, h1, h2, h3⟩ := all i hi
              obtain ⟨t, v0, v1, v2, v3, v4, rfl, hv, hz⟩ := ih cs' y (DataW.trod_le (by omega) h2)
              exact ⟨t, v0, v1, v2, v3, v4, y, h1, hv, h3, hz⟩)
            refine ⟨(List.range len).map T, ⟨by simp only [List.length_map, List.length_range]; omega, .inr ⟨a.block, a.off, cap, by simp only [List.length_map, List.length_range]; rw [← ha]; exact e, by simp only [List.length_map, List.length_range]; omega, hm, fun i t ht => ?_⟩⟩, ?_⟩
            · simp only [List.getElem?_map, Option.map_eq_some_iff] at ht
              obtain ⟨j, hj, rfl⟩ := ht
              obtain ⟨hj1, hj2⟩ := List.getElem?_eq_some_iff.1 hj
              simp only [List.length_range] at hj1
              simp only [List.getElem_range] at hj2
              subst hj2
              obtain ⟨v0, v1, v2, v3, v4, y, h1, hv, -⟩ := hT i hj1
              obtain ⟨-, -, h3⟩ := World.cells?_some h1
              rw [ha] at h3
              have c : ∀ q, q < 5 → W.cell? ⟨a.block, a.off + i * 5 + q, none⟩ = [v0, v1, v2, v3, v4][q]? := by
                intro q hq
                have := h3 q hq
                rw [addr_add, addr_add] at this
                exact this
              exact ⟨v0, v1, v2, v3, v4, trivial, c 0 (by omega), c 1 (by omega), c 2 (by omega), c 3 (by omega), c 4 (by omega), hv⟩
            · have hb : sizs ((List.range len).map T) ≤ Rows.uptoBulkAll (elems.map (·.1)) := by
                refine bulk_sizs _ _ (by simp [hlen]) fun i x f hx hf => ?_
                simp only [List.getElem?_map, Option.map_eq_some_iff] at hx hf
                obtain ⟨j, hj, rfl⟩ := hx
                obtain ⟨hj1, hj2⟩ := List.getElem?_eq_some_iff.1 hj
                simp only [List.length_range] at hj1
                simp only [List.getElem_range] at hj2
                subst hj2
                obtain ⟨y', hy', rfl⟩ := hf
                obtain ⟨v0, v1, v2, v3, v4, y, -, -, h3, h4⟩ := hT i hj1
                rw [hy'] at h3
                cases h3
                exact h4
              rw [hy4]
              simp only [Rows.uptoBulk]
              omega
      obtain ⟨l, hl, hlb⟩ := hvals
      refine ⟨⟨z0, z1, s.data.toList, ks, l⟩, _, _, _, _, _, rfl, ⟨v3, v4, by unfold str; simp, int_wf w0, int_wf w1, by rw [Array.length_toList]; exact hs, hks, hl⟩, ?_⟩
      rw [siz_eq, hx]
      simp only [List.map_cons, List.map_nil, Rows.uptoBulk, Rows.uptoBulkAll]
      omega
theorem arg_bulk {H : Type} {enc : TypeId × Value → H} {W : World} {base : Nat} {v : Value} {d : DataW H} {p : List MemPlace} (hk : Value.okWide Tryd.prog W .any base 25 v) (h : DataW.Trod enc Tryd.prog W 0 (fun _ => true) true 25 v d p) :
    ∃ f t, VIs W (fun _ => True) f t v ∧ siz t ≤ Rows.uptoBulk d := by
  obtain ⟨cs, rfl, -⟩ := okWide_struct Tryd.underlying25 hk
  obtain ⟨f, hf⟩ := h
  obtain ⟨t, v0, v1, v2, v3, v4, e, hv, hz⟩ := vis_bulk f _ _ hf
  have e2 : cs = #[v0, v1, v2, v3, v4] := by
    obtain ⟨l⟩ := cs
    exact congrArg Array.mk e
  subst e2
  exact ⟨f, t, hv, hz⟩
/- The bound, as the row hands it over. -/
theorem bulk_bound {H : Type} {l : List (DataW H)} (hk : Rows.uptoSmall H l = true) : Rows.uptoBulkAll l ≤ 1048576 := of_decide_eq_true hk
end Go.Proofs.YtfbddgpekbhpfaaDoor

set_option linter.unusedSimpArgs false
set_option linter.unusedVariables false
namespace Go.Proofs.YtfbddgpekbhpfaaDoor.jsonMembers
open Go.ChangeShapes Go.WideShapes Go.ChangeAt Go.RowKit
open Go.ChangeMaps (open_string shut_string)

set_option maxRecDepth 100000 in
theorem contract (H : Type) (enc : TypeId × Value → H) (W : World) (base : Nat) (args : Array Value) (ds gs : List (DataW H)) (before : List MemPlace)
    (hval : ∀ (j : Nat) t v, Tryd.f4.params[j]? = some t → args[j]? = some v → Value.okWide Tryd.prog W .any base t v)
    (hW : DataW.Whole enc Tryd.prog Tryd.f4.params.toList Rows.jsonMembersSpec.vars false W args.toList ds gs before)
    (hk : Rows.uptoSmall H (ds ++ gs) = true) (hZ : (DataW.weightsEach Tryd.prog (Tryd.f4.params.toList ++ (OpenSpec.ofChange Rows.jsonMembersSpec).bare.plain.varTypes Tryd.prog) (ds ++ gs)).all (· ≤ reachBytes) = true) (hL : laidMet Tryd.prog laidAll W) :
    Calls Tryd.prog 4 args W fun e W' => ∃ v, e = .returned v ∧ Rows.jsonMembersSpec.post enc Tryd.prog Tryd.f4 false true false false W args v W' := by
  have hW' := hW
  obtain ⟨p, q, hA0, hV, rfl, hfz, hnd⟩ := hW
  have hA : DataW.TrodAll enc Tryd.prog W 0 (fun _ => true) true Tryd.f4.params.toList args.toList ds p := hA0
  rw [Tryd.params4] at hA hval
  obtain ⟨v0, vs0, d0, ds0, p0, q0, hargs0, rfl, rfl, h0, r0⟩ := trodAll_cons hA
  obtain ⟨v1, vs1, d1, ds1, p1, q1, hargs1, rfl, rfl, h1, r1⟩ := trodAll_cons r0
  obtain ⟨v2, vs2, d2, ds2, p2, q2, hargs2, rfl, rfl, h2, r2⟩ := trodAll_cons r1
  obtain ⟨rfl, rfl, rfl⟩ := trodAll_nil r2
  subst hargs1
  subst hargs2
  have hargs : args = #[v0, v1, v2] := by
    obtain ⟨l⟩ := args
    exact congrArg Array.mk hargs0
  subst hargs
  obtain ⟨rfl, rfl⟩ := trodVars_none hV
  have k0 : Value.okWide Tryd.prog W .any base 25 v0 := hval 0 _ _ (by simp) (by simp)
  have k1 : Value.okWide Tryd.prog W .any base 25 v1 := hval 1 _ _ (by simp) (by simp)
  have k2 : Value.okWide Tryd.prog W .any base 9 v2 := hval 2 _ _ (by simp) (by simp)
  obtain ⟨f0, t0, hv0, hz0⟩ := arg_bulk k0 h0
  obtain ⟨f1, t1, hv1, hz1⟩ := arg_bulk k1 h1
  obtain ⟨s2, rfl, rfl, rfl, ws2⟩ := open_string Tryd.underlying9 k2 h2
  clear hA0
  simp only [List.append_nil] at hW'
  have hb := bulk_bound hk
  simp only [List.append_nil, Rows.uptoBulkAll] at hb
  have b0 : siz t0 ≤ 2000000 := by omega
  have b1 : siz t1 ≤ 2000000 := by omega
  have l2 : s2.data.toList.length ≤ 140737488351232 := sized_string (j := 2) hZ (by rw [Tryd.params4]; rfl) rfl
  have e2 : Value.string s2 = str s2.data.toList := by unfold str; cases s2; simp
  have walk := jsonMembers_walk W (fun _ => True) f0 t0 v0 hv0 b0 (fun _ => True) f1 t1 v1 hv1 b1 s2.data.toList l2 (glob_of hL)
  rw [← e2] at walk
  refine walk.mono fun e W' ⟨he, hg⟩ => ?_
  subst he
  have ef : Rows.jsonMembersSpec.fn H ([d0, d1, .lit (.string s2.data.toList)] ++ []) = { results := [.lit (.bool true)], args := [d0, d1, .lit (.string s2.data.toList)] } := rfl
  refine ⟨_, rfl, _, _, _, [], (p0 ++ (p1 ++ ([] ++ []))), [], hW', ?_, ?_, ?_, hg.frame _, fun h => by cases h⟩
  · rw [ef]; exact trodAll_mk1 (shut_bool Tryd.underlying4 _)
  · rw [ef, Tryd.params4]; exact trodAll_cons_mk (Below.trod laidOut readableV rowedV h0 hg (trod_old h0)) (trodAll_cons_mk (Below.trod laidOut readableV rowedV h1 hg (trod_old h1)) (trodAll_cons_mk (shut_string Tryd.underlying9 ws2) (trodAll_mk0)))
  · rw [ef]; rfl

set_option maxRecDepth 100000 in
theorem reads (os : Os) {H : Type} (enc : TypeId × Value → H) : ∃ places, DataW.whole enc Tryd.prog ((laidWorld os).forCall (fun _ _ => 0) ⟨#[], #[.agg #[.int .i64 0, .int .i64 0, .string ⟨#[]⟩, .slice none 0 0, .slice none 0 0], .agg #[.int .i64 0, .int .i64 0, .string ⟨#[]⟩, .slice none 0 0, .slice none 0 0], .string ⟨#[]⟩], []⟩).memory Tryd.f4.params.toList Rows.jsonMembersSpec.vars false #[Value.agg #[.int .i64 0, .int .i64 0, .string ⟨#[]⟩, .slice none 0 0, .slice none 0 0], Value.agg #[.int .i64 0, .int .i64 0, .string ⟨#[]⟩, .slice none 0 0, .slice none 0 0], Value.string ⟨#[]⟩].toList 8 = some ([.agg [.lit (.int .i64 0), .lit (.int .i64 0), .lit (.string []), .nil, .nil], .agg [.lit (.int .i64 0), .lit (.int .i64 0), .lit (.string []), .nil, .nil], .lit (.string [])], [], places) :=
  ⟨[], by kernel_rfl⟩

set_option maxRecDepth 100000 in
theorem lifted (os : Os) (started : os.Started) (H : Type) (enc : TypeId × Value → H) (F : Stop.Interp) :
    ReturnsInHanded {} Tryd.checked os 4 .any ((Rows.OpenSpec.upto Rows.jsonMembersSpec).preRow enc Tryd.prog Tryd.f4 Rows.jsonMembersUptoRow.domain false Rows.jsonMembersUptoRow.laid) (((Rows.OpenSpec.upto Rows.jsonMembersSpec).at F).post enc Tryd.prog Tryd.f4 false true false false) := by
  obtain ⟨places, hx⟩ := reads os enc
  refine returnsInHanded_of_row (C := Tryd.checked) (s := Rows.OpenSpec.upto Rows.jsonMembersSpec) own started (by kernel_rfl) Tryd.func4
    (witness_row_at (enc := enc) (C := Tryd.checked) false (laidWorld os) #[.agg #[.int .i64 0, .int .i64 0, .string ⟨#[]⟩, .slice none 0 0, .slice none 0 0], .agg #[.int .i64 0, .int .i64 0, .string ⟨#[]⟩, .slice none 0 0, .slice none 0 0], .string ⟨#[]⟩] rfl (by kernel_rfl) (by kernel_rfl) (by kernel_rfl)
      (OpenSpec.preRow_of_cond 8 hx (by kernel_rfl) (fun k hk => by cases hk; kernel_rfl) (by kernel_rfl) (laid_met os _))) ?_
  intro W base args ds gs before hval hW _ hc hZ hL _ _
  exact contract H enc W base args ds gs before hval hW (hc _ rfl) hZ hL

theorem said : Rows.JsonMembersUptoSaid :=
  OpenClaim.holds_of_cond 4 Tryd.f4 rfl rfl rfl rfl rfl rfl rfl ⟨rfl, rfl, rfl, rfl, rfl⟩ rfl rfl rfl rfl rfl (by kernel_rfl) Tryd.func4 (by kernel_rfl)
    (of_decide_eq_true (by kernel_rfl)) (by unfold Func.isWrapper; first | (rw [if_pos (by decide +kernel)]; kernel_rfl) | (rw [if_neg (by decide +kernel)]; exact ⟨rfl, rfl⟩))
    (fun os started H enc _ F => by rw [OpenClaim.pre_eq_preRow]; exact lifted os started H enc F)

theorem plain (f : FuncId) (fn : Func) (hf : Tryd.pinned.checked.prog.funcNamed "stairwell/stairwelllaw.JsonMembers" = some f) (hfn : Tryd.pinned.checked.prog.funcs[f]? = some fn) :
    true = Tryd.pinned.checked.prog.looks [] ∧ ∀ (j : Nat) t, fn.params[j]? = some t → Tryd.pinned.checked.prog.wantsStandIn t = false := by
  obtain rfl : f = 4 := Option.some.inj ((show Tryd.prog.funcNamed "stairwell/stairwelllaw.JsonMembers" = some 4 by kernel_rfl).symm.trans hf) |>.symm
  obtain rfl : fn = Tryd.f4 := (Option.some.inj (Tryd.func4.symm.trans hfn)).symm
  refine ⟨by kernel_rfl, fun j t ht => ?_⟩
  rw [Tryd.params4] at ht
  have hm := Array.mem_of_getElem? ht
  simp only [Array.mem_def, List.mem_cons, List.not_mem_nil, or_false] at hm
  rcases hm with rfl | rfl | rfl
  · exact (show Tryd.prog.wantsStandIn 25 = false by kernel_rfl)
  · exact (show Tryd.prog.wantsStandIn 25 = false by kernel_rfl)
  · exact (show Tryd.prog.wantsStandIn 9 = false by kernel_rfl)

theorem card : Rows.JsonMembersUptoCardSaid :=
  Claim7.holds_tied_plain_at .later [] _ _ _ _ said (fun _ h => by cases h) (by kernel_rfl) (fun _ h => by cases h) jsonMembersUpto_row_tie rfl ⟨rfl, rfl⟩ (by kernel_rfl) rfl plain (by kernel_rfl)
end Go.Proofs.YtfbddgpekbhpfaaDoor.jsonMembers
