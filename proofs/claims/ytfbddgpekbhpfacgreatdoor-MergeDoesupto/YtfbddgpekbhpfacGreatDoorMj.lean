/- That merges of package stairwelllaw answers yes. -/
import Derived.Test.YtfbddgpekbhpfacGreatDoorMi
set_option linter.unusedSimpArgs false
set_option linter.unusedVariables false
namespace Go.Proofs.YtfbddgpekbhpfacGreatDoor
open Go.RowKit

set_option maxRecDepth 100000 in
set_option maxHeartbeats 4000000 in
theorem lmerges_at (w : World) (hG : Glob w) : Calls Tryz.prog 12 #[] w fun e w' => e = .returned (.bool true) ∧ Below w.heap.size w w' := by
  have HG := hidI hG
  clear hG
  go_enter Tryz.func12, Tryz.ntmps12
  go_wp2_with fail
  refine (parse_at _ mgA (by decide) HG.out).mono ?_
  rintro e w1 ⟨t, ee, a1, b1, c1, d1, rfl, hp, hv, hb⟩
  have HP1 := hidI hp
  have HV1 := hidI (hv.is.weak fun _ _ => trivial : In w1 (fun _ => True) t _)
  have HB1 := hidI hb
  clear hp hv hb
  have HG1 : Hid (Glob (w1.alloc (.cells #[.int .i64 t.kind, .int .i64 t.n, .string ⟨t.s.toArray⟩, .slice a1 t.keys.length c1, .slice b1 t.l.length d1] 25))) := hidI (HG.out.grown (gb_below (r := none) (bel_trans HB1.out (bel_alloc _ _))) (by simp))
  go_wp2_with fail
  refine (parse_at _ mgB (by decide) (by exact HG1.out)).mono ?_
  rintro e w2 ⟨u, ef, a2, b2, c2, d2, rfl, hp, hv, hb⟩
  have HP2 := hidI hp
  have hbb := bel_trans hb (bel_alloc w2 (.cells #[.int .i64 u.kind, .int .i64 u.n, .string ⟨u.s.toArray⟩, .slice a2 u.keys.length c2, .slice b2 u.l.length d2] 25))
  have K2 : Hid (BoxIs (w2.alloc (.cells #[.int .i64 u.kind, .int .i64 u.n, .string ⟨u.s.toArray⟩, .slice a2 u.keys.length c2, .slice b2 u.l.length d2] 25)) w1.heap.size (.int .i64 t.kind) (.int .i64 t.n) (.string ⟨t.s.toArray⟩) (.slice a1 t.keys.length c1) (.slice b1 t.l.length d1) ∧ BoxIs (w2.alloc (.cells #[.int .i64 u.kind, .int .i64 u.n, .string ⟨u.s.toArray⟩, .slice a2 u.keys.length c2, .slice b2 u.l.length d2] 25)) w2.heap.size (.int .i64 u.kind) (.int .i64 u.n) (.string ⟨u.s.toArray⟩) (.slice a2 u.keys.length c2) (.slice b2 u.l.length d2) ∧ In (w2.alloc (.cells #[.int .i64 u.kind, .int .i64 u.n, .string ⟨u.s.toArray⟩, .slice a2 u.keys.length c2, .slice b2 u.l.length d2] 25)) (fun _ => True) t (.agg #[.int .i64 t.kind, .int .i64 t.n, .string ⟨t.s.toArray⟩, .slice a1 t.keys.length c1, .slice b1 t.l.length d1]) ∧ In (w2.alloc (.cells #[.int .i64 u.kind, .int .i64 u.n, .string ⟨u.s.toArray⟩, .slice a2 u.keys.length c2, .slice b2 u.l.length d2] 25)) (fun _ => True) u (.agg #[.int .i64 u.kind, .int .i64 u.n, .string ⟨u.s.toArray⟩, .slice a2 u.keys.length c2, .slice b2 u.l.length d2]) ∧ Below w.heap.size w (w2.alloc (.cells #[.int .i64 u.kind, .int .i64 u.n, .string ⟨u.s.toArray⟩, .slice a2 u.keys.length c2, .slice b2 u.l.length d2] 25))) := hidI ⟨box_bel hbb (heap_alloc_new w1 _), heap_alloc_new w2 _, HV1.out.bel (bel_trans (bel_alloc _ _) hbb), (hv.is.weak fun _ _ => trivial : In w2 (fun _ => True) u _).bel (bel_alloc _ _), bel_trans (bel_trans HB1.out (bel_alloc _ _)) hbb⟩
  clear hp hv hb hbb HB1 HV1
  obtain ⟨p0, p1, p2, p3, p4, -⟩ := K2.out.1.c
  obtain ⟨q0, q1, q2, q3, q4, -⟩ := K2.out.2.1.c
  go_wp2_with fail
  refine (merge_is _ (fun _ => True) t u _ _ (by exact K2.out.2.2.1) (by exact K2.out.2.2.2.1)).mono ?_
  rintro e w3 ⟨r, rfl, hb, hr⟩
  have hm := mg_ok
  rw [HP1.out, HP2.out] at hm
  simp only at hm
  rw [hm.1]
  obtain ⟨m, hme⟩ : ∃ m, (mergeR t u).1 = m := ⟨_, rfl⟩
  rw [hme] at hr hm
  obtain ⟨a3, b3, c3, d3, rfl⟩ := hr.form
  have HM := hidI hm.2
  have hbb := bel_trans hb (bel_alloc w3 (.cells #[.int .i64 m.kind, .int .i64 m.n, .string ⟨m.s.toArray⟩, .slice a3 m.keys.length c3, .slice b3 m.l.length d3] 25))
  have K3 : Hid (BoxIs (w3.alloc (.cells #[.int .i64 m.kind, .int .i64 m.n, .string ⟨m.s.toArray⟩, .slice a3 m.keys.length c3, .slice b3 m.l.length d3] 25)) w3.heap.size (.int .i64 m.kind) (.int .i64 m.n) (.string ⟨m.s.toArray⟩) (.slice a3 m.keys.length c3) (.slice b3 m.l.length d3) ∧ In (w3.alloc (.cells #[.int .i64 m.kind, .int .i64 m.n, .string ⟨m.s.toArray⟩, .slice a3 m.keys.length c3, .slice b3 m.l.length d3] 25)) (okN (fun _ => True) (w2.alloc (.cells #[.int .i64 u.kind, .int .i64 u.n, .string ⟨u.s.toArray⟩, .slice a2 u.keys.length c2, .slice b2 u.l.length d2] 25)).heap.size) m (.agg #[.int .i64 m.kind, .int .i64 m.n, .string ⟨m.s.toArray⟩, .slice a3 m.keys.length c3, .slice b3 m.l.length d3]) ∧ Below w.heap.size w (w3.alloc (.cells #[.int .i64 m.kind, .int .i64 m.n, .string ⟨m.s.toArray⟩, .slice a3 m.keys.length c3, .slice b3 m.l.length d3] 25))) := hidI ⟨heap_alloc_new w3 _, hr.bel (bel_alloc _ _), bel_trans K2.out.2.2.2.2 hbb⟩
  clear hm hme hr hb hbb p0 p1 p2 p3 p4 q0 q1 q2 q3 q4
  obtain ⟨dd, hdd⟩ := K3.out.2.1
  have HD := hidI hdd
  have HPR : Hid (printR dd m = (mgO, 0)) := hidI (print_any HM.out (vis_dep dd hdd))
  clear hdd
  obtain ⟨p0, p1, p2, p3, p4, -⟩ := K3.out.1.c
  go_wp2_with fail
  refine (Print_at _ _ dd m _ (by exact HD.out) (by exact HG.out.grown (gb_below (r := none) K3.out.2.2) (by simp))).mono ?_
  rintro e w4 ⟨l, ef', rfl, hq, hb2⟩
  rw [HPR.out] at hq
  simp only [Prod.mk.injEq] at hq
  obtain ⟨rfl, rfl⟩ := hq
  have B4 := hidI (bel_trans K3.out.2.2 hb2)
  clear hb2 p0 p1 p2 p3 p4
  have hs : (ByteArray.mk mgO.toArray == ByteArray.mk #[123, 34, 98, 34, 58, 123, 34, 99, 34, 58, 50, 44, 34, 100, 34, 58, 51, 125, 125]) = true := ba_eq rfl
  go_wp2_with fail
  go_ret
  exact ⟨rfl, B4.out⟩
end Go.Proofs.YtfbddgpekbhpfacGreatDoor
