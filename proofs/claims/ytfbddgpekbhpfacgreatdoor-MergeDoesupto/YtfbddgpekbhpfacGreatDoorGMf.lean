/- What other of package merge does. -/
import Derived.Test.YtfbddgpekbhpfacGreatDoorGMc
import Derived.Test.YtfbddgpekbhpfacGreatDoorGMd
import Derived.Deep.DrawnRows
/- What gone of package merge does. -/
set_option linter.unusedSimpArgs false
set_option linter.unusedVariables false
namespace Go.Proofs.YtfbddgpekbhpfacGreatDoor
open Go.RowKit

theorem foldG_len {b : V} : ∀ (ps : List (List UInt8 × V)) (v : V), (ps.foldl (stepG b) v).l.length ≤ v.l.length + ps.length
  | [], v => by simp
  | p :: ps, v => by
    have h1 := foldG_len (b := b) ps (stepG b v p)
    have h2 : (stepG b v p).l.length ≤ v.l.length + 1 := by
      unfold stepG
      split
      · omega
      · exact with_items _ _ _
    rw [List.foldl_cons, List.length_cons]; omega
theorem gone_at {a b : V} {k : Nat} (ha : Nice a) : Ob (((a.keys.zip a.l).take k).foldl (stepG b) objT) ∧ (((a.keys.zip a.l).take k).foldl (stepG b) objT).l.length ≤ 120 := by
  refine ⟨fold_ob (stepG_ob b) _ _ ob_objT, ?_⟩
  have h1 := foldG_len (b := b) ((a.keys.zip a.l).take k) objT
  have h3 := nice_len ha
  have h4 : ((a.keys.zip a.l).take k).length ≤ a.l.length := by rw [List.length_take, List.length_zip]; omega
  simp only [objT, List.length_nil] at h1 ⊢; omega
theorem h4a (w : World) (o1 o2 o3 o4 : Obj) : ((((w.alloc o1).alloc o2).alloc o3).alloc o4).heap[w.heap.size]? = some o1 := by
  rw [(World.grownBy_alloc (((w.alloc o1).alloc o2).alloc o3) o4 none).block _ (by first | (simp; omega) | simp) (by simp)]; exact h3a w o1 o2 o3
theorem h4b (w : World) (o1 o2 o3 o4 : Obj) : ((((w.alloc o1).alloc o2).alloc o3).alloc o4).heap[w.heap.size + 1]? = some o2 := by
  rw [(World.grownBy_alloc (((w.alloc o1).alloc o2).alloc o3) o4 none).block _ (by first | (simp; omega) | simp) (by simp)]; exact h3b w o1 o2 o3
theorem h4c (w : World) (o1 o2 o3 o4 : Obj) : ((((w.alloc o1).alloc o2).alloc o3).alloc o4).heap[w.heap.size + 2]? = some o3 := by
  rw [(World.grownBy_alloc (((w.alloc o1).alloc o2).alloc o3) o4 none).block _ (by first | (simp; omega) | simp) (by simp)]; exact h3c w o1 o2 o3
theorem h4d (w : World) (o1 o2 o3 o4 : Obj) : ((((w.alloc o1).alloc o2).alloc o3).alloc o4).heap[w.heap.size + 3]? = some o4 := by
  have := heap_alloc_new (((w.alloc o1).alloc o2).alloc o3) o4
  simpa using this
def GnI (w : World) (ok : Nat → Prop) (a b : V) (a1 a2 a3 a4 : Option Addr) (c1 c2 c3 c4 k : Nat) (wr : World) : Prop :=
  ∃ (y : V) (a5 a6 : Option Addr) (c5 c6 : Nat), y = ((a.keys.zip a.l).take k).foldl (stepG b) objT ∧ BoxIs wr w.heap.size (.int .i64 a.kind) (.int .i64 a.n) (.string ⟨a.s.toArray⟩) (.slice a1 a.keys.length c1) (.slice a2 a.l.length c2) ∧ BoxIs wr (w.heap.size + 1) (.int .i64 b.kind) (.int .i64 b.n) (.string ⟨b.s.toArray⟩) (.slice a3 b.keys.length c3) (.slice a4 b.l.length c4) ∧ BoxIs wr (w.heap.size + 2) (.int .i64 0) (.int .i64 0) (.string ⟨#[]⟩) (.slice none 0 0) (.slice none 0 0) ∧ BoxIs wr (w.heap.size + 3) (.int .i64 y.kind) (.int .i64 y.n) (.string ⟨y.s.toArray⟩) (.slice a5 y.keys.length c5) (.slice a6 y.l.length c6) ∧ Below w.heap.size w wr ∧ In wr (lowN ok w.heap.size (w.heap.size + 4)) y (.agg #[.int .i64 y.kind, .int .i64 y.n, .string ⟨y.s.toArray⟩, .slice a5 y.keys.length c5, .slice a6 y.l.length c6])

set_option maxRecDepth 100000 in
set_option maxHeartbeats 40000000 in
theorem gone_is (w : World) (ok : Nat → Prop) (a b : V) (va vb : Value) (h : In w ok a va) (hb : In w ok b vb) (na : Nice a) (oa : Ob a) :
    Calls Tryz.prog 29 #[va, vb] w fun e w' => ∃ r, e = .returned r ∧ Below w.heap.size w w' ∧ In w' (okN ok w.heap.size) (goneV a b) r := by
  have H := hidI h.low
  have HB := hidI hb.low
  have NA := hidI na
  have OA := hidI oa
  have HKL : Hid (a.keys.length = a.l.length) := hidI oa.2.2.2.1
  obtain ⟨l1, l2, l3⟩ := h.lens
  obtain ⟨a1, a2, c1, c2, rfl⟩ := h.form
  obtain ⟨a3, a4, c3, c4, rfl⟩ := hb.form
  clear h hb na oa
  have B4 : Hid (∀ o1 o2 o3 o4, Below w.heap.size w ((((w.alloc o1).alloc o2).alloc o3).alloc o4)) := fun o1 o2 o3 o4 => bel_trans (bel_trans (bel_trans (bel_alloc _ _) (bel_alloc _ _)) (bel_alloc _ _)) (bel_alloc _ _)
  have I0 : Hid (GnI w ok a b a1 a2 a3 a4 c1 c2 c3 c4 0 ((((w.alloc (.cells #[.int .i64 a.kind, .int .i64 a.n, .string ⟨a.s.toArray⟩, .slice a1 a.keys.length c1, .slice a2 a.l.length c2] 25)).alloc (.cells #[.int .i64 b.kind, .int .i64 b.n, .string ⟨b.s.toArray⟩, .slice a3 b.keys.length c3, .slice a4 b.l.length c4] 25)).alloc (.cells #[.int .i64 0, .int .i64 0, .string ⟨#[]⟩, .slice none 0 0, .slice none 0 0] 25)).alloc (.cells #[.int .i64 5, .int .i64 0, .string ⟨#[]⟩, .slice none 0 0, .slice none 0 0] 25))) := hidI ⟨objT, none, none, 0, 0, rfl, h4a w _ _ _ _, h4b w _ _ _ _, h4c w _ _ _ _, h4d w _ _ _ _, B4.out _ _ _ _, in_leaf _ _ 5 0 (by unfold I64; omega) (by unfold I64; omega)⟩
  go_enter Tryz.func29, Tryz.ntmps29
  go_wp2_with fail
  go_loopg [14] a.keys.length (fun gk i wr => ∃ k : Nat, k ≤ a.keys.length ∧ gk = a.keys.length - k ∧ i = .int .i64 k ∧ GnI w ok a b a1 a2 a3 a4 c1 c2 c3 c4 k wr)
  case atStart => exact ⟨0, Nat.zero_le _, rfl, rfl, I0.out⟩
  case round =>
    obtain ⟨k, hk, hgk, rfl, y, a5, a6, c5, c6, i0, i1, i2, i3, i4, i5, i6⟩ := hrel
    have GK := hidI hgk
    have I : Hid (y = ((a.keys.zip a.l).take k).foldl (stepG b) objT ∧ BoxIs wr w.heap.size (.int .i64 a.kind) (.int .i64 a.n) (.string ⟨a.s.toArray⟩) (.slice a1 a.keys.length c1) (.slice a2 a.l.length c2) ∧ BoxIs wr (w.heap.size + 1) (.int .i64 b.kind) (.int .i64 b.n) (.string ⟨b.s.toArray⟩) (.slice a3 b.keys.length c3) (.slice a4 b.l.length c4) ∧ BoxIs wr (w.heap.size + 2) (.int .i64 0) (.int .i64 0) (.string ⟨#[]⟩) (.slice none 0 0) (.slice none 0 0) ∧ BoxIs wr (w.heap.size + 3) (.int .i64 y.kind) (.int .i64 y.n) (.string ⟨y.s.toArray⟩) (.slice a5 y.keys.length c5) (.slice a6 y.l.length c6) ∧ Below w.heap.size w wr ∧ In wr (lowN ok w.heap.size (w.heap.size + 4)) y (.agg #[.int .i64 y.kind, .int .i64 y.n, .string ⟨y.s.toArray⟩, .slice a5 y.keys.length c5, .slice a6 y.l.length c6])) := hidI ⟨i0, i1, i2, i3, i4, i5, i6⟩
    have hwsz := i4.lt
    obtain ⟨p0, p1, p2, p3, p4, -⟩ := i2.c
    clear hgk i0 i1 i2 i3 i4 i5 i6
    by_cases hlt : k < a.keys.length
    · have hlt' : k < a.l.length := by have := HKL.out; omega
      obtain ⟨kb, ko, rfl, j1, j2, jk, jl⟩ := H.out.key hlt
      replace jk := cell_bel I.out.2.2.2.2.2.1 jk
      have w1 : (0 : Int) ≤ (k : Int) := by omega
      have w3 : (k : Int) < (a.keys.length : Int) := by omega
      have GA : Hid (Ob y ∧ y.l.length ≤ 120) := hidI (by rw [I.out.1]; exact gone_at NA.out)
      have ST : Hid (∀ u, u = stepG b y (a.keys[k], a.l[k]) → u = ((a.keys.zip a.l).take (k + 1)).foldl (stepG b) objT) := hidI (by rintro u rfl; rw [zip_step hlt hlt', ← I.out.1])
      go_wp2_with fail
      refine (member_was _ (fun j => ok j ∧ j < w.heap.size) b _ a.keys[k] (by exact HB.out.bel I.out.2.2.2.2.2.1)).mono ?_
      rintro e w4 ⟨r, rfl, hb4, hr⟩
      obtain ⟨q, hq⟩ : ∃ q, (memV b a.keys[k]).getD zeroT = q := ⟨_, rfl⟩
      rw [hq] at hr
      obtain ⟨a7, a8, c7, c8, rfl⟩ := hr.form
      have hbb := bel_trans hb4 (bel_alloc w4 (.cells #[.int .i64 q.kind, .int .i64 q.n, .string ⟨q.s.toArray⟩, .slice a7 q.keys.length c7, .slice a8 q.l.length c8] 25))
      have K : Hid (BoxIs (w4.alloc (.cells #[.int .i64 q.kind, .int .i64 q.n, .string ⟨q.s.toArray⟩, .slice a7 q.keys.length c7, .slice a8 q.l.length c8] 25)) w.heap.size (.int .i64 a.kind) (.int .i64 a.n) (.string ⟨a.s.toArray⟩) (.slice (some ⟨kb, ko, none⟩) a.keys.length c1) (.slice a2 a.l.length c2) ∧ BoxIs (w4.alloc (.cells #[.int .i64 q.kind, .int .i64 q.n, .string ⟨q.s.toArray⟩, .slice a7 q.keys.length c7, .slice a8 q.l.length c8] 25)) (w.heap.size + 1) (.int .i64 b.kind) (.int .i64 b.n) (.string ⟨b.s.toArray⟩) (.slice a3 b.keys.length c3) (.slice a4 b.l.length c4) ∧ BoxIs (w4.alloc (.cells #[.int .i64 q.kind, .int .i64 q.n, .string ⟨q.s.toArray⟩, .slice a7 q.keys.length c7, .slice a8 q.l.length c8] 25)) (w.heap.size + 2) (.int .i64 0) (.int .i64 0) (.string ⟨#[]⟩) (.slice none 0 0) (.slice none 0 0) ∧ BoxIs (w4.alloc (.cells #[.int .i64 q.kind, .int .i64 q.n, .string ⟨q.s.toArray⟩, .slice a7 q.keys.length c7, .slice a8 q.l.length c8] 25)) (w.heap.size + 3) (.int .i64 y.kind) (.int .i64 y.n) (.string ⟨y.s.toArray⟩) (.slice a5 y.keys.length c5) (.slice a6 y.l.length c6) ∧ Below w.heap.size w (w4.alloc (.cells #[.int .i64 q.kind, .int .i64 q.n, .string ⟨q.s.toArray⟩, .slice a7 q.keys.length c7, .slice a8 q.l.length c8] 25)) ∧ In (w4.alloc (.cells #[.int .i64 q.kind, .int .i64 q.n, .string ⟨q.s.toArray⟩, .slice a7 q.keys.length c7, .slice a8 q.l.length c8] 25)) (lowN ok w.heap.size (w.heap.size + 4)) y (.agg #[.int .i64 y.kind, .int .i64 y.n, .string ⟨y.s.toArray⟩, .slice a5 y.keys.length c5, .slice a6 y.l.length c6]) ∧ w.heap.size + 4 ≤ (w4.alloc (.cells #[.int .i64 q.kind, .int .i64 q.n, .string ⟨q.s.toArray⟩, .slice a7 q.keys.length c7, .slice a8 q.l.length c8] 25)).heap.size) := hidI ⟨box_bel hbb I.out.2.1, box_bel hbb I.out.2.2.1, box_bel hbb I.out.2.2.2.1, box_bel hbb I.out.2.2.2.2.1, bel_trans I.out.2.2.2.2.2.1 hbb, I.out.2.2.2.2.2.2.bel hbb, Nat.le_trans hwsz hbb.size⟩
      clear hq hr hb4 hbb p0 p1 p2 p3 p4 jk
      cases hmb : (memV b a.keys[k]).isSome with
      | true =>
        have FIN : Hid (GnI w ok a b (some ⟨kb, ko, none⟩) a2 a3 a4 c1 c2 c3 c4 (k + 1) (w4.alloc (.cells #[.int .i64 q.kind, .int .i64 q.n, .string ⟨q.s.toArray⟩, .slice a7 q.keys.length c7, .slice a8 q.l.length c8] 25))) := hidI ⟨y, a5, a6, c5, c6, ST.out y (by unfold stepG; rw [if_pos hmb]), K.out.1, K.out.2.1, K.out.2.2.1, K.out.2.2.2.1, K.out.2.2.2.2.1, K.out.2.2.2.2.2.1⟩
        clear hmb
        go_wp2_with fail
        go_roundg (a.keys.length - (k + 1))
        case measure => rw [GK.out]; omega
        case rel => exact ⟨k + 1, hlt, rfl, by go_num, FIN.out⟩
      | false =>
        have HS : Hid (stepG b y (a.keys[k], a.l[k]) = withV y a.keys[k] zeroT) := hidI (by unfold stepG; rw [if_neg (by rw [hmb]; simp)])
        clear hmb
        obtain ⟨y0, y1, y2, y3, y4, -⟩ := K.out.2.2.2.1.c
        go_wp2_with fail
        refine (with_is _ (lowN ok w.heap.size (w.heap.size + 4)) y zeroT _ _ a.keys[k] (by exact K.out.2.2.2.2.2.1) (by exact in_zero _ _) GA.out.1.paired (by have := GA.out.2; omega) jl).mono ?_
        rintro e w6 ⟨r, rfl, hr, hb6⟩
        obtain ⟨u, hu⟩ : ∃ u, withV y a.keys[k] zeroT = u := ⟨_, rfl⟩
        rw [hu] at hr
        obtain ⟨e5, e6, f5, f6, rfl⟩ := hr.form
        have FIN : Hid (GnI w ok a b (some ⟨kb, ko, none⟩) a2 a3 a4 c1 c2 c3 c4 (k + 1) (set5 w6 (w.heap.size + 3) (.int .i64 u.kind) (.int .i64 u.n) (.string ⟨u.s.toArray⟩) (.slice e5 u.keys.length f5) (.slice e6 u.l.length f6))) := by
          have gs := set5_gb w6 (w.heap.size + 3) (.int .i64 u.kind) (.int .i64 u.n) (.string ⟨u.s.toArray⟩) (.slice e5 u.keys.length f5) (.slice e6 u.l.length f6)
          refine hidI ⟨u, e5, e6, f5, f6, ST.out u (by rw [HS.out, hu]), (box_bel hb6 K.out.1).grown gs (by simp), (box_bel hb6 K.out.2.1).grown gs (by simp), (box_bel hb6 K.out.2.2.1).grown gs (by simp), (box_bel hb6 K.out.2.2.2.1).set _ _ _ _ _, bel_set5 (bel_trans K.out.2.2.2.2.1 hb6) (by omega) _ _ _ _ _, (hr.weak (lowN_up K.out.2.2.2.2.2.2)).box (by omega) (by omega) _ _ _ _ _⟩
        obtain ⟨t0, t1, t2, t3, t4, t5, t6, t7, t8, t9⟩ := (box_bel hb6 K.out.2.2.2.1).c
        clear hu hr hb6 y0 y1 y2 y3 y4
        go_wp2_with fail
        go_roundg (a.keys.length - (k + 1))
        case measure => rw [GK.out]; omega
        case rel => exact ⟨k + 1, hlt, rfl, by go_num, FIN.out⟩
    · have HY : Hid (goneV a b = y) := hidI (by rw [goneV, I.out.1, List.take_of_length_le (by rw [List.length_zip]; have := HKL.out; omega)])
      have d1 : ¬ (k : Int) < (a.keys.length : Int) := by omega
      obtain ⟨y0, y1, y2, y3, y4, -⟩ := I.out.2.2.2.2.1.c
      obtain ⟨z0, z1, z2, z3, z4, z5, z6, z7, z8, z9⟩ := I.out.2.2.2.1.c
      have Z : Hid (_ ∧ _) := hidI (sto_out (g := w.heap.size + 2) I.out.2.2.2.2.2.2 I.out.2.2.2.2.2.1 (by omega) (by omega))
      have ZB : Hid _ := hidI (I.out.2.2.2.1.set (.int .i64 y.kind) (.int .i64 y.n) (.string ⟨y.s.toArray⟩) (.slice a5 y.keys.length c5) (.slice a6 y.l.length c6))
      go_wp2_with fail
      obtain ⟨q0, q1, q2, q3, q4, -⟩ := ZB.out.c
      refine bodyPost_ret (v := .agg #[.int .i64 y.kind, .int .i64 y.n, .string ⟨y.s.toArray⟩, .slice a5 y.keys.length c5, .slice a6 y.l.length c6]) ?_ rfl ?_
      · simp only [set5] at q0 q1 q2 q3 q4
        simp [results, Tryz.results29, go_sem, q0, q1, q2, q3, q4]
      · exact ⟨_, rfl, Z.out.1, by rw [HY.out]; exact Z.out.2⟩
end Go.Proofs.YtfbddgpekbhpfacGreatDoor

/- What Same of package json does. -/
set_option linter.unusedSimpArgs false
set_option linter.unusedVariables false
namespace Go.Proofs.YtfbddgpekbhpfacGreatDoor
open Go.RowKit

set_option maxRecDepth 100000 in
set_option maxHeartbeats 40000000 in
theorem same_run (w : World) (ok ok' : Nat → Prop) (a b : V) (va vb : Value) (ha : In w ok a va) (hb : In w ok' b vb) (hN : cnt a ≤ 2000000000000) :
    Calls Tryz.prog 30 #[va, vb] w fun e w' => SameP w a b e w' := by
  have HA := hidI ha
  have HB := hidI hb
  obtain ⟨a1, a2, c1, c2, rfl⟩ := ha.form
  obtain ⟨a3, a4, c3, c4, rfl⟩ := hb.form
  clear ha hb
  go_enter Tryz.func30, Tryz.ntmps30
  go_upto_region 1 with fail
  go_cut [5, 6] (fun lv rv wc => ∃ ia ib, SI w ok ok' ia ib [[a]] [[b]] lv rv wc)
  case first =>
    go_region
    all_goals
      go_wp2_with fail
      go_meet
      case rel =>
        first
          | exact ⟨w.heap.size + 2, w.heap.size + 4, si_start HA.out HB.out (by repeat (first | exact Below.refl _ _ | refine bel_dr ?_ | refine bel_al ?_ _)) (heap_at6 w _ _ _ _ _ _ 3 (by decide)) (heap_at6 w _ _ _ _ _ _ 5 (by decide)) (heap_at6 w _ _ _ _ _ _ 2 (by decide)) (heap_at6 w _ _ _ _ _ _ 4 (by decide)) (by refine ⟨?_, ?_, ?_, ?_, ?_, ?_, ?_⟩ <;> omega)⟩
          | exact ⟨w.heap.size + 2, w.heap.size + 3, si_start HA.out HB.out (by repeat (first | exact Below.refl _ _ | refine bel_dr ?_ | refine bel_al ?_ _)) (heap_at6 w _ _ _ _ _ _ 4 (by decide)) (heap_at6 w _ _ _ _ _ _ 5 (by decide)) (heap_at6 w _ _ _ _ _ _ 2 (by decide)) (heap_at6 w _ _ _ _ _ _ 3 (by decide)) (by refine ⟨?_, ?_, ?_, ?_, ?_, ?_, ?_⟩ <;> omega)⟩
          | exact ⟨w.heap.size + 2, w.heap.size + 3, si_start HA.out HB.out (by repeat (first | exact Below.refl _ _ | refine bel_dr ?_ | refine bel_al ?_ _)) (heap_at6 w _ _ _ _ _ _ 5 (by decide)) (heap_at6 w _ _ _ _ _ _ 4 (by decide)) (heap_at6 w _ _ _ _ _ _ 2 (by decide)) (heap_at6 w _ _ _ _ _ _ 3 (by decide)) (by refine ⟨?_, ?_, ?_, ?_, ?_, ?_, ?_⟩ <;> omega)⟩
          | exact ⟨w.heap.size + 3, w.heap.size + 2, si_start HA.out HB.out (by repeat (first | exact Below.refl _ _ | refine bel_dr ?_ | refine bel_al ?_ _)) (heap_at6 w _ _ _ _ _ _ 4 (by decide)) (heap_at6 w _ _ _ _ _ _ 5 (by decide)) (heap_at6 w _ _ _ _ _ _ 3 (by decide)) (heap_at6 w _ _ _ _ _ _ 2 (by decide)) (by refine ⟨?_, ?_, ?_, ?_, ?_, ?_, ?_⟩ <;> omega)⟩
          | exact ⟨w.heap.size + 3, w.heap.size + 2, si_start HA.out HB.out (by repeat (first | exact Below.refl _ _ | refine bel_dr ?_ | refine bel_al ?_ _)) (heap_at6 w _ _ _ _ _ _ 5 (by decide)) (heap_at6 w _ _ _ _ _ _ 4 (by decide)) (heap_at6 w _ _ _ _ _ _ 3 (by decide)) (heap_at6 w _ _ _ _ _ _ 2 (by decide)) (by refine ⟨?_, ?_, ?_, ?_, ?_, ?_, ?_⟩ <;> omega)⟩
          | exact ⟨w.heap.size + 4, w.heap.size + 2, si_start HA.out HB.out (by repeat (first | exact Below.refl _ _ | refine bel_dr ?_ | refine bel_al ?_ _)) (heap_at6 w _ _ _ _ _ _ 5 (by decide)) (heap_at6 w _ _ _ _ _ _ 3 (by decide)) (heap_at6 w _ _ _ _ _ _ 4 (by decide)) (heap_at6 w _ _ _ _ _ _ 2 (by decide)) (by refine ⟨?_, ?_, ?_, ?_, ?_, ?_, ?_⟩ <;> omega)⟩
  case rest =>
    obtain ⟨ia, ib, hS⟩ := hcut
    have S0 := hidI hS
    clear hS
    go_wp2_with fail
    go_loopg [5, 6] (1 + cnt a) (fun gk lv rv wr => ∃ ls rs, (a = b ↔ ls = rs) ∧ PL ls rs ∧ gk = mu ls ∧ mu ls ≤ 2000000000001 ∧ SI w ok ok' ia ib ls rs lv rv wr)
    case atStart => exact ⟨[[a]], [[b]], ⟨fun e => by rw [e], fun e => by simpa using e⟩, ⟨rfl, fun j l r h1 h2 => by cases j <;> simp at h1 h2; rw [← h1, ← h2]; rfl⟩, by simp [mu, cnts_nil, cnts_cons], by simp [mu, cnts_nil, cnts_cons]; omega, S0.out⟩
    case round =>
      obtain ⟨ls, rs, hiff, hpl, hgk, hM, hSI⟩ := hrel
      rcases ends ls with rfl | ⟨ms, xs, rfl⟩
      · obtain ⟨gL, gR, cL, cR, rfl, rfl, hSE⟩ := hSI
        have hSB := hSE.2.2.2.2.2.2.2.2.2
        have R : Hid (a = b ∧ Below w.heap.size w wr) := hidI ⟨hiff.2 (List.eq_nil_of_length_eq_zero (by simpa using hpl.1)).symm, hSB⟩
        clear hiff hpl hgk hM hSE hSB
        have e0 : ([] : List (List V)).length = 0 := rfl
        rw [e0]
        go_wp2_with fail
        go_ret
        exact ⟨true, rfl, ⟨fun _ => R.out.1, fun _ => rfl⟩, R.out.2⟩
      · obtain ⟨qs, ys, rfl, hpl', hxy⟩ := hpl.pop
        obtain ⟨gL, gR, cL, cR, rfl, rfl, hL, hR, n1, n2, n3, n4, n5, n6, n7, hBw⟩ := hSI
        obtain ⟨xv, px, vx, hL'⟩ := hL.pop
        obtain ⟨yv, py, vy, hR'⟩ := hR.pop
        obtain ⟨M, hgM⟩ : ∃ M, gk = M := ⟨_, rfl⟩
        rw [hgM] at hgk
        have GKM := hidI hgM
        clear hgM
        have hq : qs.length = ms.length := hpl'.1
        rw [hq] at py
        have J0 : Hid (SJ w ok ok' ia ib a b xs ys xv yv M 0 (.slice (some ⟨gL, 0, none⟩) ms.length cL) (.slice (some ⟨gR, 0, none⟩) ms.length cR) wr) := hidI ⟨ms, qs, by rw [hiff, snoc_both]; simp, hpl', by rw [hgk, mu_push]; simp; omega, by omega, vx, vy, gL, gR, cL, cR, rfl, by rw [hq], hL', hR', n1, n2, n3, n4, n5, n6, n7, hBw⟩
        have zL := hL.cap
        have zR := hR.cap
        have eL : (ms ++ [xs]).length = ms.length + 1 := by simp
        have eR : (qs ++ [ys]).length = ms.length + 1 := by simp [hq]
        rw [eL] at zL ⊢
        rw [eR] at zR ⊢
        obtain ⟨z1, z2⟩ := zL
        obtain ⟨z3, z4⟩ := zR
        obtain ⟨xa, xc, rfl⟩ := vx.form
        obtain ⟨ya, yc, rfl⟩ := vy.form
        have lx := vx.len
        have HXY := hidI hxy
        have GM : Hid (M ≤ 2000000000001) := hidI (by rw [hgk]; exact hM)
        clear hiff hpl hpl' hL hR hL' hR' hgk hM vx vy n1 n2 n3 n4 n5 n6 n7 hBw eL eR hq hxy
        have y1 : (0 : Int) ≤ (ms.length : Int) := by omega
        have y2 : (ms.length : Int) < ((ms.length + 1 : Nat) : Int) := by omega
        have y3 : (ms.length : Int) ≤ (cL : Int) := by omega
        have y4 : (ms.length : Int) ≤ (cR : Int) := by omega
        go_wp2_with fail
        go_quiet (fail)
        go_wp2_with fail
        go_quiet (fail)
        go_wp2_with fail
        go_loopg [5, 6, 39] xs.length (fun gi lv rv i wi => ∃ k : Nat, k ≤ xs.length ∧ gi = xs.length - k ∧ i = .int .i64 k ∧ SJ w ok ok' ia ib a b xs ys (.slice xa xs.length xc) (.slice ya ys.length yc) M k lv rv wi)
        case atStart => exact ⟨0, Nat.zero_le _, rfl, rfl, by first | exact J0.out | exact J0.out.bel (bel_drewN _ _) | exact J0.out.bel (Below.refl _ _)⟩
        case round =>
          obtain ⟨k, hk, hgi, rfl, ls, rs, i1, i2, i3, i4, i5, i6, gL', gR', cL', cR', rfl, rfl, i7⟩ := hrel
          have GI := hidI hgi
          have J : Hid ((a = b ↔ ls = rs ∧ xs.drop k = ys.drop k) ∧ PL ls rs ∧ mu ls + cnts (xs.drop k) + 1 ≤ M ∧ ValsIn wr (okX ok w.heap.size ia) xs (.slice xa xs.length xc) ∧ ValsIn wr (okX ok' w.heap.size ib) ys (.slice ya ys.length yc) ∧ SE w ok ok' ia ib ls rs gL' gR' cL' cR' wr) := hidI ⟨i1, i2, i3, i5, i6, i7⟩
          clear hgi i1 i2 i3 i4 i7
          by_cases hlt : k < xs.length
          · have hlt' : k < ys.length := by have := HXY.out; omega
            obtain ⟨xb, xo, p5, q5, p6, q6, rfl, x1, x2, g0, g1, g2, g3, g4, g5⟩ := i5.item hlt
            obtain ⟨yb, yo, p7, q7, p8, q8, rfl, x3, x4, f0, f1, f2, f3, f4, f5⟩ := i6.item hlt'
            clear i5 i6
            have w1 : (0 : Int) ≤ (k : Int) := by omega
            have w2 : (k : Int) < (xs.length : Int) := by omega
            have w3 : (k : Int) < (ys.length : Int) := by omega
            have CALL : Hid (∀ w', Below wr.heap.size wr w' → Calls Tryz.prog 40 #[.agg #[.int .i64 xs[k].kind, .int .i64 xs[k].n, .string ⟨xs[k].s.toArray⟩, .slice p5 xs[k].keys.length q5, .slice p6 xs[k].l.length q6], .agg #[.int .i64 ys[k].kind, .int .i64 ys[k].n, .string ⟨ys[k].s.toArray⟩, .slice p7 ys[k].keys.length q7, .slice p8 ys[k].l.length q8]] w' fun e w4 => e = .returned (.bool (aliked xs[k] ys[k])) ∧ Below wr.heap.size wr w4 ∧
                w4.cell? ⟨xb, xo + k * 5, none⟩ = some (.int .i64 xs[k].kind) ∧ w4.cell? ⟨xb, xo + k * 5 + 1, none⟩ = some (.int .i64 xs[k].n) ∧ w4.cell? ⟨xb, xo + k * 5 + 2, none⟩ = some (.string ⟨xs[k].s.toArray⟩) ∧ w4.cell? ⟨xb, xo + k * 5 + 3, none⟩ = some (.slice p5 xs[k].keys.length q5) ∧ w4.cell? ⟨xb, xo + k * 5 + 4, none⟩ = some (.slice p6 xs[k].l.length q6) ∧ w4.cell? ⟨yb, yo + k * 5, none⟩ = some (.int .i64 ys[k].kind) ∧ w4.cell? ⟨yb, yo + k * 5 + 1, none⟩ = some (.int .i64 ys[k].n) ∧ w4.cell? ⟨yb, yo + k * 5 + 2, none⟩ = some (.string ⟨ys[k].s.toArray⟩) ∧ w4.cell? ⟨yb, yo + k * 5 + 3, none⟩ = some (.slice p7 ys[k].keys.length q7) ∧ w4.cell? ⟨yb, yo + k * 5 + 4, none⟩ = some (.slice p8 ys[k].l.length q8)) := by
              intro w' hb'
              refine (alike_is w' _ _ xs[k] ys[k] _ _ (g5.bel hb') (f5.bel hb')).mono ?_
              rintro e w4 ⟨rfl, hb4⟩
              have hb5 := bel_trans hb' hb4
              exact ⟨rfl, hb5, cell_bel hb5 g0, cell_bel hb5 g1, cell_bel hb5 g2, cell_bel hb5 g3, cell_bel hb5 g4, cell_bel hb5 f0, cell_bel hb5 f1, cell_bel hb5 f2, cell_bel hb5 f3, cell_bel hb5 f4⟩
            have VX := hidI g5.vals
            have VY := hidI f5.vals
            clear g5 f5
            go_wp2_with fail
            go_region_held3 (fun w4 => w4.cell? ⟨xb, xo + k * 5, none⟩ = some (.int .i64 xs[k].kind) ∧ w4.cell? ⟨xb, xo + k * 5 + 1, none⟩ = some (.int .i64 xs[k].n) ∧ w4.cell? ⟨xb, xo + k * 5 + 2, none⟩ = some (.string ⟨xs[k].s.toArray⟩) ∧ w4.cell? ⟨xb, xo + k * 5 + 3, none⟩ = some (.slice p5 xs[k].keys.length q5) ∧ w4.cell? ⟨xb, xo + k * 5 + 4, none⟩ = some (.slice p6 xs[k].l.length q6) ∧ w4.cell? ⟨yb, yo + k * 5, none⟩ = some (.int .i64 ys[k].kind) ∧ w4.cell? ⟨yb, yo + k * 5 + 1, none⟩ = some (.int .i64 ys[k].n) ∧ w4.cell? ⟨yb, yo + k * 5 + 2, none⟩ = some (.string ⟨ys[k].s.toArray⟩) ∧ w4.cell? ⟨yb, yo + k * 5 + 3, none⟩ = some (.slice p7 ys[k].keys.length q7) ∧ w4.cell? ⟨yb, yo + k * 5 + 4, none⟩ = some (.slice p8 ys[k].l.length q8)) (go_keep)
              (first | (go_at_call 40; refine (CALL.out _ (by exact ⟨rfl, rfl, rfl, Nat.le_refl _, fun _ _ => rfl⟩)).mono ?_; rintro e w4 ⟨rfl, hb4, s0, s1, s2, s3, s4, r0, r1, r2, r3, r4⟩))
            all_goals
              have HB4 := hidI hb4
              have E4 := hidI (J.out.2.2.2.2.2.bel hb4)
              clear hb4 g0 g1 g2 g3 g4 f0 f1 f2 f3 f4 CALL s0 s1 s2 s3 r0 r1 r2 r3
              cases hr : aliked xs[k] ys[k] with
              | false =>
                have R : Hid ((¬ a = b) ∧ Below w.heap.size w w4) := hidI ⟨fun e => absurd ((drop_both hlt hlt').1 (J.out.1.1 e).2).1 (alike_no hr), E4.out.2.2.2.2.2.2.2.2.2⟩
                clear hr s4 r4
                go_wp2_with fail
                go_ret
                exact ⟨false, rfl, ⟨fun e => absurd e Bool.false_ne_true, fun e => absurd e R.out.1⟩, R.out.2⟩
              | true =>
                have HR := hidI hr
                clear hr
                by_cases h0 : xs[k].l.length = 0
                · have d0 : ¬ (0 : Int) < (xs[k].l.length : Int) := by omega
                  have FIN : Hid (SJ w ok ok' ia ib a b xs ys (.slice (some ⟨xb, xo, none⟩) xs.length xc) (.slice (some ⟨yb, yo, none⟩) ys.length yc) M (k + 1) (.slice (some ⟨gL', 0, none⟩) ls.length cL') (.slice (some ⟨gR', 0, none⟩) rs.length cR') w4) := by
                    obtain ⟨j1, j2, j3, j5, j6, j7⟩ := J.out
                    have he := alike_eq HR.out
                    have e1 : xs[k].l = [] := List.eq_nil_of_length_eq_zero h0
                    have e2 : ys[k].l = [] := List.eq_nil_of_length_eq_zero (by rw [he.2, h0])
                    have e3 : xs[k] = ys[k] := he.1.2 (by rw [e1, e2])
                    have e4 := cnts_drop hlt
                    exact hidI ⟨ls, rs, by rw [j1, drop_both hlt hlt']; simp [e3], j2, by omega, GM.out, j5.bel HB4.out, j6.bel HB4.out, gL', gR', cL', cR', rfl, rfl, E4.out⟩
                  clear h0 r4
                  go_wp2_with fail
                  go_roundg (xs.length - (k + 1))
                  case measure => rw [GI.out]; omega
                  case rel => exact ⟨k + 1, hlt, rfl, by go_num, FIN.out⟩
                · have d0 : (0 : Int) < (xs[k].l.length : Int) := by omega
                  have WL : Hid (Wait w4 w.heap.size (okX ok w.heap.size ia) ls gL' cL') := hidI E4.out.1
                  have WR : Hid (Wait w4 w.heap.size (okX ok' w.heap.size ib) rs gR' cR') := hidI E4.out.2.1
                  have VX4 : Hid (ValsIn w4 (okX ok w.heap.size ia) xs[k].l (.slice p6 xs[k].l.length q6)) := hidI (VX.out.bel HB4.out)
                  have VY4 : Hid (ValsIn w4 (okX ok' w.heap.size ib) ys[k].l (.slice p8 ys[k].l.length q8)) := hidI (VY.out.bel HB4.out)
                  have LA := hidI E4.out.lows
                  have LB := hidI E4.out.swap.lows
                  have gL4 : Hid (gL' < w4.heap.size) := hidI E4.out.1.lt.2
                  have gR4 : Hid (gR' < w4.heap.size) := hidI E4.out.2.1.lt.2
                  have nLR : Hid (gR' ≠ gL') := hidI E4.out.2.2.1.symm
                  have nRL : Hid (gL' ≠ gR') := hidI E4.out.2.2.1
                  have nLB : Hid (∀ j, (okX ok' w.heap.size ib) j → j ≠ gL') := hidI (okX_ne E4.out.1.lt.1 E4.out.2.2.2.2.2.1)
                  have nRA : Hid (∀ j, (okX ok w.heap.size ia) j → j ≠ gR') := hidI (okX_ne E4.out.2.1.lt.1 E4.out.2.2.2.2.1)
                  have nXL : Hid (xb ≠ gL') := hidI (okX_ne E4.out.1.lt.1 E4.out.2.2.2.1 _ (J.out.2.2.2.1.blk hlt))
                  have nXR : Hid (xb ≠ gR') := hidI (nRA.out _ (J.out.2.2.2.1.blk hlt))
                  have nYL : Hid (yb ≠ gL') := hidI (nLB.out _ (J.out.2.2.2.2.1.blk hlt'))
                  have nYR : Hid (yb ≠ gR') := hidI (okX_ne E4.out.2.1.lt.1 E4.out.2.2.2.2.2.2.1 _ (J.out.2.2.2.2.1.blk hlt'))
                  have nls : ls.length ≤ 5000000000000 := by have := mu_len ls; have := J.out.2.2.1; have := GM.out; omega
                  have nrs : rs.length ≤ 5000000000000 := by have := J.out.2.1.1; omega
                  have midL : Hid (∀ (W w7 : World) (g7 c7 : Nat), Below w4.heap.size w4 W → Wait w7 w.heap.size (okX ok w.heap.size ia) (ls ++ [xs[k].l]) g7 c7 → W.grownBy w7 (some gL') → (g7 = gL' ∨ W.heap.size = g7) →
                    (w7.cell? ⟨xb, xo + k * 5 + 4, none⟩ = some (.slice p6 xs[k].l.length q6) ∧ w7.cell? ⟨yb, yo + k * 5 + 4, none⟩ = some (.slice p8 ys[k].l.length q8) ∧ (∀ o, (w7.alloc o).cell? ⟨xb, xo + k * 5 + 4, none⟩ = some (.slice p6 xs[k].l.length q6)) ∧ (∀ o, (w7.alloc o).cell? ⟨yb, yo + k * 5 + 4, none⟩ = some (.slice p8 ys[k].l.length q8))) ∧
                    (∀ nb o, w4.heap.size ≤ nb → W.heap[nb]? = some o → w7.heap[nb]? = some o) ∧ Wait w7 w.heap.size (okX ok' w.heap.size ib) rs gR' cR' ∧ ValsIn w7 (okX ok' w.heap.size ib) ys[k].l (.slice p8 ys[k].l.length q8) ∧ (∀ j, (okX ok' w.heap.size ib) j → j < w7.heap.size) ∧
                    w4.grownBy w7 (some gL') ∧ Wait w7 w.heap.size (okX ok w.heap.size ia) (ls ++ [xs[k].l]) g7 c7 ∧ (g7 = gL' ∨ w4.heap.size ≤ g7)) := by
                    intro W w7 g7 c7 b1 h7 q7 o7
                    have G : w4.grownBy w7 (some gL') := gb_trans (gb_below b1) q7
                    have cx := G.cell s4 (by simpa using nXL.out)
                    have cy := G.cell r4 (by simpa using nYL.out)
                    refine ⟨⟨cx, cy, fun o => cell_bel (bel_alloc w7 o) cx, fun o => cell_bel (bel_alloc w7 o) cy⟩, fun nb o hn ho => (q7.block nb (Array.getElem?_eq_some_iff.1 ho).1 (by simp; have := gL4.out; omega)).trans ho, WR.out.far G nLR.out nLB.out, VY4.out.grown G nLB.out, fun j hj => Nat.lt_of_lt_of_le (LB.out j hj) G.size, G, h7, o7.imp id fun e => by have := b1.size; omega⟩
                  have midR : Hid (∀ (W w7 : World) (g7 c7 : Nat), Below w4.heap.size w4 W → Wait w7 w.heap.size (okX ok' w.heap.size ib) (rs ++ [ys[k].l]) g7 c7 → W.grownBy w7 (some gR') → (g7 = gR' ∨ W.heap.size = g7) →
                    (w7.cell? ⟨xb, xo + k * 5 + 4, none⟩ = some (.slice p6 xs[k].l.length q6) ∧ w7.cell? ⟨yb, yo + k * 5 + 4, none⟩ = some (.slice p8 ys[k].l.length q8) ∧ (∀ o, (w7.alloc o).cell? ⟨xb, xo + k * 5 + 4, none⟩ = some (.slice p6 xs[k].l.length q6)) ∧ (∀ o, (w7.alloc o).cell? ⟨yb, yo + k * 5 + 4, none⟩ = some (.slice p8 ys[k].l.length q8))) ∧
                    (∀ nb o, w4.heap.size ≤ nb → W.heap[nb]? = some o → w7.heap[nb]? = some o) ∧ Wait w7 w.heap.size (okX ok w.heap.size ia) ls gL' cL' ∧ ValsIn w7 (okX ok w.heap.size ia) xs[k].l (.slice p6 xs[k].l.length q6) ∧ (∀ j, (okX ok w.heap.size ia) j → j < w7.heap.size) ∧
                    w4.grownBy w7 (some gR') ∧ Wait w7 w.heap.size (okX ok' w.heap.size ib) (rs ++ [ys[k].l]) g7 c7 ∧ (g7 = gR' ∨ w4.heap.size ≤ g7)) := by
                    intro W w7 g7 c7 b1 h7 q7 o7
                    have G : w4.grownBy w7 (some gR') := gb_trans (gb_below b1) q7
                    have cx := G.cell s4 (by simpa using nXR.out)
                    have cy := G.cell r4 (by simpa using nYR.out)
                    refine ⟨⟨cx, cy, fun o => cell_bel (bel_alloc w7 o) cx, fun o => cell_bel (bel_alloc w7 o) cy⟩, fun nb o hn ho => (q7.block nb (Array.getElem?_eq_some_iff.1 ho).1 (by simp; have := gR4.out; omega)).trans ho, WL.out.far G nRL.out nRA.out, VX4.out.grown G nRA.out, fun j hj => Nat.lt_of_lt_of_le (LA.out j hj) G.size, G, h7, o7.imp id fun e => by have := b1.size; omega⟩
                  have FINL : Hid (∀ (g7 c7 g8 c8 : Nat) (w7 w8 : World), w4.grownBy w7 (some gL') → Wait w7 w.heap.size (okX ok w.heap.size ia) (ls ++ [xs[k].l]) g7 c7 → (g7 = gL' ∨ w4.heap.size ≤ g7) → w7.grownBy w8 (some gR') → Wait w8 w.heap.size (okX ok' w.heap.size ib) (rs ++ [ys[k].l]) g8 c8 → (g8 = gR' ∨ w7.heap.size ≤ g8) →
                      SJ w ok ok' ia ib a b xs ys (.slice (some ⟨xb, xo, none⟩) xs.length xc) (.slice (some ⟨yb, yo, none⟩) ys.length yc) M (k + 1) (.slice (some ⟨g7, 0, none⟩) (ls.length + 1) c7) (.slice (some ⟨g8, 0, none⟩) (rs.length + 1) c8) w8) := by
                    intro g7 c7 g8 c8 w7 w8 q7 h7 o7 q8 h8 o8
                    obtain ⟨j1, j2, j3, j5, j6, j7⟩ := J.out
                    have he := alike_eq HR.out
                    have e4 := cnts_drop hlt
                    have e5 := cnt_eq xs[k]
                    refine ⟨ls ++ [xs[k].l], rs ++ [ys[k].l], by rw [j1, drop_both hlt hlt', snoc_both, he.1, and_assoc], j2.push he.2, by rw [mu_push]; omega, GM.out, ((j5.bel HB4.out).grown q7 ?_).grown q8 nRA.out, ((j6.bel HB4.out).grown q7 nLB.out).grown q8 ?_, g7, g8, c7, c8, by simp, by simp, push_end E4.out q7 h7 o7 q8 h8 o8⟩
                    · exact okX_ne E4.out.1.lt.1 E4.out.2.2.2.1
                    · exact okX_ne E4.out.2.1.lt.1 E4.out.2.2.2.2.2.2.1
                  have FINR : Hid (∀ (g7 c7 g8 c8 : Nat) (w7 w8 : World), w4.grownBy w7 (some gR') → Wait w7 w.heap.size (okX ok' w.heap.size ib) (rs ++ [ys[k].l]) g7 c7 → (g7 = gR' ∨ w4.heap.size ≤ g7) → w7.grownBy w8 (some gL') → Wait w8 w.heap.size (okX ok w.heap.size ia) (ls ++ [xs[k].l]) g8 c8 → (g8 = gL' ∨ w7.heap.size ≤ g8) →
                      SJ w ok ok' ia ib a b xs ys (.slice (some ⟨xb, xo, none⟩) xs.length xc) (.slice (some ⟨yb, yo, none⟩) ys.length yc) M (k + 1) (.slice (some ⟨g8, 0, none⟩) (ls.length + 1) c8) (.slice (some ⟨g7, 0, none⟩) (rs.length + 1) c7) w8) := by
                    intro g7 c7 g8 c8 w7 w8 q7 h7 o7 q8 h8 o8
                    obtain ⟨j1, j2, j3, j5, j6, j7⟩ := J.out
                    have he := alike_eq HR.out
                    have e4 := cnts_drop hlt
                    have e5 := cnt_eq xs[k]
                    refine ⟨ls ++ [xs[k].l], rs ++ [ys[k].l], by rw [j1, drop_both hlt hlt', snoc_both, he.1, and_assoc], j2.push he.2, by rw [mu_push]; omega, GM.out, ((j5.bel HB4.out).grown q7 nRA.out).grown q8 ?_, ((j6.bel HB4.out).grown q7 ?_).grown q8 nLB.out, g8, g7, c8, c7, by simp, by simp, (push_end E4.out.swap q7 h7 o7 q8 h8 o8).swap⟩
                    · exact okX_ne E4.out.1.lt.1 E4.out.2.2.2.1
                    · exact okX_ne E4.out.2.1.lt.1 E4.out.2.2.2.2.2.2.1
                  have s5 : ∀ o, (w4.alloc o).cell? ⟨xb, xo + k * 5 + 4, none⟩ = some (.slice p6 xs[k].l.length q6) := fun o => cell_bel (bel_alloc w4 o) s4
                  have r5 : ∀ o, (w4.alloc o).cell? ⟨yb, yo + k * 5 + 4, none⟩ = some (.slice p8 ys[k].l.length q8) := fun o => cell_bel (bel_alloc w4 o) r4
                  have s6 : ∀ o o', ((w4.alloc o).alloc o').cell? ⟨xb, xo + k * 5 + 4, none⟩ = some (.slice p6 xs[k].l.length q6) := fun o o' => cell_bel (bel_alloc _ o') (s5 o)
                  have r6 : ∀ o o', ((w4.alloc o).alloc o').cell? ⟨yb, yo + k * 5 + 4, none⟩ = some (.slice p8 ys[k].l.length q8) := fun o o' => cell_bel (bel_alloc _ o') (r5 o)
                  clear h0
                  go_upto_region 12 with fail
                  go_region_held3 (fun w' => w'.cell? ⟨xb, xo + k * 5 + 4, none⟩ = some (.slice p6 xs[k].l.length q6) ∧ w'.cell? ⟨yb, yo + k * 5 + 4, none⟩ = some (.slice p8 ys[k].l.length q8)) (go_keep)
                    (first | (refine step_push (by rfl) _ _ (by rfl) (by rfl) (by rfl) (WL.out.bel (by first | exact Below.refl _ _ | exact bel_al (Below.refl _ _) _ | exact bel_al (bel_al (Below.refl _ _) _) _ | exact bel_dr (Below.refl _ _) | exact bel_dr (bel_al (Below.refl _ _) _) | exact bel_dr (bel_al (bel_al (Below.refl _ _) _) _) | exact bel_dr (bel_dr (Below.refl _ _)) | exact bel_dr (bel_dr (bel_al (Below.refl _ _) _)) | exact bel_dr (bel_dr (bel_al (bel_al (Below.refl _ _) _) _)) | exact bel_dr (bel_dr (bel_dr (Below.refl _ _))) | exact bel_dr (bel_dr (bel_dr (bel_al (Below.refl _ _) _))) | exact bel_dr (bel_dr (bel_dr (bel_al (bel_al (Below.refl _ _) _) _))))) (by first | exact heap_alloc_new _ _ | exact h2a _ _ _ | exact h2b _ _ _) (VX4.out.bel (by first | exact Below.refl _ _ | exact bel_al (Below.refl _ _) _ | exact bel_al (bel_al (Below.refl _ _) _) _ | exact bel_dr (Below.refl _ _) | exact bel_dr (bel_al (Below.refl _ _) _) | exact bel_dr (bel_al (bel_al (Below.refl _ _) _) _) | exact bel_dr (bel_dr (Below.refl _ _)) | exact bel_dr (bel_dr (bel_al (Below.refl _ _) _)) | exact bel_dr (bel_dr (bel_al (bel_al (Below.refl _ _) _) _)) | exact bel_dr (bel_dr (bel_dr (Below.refl _ _))) | exact bel_dr (bel_dr (bel_dr (bel_al (Below.refl _ _) _))) | exact bel_dr (bel_dr (bel_dr (bel_al (bel_al (Below.refl _ _) _) _))))) (by omega) (fun j hj => Nat.lt_of_lt_of_le (LA.out j hj) (szle (a := w4) (by first | exact Below.refl _ _ | exact bel_al (Below.refl _ _) _ | exact bel_al (bel_al (Below.refl _ _) _) _ | exact bel_dr (Below.refl _ _) | exact bel_dr (bel_al (Below.refl _ _) _) | exact bel_dr (bel_al (bel_al (Below.refl _ _) _) _) | exact bel_dr (bel_dr (Below.refl _ _)) | exact bel_dr (bel_dr (bel_al (Below.refl _ _) _)) | exact bel_dr (bel_dr (bel_al (bel_al (Below.refl _ _) _) _)) | exact bel_dr (bel_dr (bel_dr (Below.refl _ _))) | exact bel_dr (bel_dr (bel_dr (bel_al (Below.refl _ _) _))) | exact bel_dr (bel_dr (bel_dr (bel_al (bel_al (Below.refl _ _) _) _)))))) ?_; intro g7 c7 w7 h7 q7 o7; have P7 : Hid _ := hidI (midL.out _ _ _ _ (by first | exact Below.refl _ _ | exact bel_al (Below.refl _ _) _ | exact bel_al (bel_al (Below.refl _ _) _) _ | exact bel_dr (Below.refl _ _) | exact bel_dr (bel_al (Below.refl _ _) _) | exact bel_dr (bel_al (bel_al (Below.refl _ _) _) _) | exact bel_dr (bel_dr (Below.refl _ _)) | exact bel_dr (bel_dr (bel_al (Below.refl _ _) _)) | exact bel_dr (bel_dr (bel_al (bel_al (Below.refl _ _) _) _)) | exact bel_dr (bel_dr (bel_dr (Below.refl _ _))) | exact bel_dr (bel_dr (bel_dr (bel_al (Below.refl _ _) _))) | exact bel_dr (bel_dr (bel_dr (bel_al (bel_al (Below.refl _ _) _) _)))) h7 q7 o7); obtain ⟨v1, v2, v3, v4⟩ := P7.out.1; have N7 : Hid _ := hidI P7.out.2.1; clear h7 q7 o7) | (refine step_push (by rfl) _ _ (by rfl) (by rfl) (by rfl) (P7.out.2.2.1.bel (by first | exact Below.refl _ _ | exact bel_al (Below.refl _ _) _ | exact bel_al (bel_al (Below.refl _ _) _) _ | exact bel_dr (Below.refl _ _) | exact bel_dr (bel_al (Below.refl _ _) _) | exact bel_dr (bel_al (bel_al (Below.refl _ _) _) _) | exact bel_dr (bel_dr (Below.refl _ _)) | exact bel_dr (bel_dr (bel_al (Below.refl _ _) _)) | exact bel_dr (bel_dr (bel_al (bel_al (Below.refl _ _) _) _)) | exact bel_dr (bel_dr (bel_dr (Below.refl _ _))) | exact bel_dr (bel_dr (bel_dr (bel_al (Below.refl _ _) _))) | exact bel_dr (bel_dr (bel_dr (bel_al (bel_al (Below.refl _ _) _) _))))) (by first | exact heap_alloc_new _ _ | exact N7.out _ _ (by simp) (heap_alloc_new _ _) | exact N7.out _ _ (by simp) (h2a _ _ _) | exact N7.out _ _ (by simp) (h2b _ _ _)) (P7.out.2.2.2.1.bel (by first | exact Below.refl _ _ | exact bel_al (Below.refl _ _) _ | exact bel_al (bel_al (Below.refl _ _) _) _ | exact bel_dr (Below.refl _ _) | exact bel_dr (bel_al (Below.refl _ _) _) | exact bel_dr (bel_al (bel_al (Below.refl _ _) _) _) | exact bel_dr (bel_dr (Below.refl _ _)) | exact bel_dr (bel_dr (bel_al (Below.refl _ _) _)) | exact bel_dr (bel_dr (bel_al (bel_al (Below.refl _ _) _) _)) | exact bel_dr (bel_dr (bel_dr (Below.refl _ _))) | exact bel_dr (bel_dr (bel_dr (bel_al (Below.refl _ _) _))) | exact bel_dr (bel_dr (bel_dr (bel_al (bel_al (Below.refl _ _) _) _))))) (by omega) (fun j hj => Nat.lt_of_lt_of_le (P7.out.2.2.2.2.1 j hj) (szle (a := w7) (by first | exact Below.refl _ _ | exact bel_al (Below.refl _ _) _ | exact bel_al (bel_al (Below.refl _ _) _) _ | exact bel_dr (Below.refl _ _) | exact bel_dr (bel_al (Below.refl _ _) _) | exact bel_dr (bel_al (bel_al (Below.refl _ _) _) _) | exact bel_dr (bel_dr (Below.refl _ _)) | exact bel_dr (bel_dr (bel_al (Below.refl _ _) _)) | exact bel_dr (bel_dr (bel_al (bel_al (Below.refl _ _) _) _)) | exact bel_dr (bel_dr (bel_dr (Below.refl _ _))) | exact bel_dr (bel_dr (bel_dr (bel_al (Below.refl _ _) _))) | exact bel_dr (bel_dr (bel_dr (bel_al (bel_al (Below.refl _ _) _) _)))))) ?_; intro g8 c8 w8 h8 q8 o8; have P8 := hidI (two_up (a := w7) (by first | exact Below.refl _ _ | exact bel_al (Below.refl _ _) _ | exact bel_al (bel_al (Below.refl _ _) _) _ | exact bel_dr (Below.refl _ _) | exact bel_dr (bel_al (Below.refl _ _) _) | exact bel_dr (bel_al (bel_al (Below.refl _ _) _) _) | exact bel_dr (bel_dr (Below.refl _ _)) | exact bel_dr (bel_dr (bel_al (Below.refl _ _) _)) | exact bel_dr (bel_dr (bel_al (bel_al (Below.refl _ _) _) _)) | exact bel_dr (bel_dr (bel_dr (Below.refl _ _))) | exact bel_dr (bel_dr (bel_dr (bel_al (Below.refl _ _) _))) | exact bel_dr (bel_dr (bel_dr (bel_al (bel_al (Below.refl _ _) _) _)))) q8 o8); have P9 := hidI h8; have v5 := P8.out.1.cell v1 (by simpa using nXL.out); have v6 := P8.out.1.cell v2 (by simpa using nYL.out); clear h8 q8 o8) | (refine step_push (by rfl) _ _ (by rfl) (by rfl) (by rfl) (WR.out.bel (by first | exact Below.refl _ _ | exact bel_al (Below.refl _ _) _ | exact bel_al (bel_al (Below.refl _ _) _) _ | exact bel_dr (Below.refl _ _) | exact bel_dr (bel_al (Below.refl _ _) _) | exact bel_dr (bel_al (bel_al (Below.refl _ _) _) _) | exact bel_dr (bel_dr (Below.refl _ _)) | exact bel_dr (bel_dr (bel_al (Below.refl _ _) _)) | exact bel_dr (bel_dr (bel_al (bel_al (Below.refl _ _) _) _)) | exact bel_dr (bel_dr (bel_dr (Below.refl _ _))) | exact bel_dr (bel_dr (bel_dr (bel_al (Below.refl _ _) _))) | exact bel_dr (bel_dr (bel_dr (bel_al (bel_al (Below.refl _ _) _) _))))) (by first | exact heap_alloc_new _ _ | exact h2a _ _ _ | exact h2b _ _ _) (VY4.out.bel (by first | exact Below.refl _ _ | exact bel_al (Below.refl _ _) _ | exact bel_al (bel_al (Below.refl _ _) _) _ | exact bel_dr (Below.refl _ _) | exact bel_dr (bel_al (Below.refl _ _) _) | exact bel_dr (bel_al (bel_al (Below.refl _ _) _) _) | exact bel_dr (bel_dr (Below.refl _ _)) | exact bel_dr (bel_dr (bel_al (Below.refl _ _) _)) | exact bel_dr (bel_dr (bel_al (bel_al (Below.refl _ _) _) _)) | exact bel_dr (bel_dr (bel_dr (Below.refl _ _))) | exact bel_dr (bel_dr (bel_dr (bel_al (Below.refl _ _) _))) | exact bel_dr (bel_dr (bel_dr (bel_al (bel_al (Below.refl _ _) _) _))))) (by omega) (fun j hj => Nat.lt_of_lt_of_le (LB.out j hj) (szle (a := w4) (by first | exact Below.refl _ _ | exact bel_al (Below.refl _ _) _ | exact bel_al (bel_al (Below.refl _ _) _) _ | exact bel_dr (Below.refl _ _) | exact bel_dr (bel_al (Below.refl _ _) _) | exact bel_dr (bel_al (bel_al (Below.refl _ _) _) _) | exact bel_dr (bel_dr (Below.refl _ _)) | exact bel_dr (bel_dr (bel_al (Below.refl _ _) _)) | exact bel_dr (bel_dr (bel_al (bel_al (Below.refl _ _) _) _)) | exact bel_dr (bel_dr (bel_dr (Below.refl _ _))) | exact bel_dr (bel_dr (bel_dr (bel_al (Below.refl _ _) _))) | exact bel_dr (bel_dr (bel_dr (bel_al (bel_al (Below.refl _ _) _) _)))))) ?_; intro g7 c7 w7 h7 q7 o7; have P7 : Hid _ := hidI (midR.out _ _ _ _ (by first | exact Below.refl _ _ | exact bel_al (Below.refl _ _) _ | exact bel_al (bel_al (Below.refl _ _) _) _ | exact bel_dr (Below.refl _ _) | exact bel_dr (bel_al (Below.refl _ _) _) | exact bel_dr (bel_al (bel_al (Below.refl _ _) _) _) | exact bel_dr (bel_dr (Below.refl _ _)) | exact bel_dr (bel_dr (bel_al (Below.refl _ _) _)) | exact bel_dr (bel_dr (bel_al (bel_al (Below.refl _ _) _) _)) | exact bel_dr (bel_dr (bel_dr (Below.refl _ _))) | exact bel_dr (bel_dr (bel_dr (bel_al (Below.refl _ _) _))) | exact bel_dr (bel_dr (bel_dr (bel_al (bel_al (Below.refl _ _) _) _)))) h7 q7 o7); obtain ⟨v1, v2, v3, v4⟩ := P7.out.1; have N7 : Hid _ := hidI P7.out.2.1; clear h7 q7 o7) | (refine step_push (by rfl) _ _ (by rfl) (by rfl) (by rfl) (P7.out.2.2.1.bel (by first | exact Below.refl _ _ | exact bel_al (Below.refl _ _) _ | exact bel_al (bel_al (Below.refl _ _) _) _ | exact bel_dr (Below.refl _ _) | exact bel_dr (bel_al (Below.refl _ _) _) | exact bel_dr (bel_al (bel_al (Below.refl _ _) _) _) | exact bel_dr (bel_dr (Below.refl _ _)) | exact bel_dr (bel_dr (bel_al (Below.refl _ _) _)) | exact bel_dr (bel_dr (bel_al (bel_al (Below.refl _ _) _) _)) | exact bel_dr (bel_dr (bel_dr (Below.refl _ _))) | exact bel_dr (bel_dr (bel_dr (bel_al (Below.refl _ _) _))) | exact bel_dr (bel_dr (bel_dr (bel_al (bel_al (Below.refl _ _) _) _))))) (by first | exact heap_alloc_new _ _ | exact N7.out _ _ (by simp) (heap_alloc_new _ _) | exact N7.out _ _ (by simp) (h2a _ _ _) | exact N7.out _ _ (by simp) (h2b _ _ _)) (P7.out.2.2.2.1.bel (by first | exact Below.refl _ _ | exact bel_al (Below.refl _ _) _ | exact bel_al (bel_al (Below.refl _ _) _) _ | exact bel_dr (Below.refl _ _) | exact bel_dr (bel_al (Below.refl _ _) _) | exact bel_dr (bel_al (bel_al (Below.refl _ _) _) _) | exact bel_dr (bel_dr (Below.refl _ _)) | exact bel_dr (bel_dr (bel_al (Below.refl _ _) _)) | exact bel_dr (bel_dr (bel_al (bel_al (Below.refl _ _) _) _)) | exact bel_dr (bel_dr (bel_dr (Below.refl _ _))) | exact bel_dr (bel_dr (bel_dr (bel_al (Below.refl _ _) _))) | exact bel_dr (bel_dr (bel_dr (bel_al (bel_al (Below.refl _ _) _) _))))) (by omega) (fun j hj => Nat.lt_of_lt_of_le (P7.out.2.2.2.2.1 j hj) (szle (a := w7) (by first | exact Below.refl _ _ | exact bel_al (Below.refl _ _) _ | exact bel_al (bel_al (Below.refl _ _) _) _ | exact bel_dr (Below.refl _ _) | exact bel_dr (bel_al (Below.refl _ _) _) | exact bel_dr (bel_al (bel_al (Below.refl _ _) _) _) | exact bel_dr (bel_dr (Below.refl _ _)) | exact bel_dr (bel_dr (bel_al (Below.refl _ _) _)) | exact bel_dr (bel_dr (bel_al (bel_al (Below.refl _ _) _) _)) | exact bel_dr (bel_dr (bel_dr (Below.refl _ _))) | exact bel_dr (bel_dr (bel_dr (bel_al (Below.refl _ _) _))) | exact bel_dr (bel_dr (bel_dr (bel_al (bel_al (Below.refl _ _) _) _)))))) ?_; intro g8 c8 w8 h8 q8 o8; have P8 := hidI (two_up (a := w7) (by first | exact Below.refl _ _ | exact bel_al (Below.refl _ _) _ | exact bel_al (bel_al (Below.refl _ _) _) _ | exact bel_dr (Below.refl _ _) | exact bel_dr (bel_al (Below.refl _ _) _) | exact bel_dr (bel_al (bel_al (Below.refl _ _) _) _) | exact bel_dr (bel_dr (Below.refl _ _)) | exact bel_dr (bel_dr (bel_al (Below.refl _ _) _)) | exact bel_dr (bel_dr (bel_al (bel_al (Below.refl _ _) _) _)) | exact bel_dr (bel_dr (bel_dr (Below.refl _ _))) | exact bel_dr (bel_dr (bel_dr (bel_al (Below.refl _ _) _))) | exact bel_dr (bel_dr (bel_dr (bel_al (bel_al (Below.refl _ _) _) _)))) q8 o8); have P9 := hidI h8; have v5 := P8.out.1.cell v1 (by simpa using nXR.out); have v6 := P8.out.1.cell v2 (by simpa using nYR.out); clear h8 q8 o8))
                  all_goals
                    go_wp2_with fail
                    go_roundg (xs.length - (k + 1))
                    case measure => rw [GI.out]; omega
                    case rel => first
                      | exact ⟨k + 1, hlt, rfl, by go_num, FINL.out _ _ _ _ _ _ P7.out.2.2.2.2.2.1 P7.out.2.2.2.2.2.2.1 P7.out.2.2.2.2.2.2.2 P8.out.1 P9.out P8.out.2⟩
                      | exact ⟨k + 1, hlt, rfl, by go_num, FINR.out _ _ _ _ _ _ P7.out.2.2.2.2.2.1 P7.out.2.2.2.2.2.2.1 P7.out.2.2.2.2.2.2.2 P8.out.1 P9.out P8.out.2⟩
          · have FIN : Hid ((∃ ls2 rs2, (a = b ↔ ls2 = rs2) ∧ PL ls2 rs2 ∧ mu ls = mu ls2 ∧ mu ls2 ≤ 2000000000001 ∧ SI w ok ok' ia ib ls2 rs2 (.slice (some ⟨gL', 0, none⟩) ls.length cL') (.slice (some ⟨gR', 0, none⟩) rs.length cR') wr) ∧ mu ls < M) := by
              obtain ⟨j1, j2, j3, j5, j6, j7⟩ := J.out
              have l1 : xs.drop k = [] := List.drop_eq_nil_of_le (by omega)
              have l2 : ys.drop k = [] := List.drop_eq_nil_of_le (by have := HXY.out; omega)
              have := GM.out
              exact hidI ⟨⟨ls, rs, by rw [j1, l1, l2]; simp, j2, rfl, by omega, gL', gR', cL', cR', rfl, rfl, j7⟩, by omega⟩
            have d1 : ¬ (k : Int) < (xs.length : Int) := by omega
            clear i5 i6 J
            go_wp2_with fail
            go_roundg (mu ls)
            case measure => rw [GKM.out]; exact FIN.out.2
            case rel => exact FIN.out.1
end Go.Proofs.YtfbddgpekbhpfacGreatDoor

set_option linter.unusedSimpArgs false
set_option linter.unusedVariables false
namespace Go.Proofs.YtfbddgpekbhpfacGreatDoor
open Go.RowKit
attribute [local go_sem ↓] Go.wp_at_zero Go.wp_at_succ

def okE (ok : Nat → Prop) (B C g : Nat) : Nat → Prop := fun k => (ok k ∧ k < B) ∨ (C ≤ k ∧ k ≠ g)
theorem okE_low {ok : Nat → Prop} {B C g : Nat} : ∀ k, (ok k ∧ k < B) → okE ok B C g k := fun _ h => .inl h
theorem okE_up {ok : Nat → Prop} {B C g H : Nat} (h1 : C ≤ H) (h2 : g < H) : ∀ k, okN (okE ok B C g) H k → okE ok B C g k := by
  intro k hk
  rcases hk with hk | hk
  · exact hk
  · exact .inr ⟨by omega, by omega⟩
theorem okE_out {ok : Nat → Prop} {B C g : Nat} (h : B ≤ C) : ∀ k, okE ok B C g k → okN ok B k := by
  intro k hk
  rcases hk with hk | hk
  · exact .inl hk.1
  · exact .inr (by omega)
theorem okE_ne {ok : Nat → Prop} {B C g : Nat} (h : B ≤ g) : ∀ k, okE ok B C g k → k ≠ g := by
  intro k hk
  rcases hk with hk | hk <;> omega
theorem okE_ne2 {ok : Nat → Prop} {B C g x : Nat} (h1 : B ≤ x) (h2 : x < C) : ∀ k, okE ok B C g k → k ≠ x := by
  intro k hk
  rcases hk with hk | hk <;> omega
theorem foldD_len {f : V → V → V} {a : V} : ∀ (ps : List (List UInt8 × V)) (v : V), (ps.foldl (stepD f a) v).l.length ≤ v.l.length + ps.length
  | [], v => by simp
  | p :: ps, v => by
    have h1 := foldD_len (f := f) (a := a) ps (stepD f a v p)
    have h2 : (stepD f a v p).l.length ≤ v.l.length + 1 := by
      unfold stepD
      split
      · exact with_items _ _ _
      · split
        · omega
        · exact with_items _ _ _
    rw [List.foldl_cons, List.length_cons]; omega
theorem diff_at {E : Nat} {a b : V} {k : Nat} (ha : Nice a) (hb : Nice b) : Ob (((b.keys.zip b.l).take k).foldl (stepD (diffF E) a) (goneV a b)) ∧ (((b.keys.zip b.l).take k).foldl (stepD (diffF E) a) (goneV a b)).l.length ≤ 240 := by
  refine ⟨fold_ob (stepD_ob _ _) _ _ (gone_ob a b), ?_⟩
  have h1 := foldD_len (f := diffF E) (a := a) ((b.keys.zip b.l).take k) (goneV a b)
  have h2 : (goneV a b).l.length ≤ 120 := by
    have h5 := (gone_at (a := a) (b := b) (k := (a.keys.zip a.l).length) ha).2
    rw [List.take_of_length_le (Nat.le_refl _)] at h5
    exact h5
  have h3 := nice_len hb
  have h4 : ((b.keys.zip b.l).take k).length ≤ b.l.length := by rw [List.length_take, List.length_zip]; omega
  omega
def OtC (E : Nat) : Prop := ∀ (w : World) (ok : Nat → Prop) (a b : V) (va vb : Value), In w ok a va → In w ok b vb → Nice a → Nice b → Dep E b →
  Calls Tryz.prog 17 #[va, vb] w fun e w' => ∃ r, e = .returned r ∧ Below w.heap.size w w' ∧ In w' (okN ok w.heap.size) (diffF E a b) r
def OtI (w : World) (ok : Nat → Prop) (E : Nat) (a b : V) (a1 a2 a3 a4 : Option Addr) (c1 c2 c3 c4 gd k : Nat) (wr : World) : Prop :=
  ∃ (y : V) (a5 a6 : Option Addr) (c5 c6 : Nat), y = ((b.keys.zip b.l).take k).foldl (stepD (diffF E) a) (goneV a b) ∧ (BoxIs wr w.heap.size (.int .i64 a.kind) (.int .i64 a.n) (.string ⟨a.s.toArray⟩) (.slice a1 a.keys.length c1) (.slice a2 a.l.length c2) ∧ BoxIs wr (w.heap.size + 1) (.int .i64 b.kind) (.int .i64 b.n) (.string ⟨b.s.toArray⟩) (.slice a3 b.keys.length c3) (.slice a4 b.l.length c4) ∧ BoxIs wr (w.heap.size + 2) (.int .i64 0) (.int .i64 0) (.string ⟨#[]⟩) (.slice none 0 0) (.slice none 0 0) ∧ BoxIs wr gd (.int .i64 y.kind) (.int .i64 y.n) (.string ⟨y.s.toArray⟩) (.slice a5 y.keys.length c5) (.slice a6 y.l.length c6)) ∧ Below w.heap.size w wr ∧ In wr (okE ok w.heap.size (w.heap.size + 3) gd) y (.agg #[.int .i64 y.kind, .int .i64 y.n, .string ⟨y.s.toArray⟩, .slice a5 y.keys.length c5, .slice a6 y.l.length c6])

set_option maxRecDepth 100000 in
set_option maxHeartbeats 40000000 in
theorem other_succ (E : Nat) (ih : OtC E) : OtC (E + 1) := by
  intro w ok a b va vb h hb na nb hd
  have H := hidI h.low
  have HB := hidI hb.low
  have NA := hidI na
  have NB := hidI nb
  have HD := hidI hd
  have IH := hidI ih
  obtain ⟨l1, l2, l3⟩ := h.lens
  obtain ⟨l4, l5, l6⟩ := hb.lens
  obtain ⟨a1, a2, c1, c2, rfl⟩ := h.form
  obtain ⟨a3, a4, c3, c4, rfl⟩ := hb.form
  clear h hb ih na nb hd
  have B3 : Hid (∀ o1 o2 o3, Below w.heap.size w (((w.alloc o1).alloc o2).alloc o3)) := fun o1 o2 o3 => bel_trans (bel_trans (bel_alloc _ _) (bel_alloc _ _)) (bel_alloc _ _)
  by_cases hab : a.kind = 5 ∧ b.kind = 5
  · obtain ⟨hka, hkb⟩ := hab
    have e0 : (a.kind != 5) = false := by rw [hka]; rfl
    have e1 : (b.kind != 5) = false := by rw [hkb]; rfl
    have OA : Hid (Ob a) := hidI (nice_ob NA.out hka)
    have OB : Hid (Ob b) := hidI (nice_ob NB.out hkb)
    have HM : Hid (diffF (E + 1) a b = (b.keys.zip b.l).foldl (stepD (diffF E) a) (goneV a b)) := hidI (by rw [diffF, if_pos ⟨hka, hkb⟩])
    have HKL : Hid (b.keys.length = b.l.length) := hidI OB.out.2.2.2.1
    clear hka hkb
    go_enter Tryz.func17, Tryz.ntmps17
    go_wp2_with fail
    refine (gone_is _ (fun j => ok j ∧ j < w.heap.size) a b _ _ (by exact H.out.bel (B3.out _ _ _)) (by exact HB.out.bel (B3.out _ _ _)) NA.out OA.out).mono ?_
    rintro e w1 ⟨r, rfl, hb1, hr⟩
    obtain ⟨y, hy⟩ : ∃ y, goneV a b = y := ⟨_, rfl⟩
    rw [hy] at hr
    obtain ⟨a5, a6, c5, c6, rfl⟩ := hr.form
    obtain ⟨gd, hgd⟩ : ∃ gd, w1.heap.size = gd := ⟨_, rfl⟩
    have hbb := bel_trans (B3.out (.cells #[.int .i64 a.kind, .int .i64 a.n, .string ⟨a.s.toArray⟩, .slice a1 a.keys.length c1, .slice a2 a.l.length c2] 25) (.cells #[.int .i64 b.kind, .int .i64 b.n, .string ⟨b.s.toArray⟩, .slice a3 b.keys.length c3, .slice a4 b.l.length c4] 25) (.cells #[.int .i64 0, .int .i64 0, .string ⟨#[]⟩, .slice none 0 0, .slice none 0 0] 25)) (bel_trans hb1 (bel_alloc w1 (.cells #[.int .i64 y.kind, .int .i64 y.n, .string ⟨y.s.toArray⟩, .slice a5 y.keys.length c5, .slice a6 y.l.length c6] 25)))
    have hgl : w.heap.size + 3 ≤ gd := by
      have := hb1.size
      simp at this
      omega
    have I0 : Hid (OtI w ok E a b a1 a2 a3 a4 c1 c2 c3 c4 gd 0 (w1.alloc (.cells #[.int .i64 y.kind, .int .i64 y.n, .string ⟨y.s.toArray⟩, .slice a5 y.keys.length c5, .slice a6 y.l.length c6] 25))) := by
      have hbc := bel_trans hb1 (bel_alloc w1 (.cells #[.int .i64 y.kind, .int .i64 y.n, .string ⟨y.s.toArray⟩, .slice a5 y.keys.length c5, .slice a6 y.l.length c6] 25))
      refine hidI ⟨y, a5, a6, c5, c6, hy.symm, ⟨box_bel hbc (h3a w _ _ _), box_bel hbc (h3b w _ _ _), box_bel hbc (h3c w _ _ _), by rw [← hgd]; exact heap_alloc_new w1 _⟩, hbb, ((hr.low.bel (bel_alloc w1 _)).weak ?_)⟩
      rintro j ⟨hj, hj2⟩
      rcases hj with hj | hj
      · exact .inl hj
      · refine .inr ⟨?_, by omega⟩
        have : (((w.alloc (.cells #[.int .i64 a.kind, .int .i64 a.n, .string ⟨a.s.toArray⟩, .slice a1 a.keys.length c1, .slice a2 a.l.length c2] 25)).alloc (.cells #[.int .i64 b.kind, .int .i64 b.n, .string ⟨b.s.toArray⟩, .slice a3 b.keys.length c3, .slice a4 b.l.length c4] 25)).alloc (.cells #[.int .i64 0, .int .i64 0, .string ⟨#[]⟩, .slice none 0 0, .slice none 0 0] 25)).heap.size = w.heap.size + 3 := by simp
        omega
    have HGD := hidI hgd
    have p3 := (box_bel (bel_trans hb1 (bel_alloc w1 (.cells #[.int .i64 y.kind, .int .i64 y.n, .string ⟨y.s.toArray⟩, .slice a5 y.keys.length c5, .slice a6 y.l.length c6] 25))) (h3b w _ _ _)).c.2.2.2.1
    clear hy hr hb1 hbb
    go_wp2_with fail
    clear hgd
    go_loopg [25] b.keys.length (fun gk i wr => ∃ k : Nat, k ≤ b.keys.length ∧ gk = b.keys.length - k ∧ i = .int .i64 k ∧ OtI w ok E a b a1 a2 a3 a4 c1 c2 c3 c4 gd k wr)
    case atStart => exact ⟨0, Nat.zero_le _, rfl, rfl, by first | exact I0.out | (rw [HGD.out] at I0; exact I0.out)⟩
    case round =>
      obtain ⟨k, hk, hgk, rfl, y, a5, a6, c5, c6, i0, i1, i5, i6⟩ := hrel
      have GK := hidI hgk
      have I : Hid (y = ((b.keys.zip b.l).take k).foldl (stepD (diffF E) a) (goneV a b) ∧ (BoxIs wr w.heap.size (.int .i64 a.kind) (.int .i64 a.n) (.string ⟨a.s.toArray⟩) (.slice a1 a.keys.length c1) (.slice a2 a.l.length c2) ∧ BoxIs wr (w.heap.size + 1) (.int .i64 b.kind) (.int .i64 b.n) (.string ⟨b.s.toArray⟩) (.slice a3 b.keys.length c3) (.slice a4 b.l.length c4) ∧ BoxIs wr (w.heap.size + 2) (.int .i64 0) (.int .i64 0) (.string ⟨#[]⟩) (.slice none 0 0) (.slice none 0 0) ∧ BoxIs wr gd (.int .i64 y.kind) (.int .i64 y.n) (.string ⟨y.s.toArray⟩) (.slice a5 y.keys.length c5) (.slice a6 y.l.length c6)) ∧ Below w.heap.size w wr ∧ In wr (okE ok w.heap.size (w.heap.size + 3) gd) y (.agg #[.int .i64 y.kind, .int .i64 y.n, .string ⟨y.s.toArray⟩, .slice a5 y.keys.length c5, .slice a6 y.l.length c6])) := hidI ⟨i0, i1, i5, i6⟩
      have hwsz := i1.2.2.2.lt
      obtain ⟨p0, p1, p2, p3, p4, -⟩ := i1.1.c
      clear hgk i0 i1 i5 i6
      by_cases hlt : k < b.keys.length
      · have hlt' : k < b.l.length := by have := HKL.out; omega
        obtain ⟨kb, ko, rfl, j1, j2, jk, jl⟩ := HB.out.key hlt
        obtain ⟨xb, xo, b5, d5, b6, d6, rfl, j3, j4, g0, g1, g2, g3, g4, g5⟩ := HB.out.item hlt'
        replace jk := cell_bel I.out.2.2.1 jk
        have w1 : (0 : Int) ≤ (k : Int) := by omega
        have w2 : (k : Int) < (b.l.length : Int) := by omega
        have w3 : (k : Int) < (b.keys.length : Int) := by omega
        have DA : Hid (Ob y ∧ y.l.length ≤ 240) := hidI (by rw [I.out.1]; exact diff_at NA.out NB.out)
        have ST : Hid (∀ u, u = stepD (diffF E) a y (b.keys[k], b.l[k]) → u = ((b.keys.zip b.l).take (k + 1)).foldl (stepD (diffF E) a) (goneV a b)) := hidI (by rintro u rfl; rw [zip_step hlt hlt', ← I.out.1])
        go_wp2_with fail
        refine (member_was _ (okE ok w.heap.size (w.heap.size + 3) gd) a _ b.keys[k] (by exact (H.out.bel I.out.2.2.1).weak okE_low)).mono ?_
        rintro e w4 ⟨r, rfl, hb4, hr⟩
        obtain ⟨q, hq⟩ : ∃ q, (memV a b.keys[k]).getD zeroT = q := ⟨_, rfl⟩
        rw [hq] at hr
        have NQ : Hid (Nice q) := hidI (by
          rw [← hq]
          cases hm : memV a b.keys[k] with
          | none => exact nice_zero
          | some x => exact nice_mem NA.out (mem_in hm))
        have HQ := hidI hq
        obtain ⟨a7, a8, c7, c8, rfl⟩ := hr.form
        have hbb := bel_trans hb4 (bel_alloc w4 (.cells #[.int .i64 q.kind, .int .i64 q.n, .string ⟨q.s.toArray⟩, .slice a7 q.keys.length c7, .slice a8 q.l.length c8] 25))
        have hbw := bel_trans I.out.2.2.1 hbb
        have K : Hid ((BoxIs (w4.alloc (.cells #[.int .i64 q.kind, .int .i64 q.n, .string ⟨q.s.toArray⟩, .slice a7 q.keys.length c7, .slice a8 q.l.length c8] 25)) w.heap.size (.int .i64 a.kind) (.int .i64 a.n) (.string ⟨a.s.toArray⟩) (.slice a1 a.keys.length c1) (.slice a2 a.l.length c2) ∧ BoxIs (w4.alloc (.cells #[.int .i64 q.kind, .int .i64 q.n, .string ⟨q.s.toArray⟩, .slice a7 q.keys.length c7, .slice a8 q.l.length c8] 25)) (w.heap.size + 1) (.int .i64 b.kind) (.int .i64 b.n) (.string ⟨b.s.toArray⟩) (.slice (some ⟨kb, ko, none⟩) b.keys.length c3) (.slice (some ⟨xb, xo, none⟩) b.l.length c4) ∧ BoxIs (w4.alloc (.cells #[.int .i64 q.kind, .int .i64 q.n, .string ⟨q.s.toArray⟩, .slice a7 q.keys.length c7, .slice a8 q.l.length c8] 25)) (w.heap.size + 2) (.int .i64 0) (.int .i64 0) (.string ⟨#[]⟩) (.slice none 0 0) (.slice none 0 0) ∧ BoxIs (w4.alloc (.cells #[.int .i64 q.kind, .int .i64 q.n, .string ⟨q.s.toArray⟩, .slice a7 q.keys.length c7, .slice a8 q.l.length c8] 25)) gd (.int .i64 y.kind) (.int .i64 y.n) (.string ⟨y.s.toArray⟩) (.slice a5 y.keys.length c5) (.slice a6 y.l.length c6)) ∧ BoxIs (w4.alloc (.cells #[.int .i64 q.kind, .int .i64 q.n, .string ⟨q.s.toArray⟩, .slice a7 q.keys.length c7, .slice a8 q.l.length c8] 25)) w4.heap.size (.int .i64 q.kind) (.int .i64 q.n) (.string ⟨q.s.toArray⟩) (.slice a7 q.keys.length c7) (.slice a8 q.l.length c8) ∧ Below w.heap.size w (w4.alloc (.cells #[.int .i64 q.kind, .int .i64 q.n, .string ⟨q.s.toArray⟩, .slice a7 q.keys.length c7, .slice a8 q.l.length c8] 25)) ∧ In (w4.alloc (.cells #[.int .i64 q.kind, .int .i64 q.n, .string ⟨q.s.toArray⟩, .slice a7 q.keys.length c7, .slice a8 q.l.length c8] 25)) (okE ok w.heap.size (w.heap.size + 3) gd) y (.agg #[.int .i64 y.kind, .int .i64 y.n, .string ⟨y.s.toArray⟩, .slice a5 y.keys.length c5, .slice a6 y.l.length c6]) ∧ In (w4.alloc (.cells #[.int .i64 q.kind, .int .i64 q.n, .string ⟨q.s.toArray⟩, .slice a7 q.keys.length c7, .slice a8 q.l.length c8] 25)) (okE ok w.heap.size (w.heap.size + 3) gd) q (.agg #[.int .i64 q.kind, .int .i64 q.n, .string ⟨q.s.toArray⟩, .slice a7 q.keys.length c7, .slice a8 q.l.length c8]) ∧ In (w4.alloc (.cells #[.int .i64 q.kind, .int .i64 q.n, .string ⟨q.s.toArray⟩, .slice a7 q.keys.length c7, .slice a8 q.l.length c8] 25)) (okE ok w.heap.size (w.heap.size + 3) gd) b.l[k] (.agg #[.int .i64 b.l[k].kind, .int .i64 b.l[k].n, .string ⟨b.l[k].s.toArray⟩, .slice b5 b.l[k].keys.length d5, .slice b6 b.l[k].l.length d6]) ∧ gd < (w4.alloc (.cells #[.int .i64 q.kind, .int .i64 q.n, .string ⟨q.s.toArray⟩, .slice a7 q.keys.length c7, .slice a8 q.l.length c8] 25)).heap.size) := hidI ⟨⟨box_bel hbb I.out.2.1.1, box_bel hbb I.out.2.1.2.1, box_bel hbb I.out.2.1.2.2.1, box_bel hbb I.out.2.1.2.2.2⟩, heap_alloc_new w4 _, hbw, I.out.2.2.2.bel hbb, hr.bel (bel_alloc _ _), (g5.bel hbw).weak okE_low, Nat.lt_of_lt_of_le hwsz hbb.size⟩
        replace g0 := cell_bel hbw g0
        replace g1 := cell_bel hbw g1
        replace g2 := cell_bel hbw g2
        replace g3 := cell_bel hbw g3
        replace g4 := cell_bel hbw g4
        have conW : Hid (∀ (w5 : World) (z : V) (b7 b8 : Option Addr) (d7 d8 : Nat), Below (w4.alloc (.cells #[.int .i64 q.kind, .int .i64 q.n, .string ⟨q.s.toArray⟩, .slice a7 q.keys.length c7, .slice a8 q.l.length c8] 25)).heap.size (w4.alloc (.cells #[.int .i64 q.kind, .int .i64 q.n, .string ⟨q.s.toArray⟩, .slice a7 q.keys.length c7, .slice a8 q.l.length c8] 25)) w5 → In w5 (okE ok w.heap.size (w.heap.size + 3) gd) z (.agg #[.int .i64 z.kind, .int .i64 z.n, .string ⟨z.s.toArray⟩, .slice b7 z.keys.length d7, .slice b8 z.l.length d8]) → ∀ W, W.heap = w5.heap → W.os = w5.os → W.tape = w5.tape → W.output = w5.output → Calls Tryz.prog 24 #[.agg #[.int .i64 y.kind, .int .i64 y.n, .string ⟨y.s.toArray⟩, .slice a5 y.keys.length c5, .slice a6 y.l.length c6], .string ⟨b.keys[k].toArray⟩, .agg #[.int .i64 z.kind, .int .i64 z.n, .string ⟨z.s.toArray⟩, .slice b7 z.keys.length d7, .slice b8 z.l.length d8]] W fun e w6 => ∃ (u : V) (e5 e6 : Option Addr) (f5 f6 : Nat), e = .returned (.agg #[.int .i64 u.kind, .int .i64 u.n, .string ⟨u.s.toArray⟩, .slice e5 u.keys.length f5, .slice e6 u.l.length f6]) ∧ u = withV y b.keys[k] z ∧ Below w5.heap.size w5 w6 ∧ In w6 (okE ok w.heap.size (w.heap.size + 3) gd) u (.agg #[.int .i64 u.kind, .int .i64 u.n, .string ⟨u.s.toArray⟩, .slice e5 u.keys.length f5, .slice e6 u.l.length f6])) := by
          intro w5 z b7 b8 d7 d8 hb5 hz W e1 e2 e3 e4
          have hbW : Below w5.heap.size w5 W := be0 e1 e2 e3 e4
          refine (with_is W (okE ok w.heap.size (w.heap.size + 3) gd) y z _ _ b.keys[k] ((K.out.2.2.2.1.bel hb5).bel hbW) (hz.bel hbW) DA.out.1.paired (by have := DA.out.2; omega) jl).mono ?_
          rintro e w6 ⟨r, rfl, hr, hb⟩
          obtain ⟨e5, e6, f5, f6, rfl⟩ := hr.form
          have s1 := hb5.size
          have s2 := hbW.size
          have s3 := K.out.2.2.2.2.2.2
          exact ⟨_, e5, e6, f5, f6, rfl, rfl, bel_trans hbW hb, hr.weak (okE_up (by omega) (by omega))⟩
        have FIN : Hid (∀ (w6 : World) (u : V) (e5 e6 : Option Addr) (f5 f6 : Nat), Below (w4.alloc (.cells #[.int .i64 q.kind, .int .i64 q.n, .string ⟨q.s.toArray⟩, .slice a7 q.keys.length c7, .slice a8 q.l.length c8] 25)).heap.size (w4.alloc (.cells #[.int .i64 q.kind, .int .i64 q.n, .string ⟨q.s.toArray⟩, .slice a7 q.keys.length c7, .slice a8 q.l.length c8] 25)) w6 → u = stepD (diffF E) a y (b.keys[k], b.l[k]) → In w6 (okE ok w.heap.size (w.heap.size + 3) gd) u (.agg #[.int .i64 u.kind, .int .i64 u.n, .string ⟨u.s.toArray⟩, .slice e5 u.keys.length f5, .slice e6 u.l.length f6]) → OtI w ok E a b a1 a2 (some ⟨kb, ko, none⟩) (some ⟨xb, xo, none⟩) c1 c2 c3 c4 gd (k + 1) (set5 w6 gd (.int .i64 u.kind) (.int .i64 u.n) (.string ⟨u.s.toArray⟩) (.slice e5 u.keys.length f5) (.slice e6 u.l.length f6))) := by
          intro w6 u e5 e6 f5 f6 hb6 hu hr
          have gs := set5_gb w6 gd (.int .i64 u.kind) (.int .i64 u.n) (.string ⟨u.s.toArray⟩) (.slice e5 u.keys.length f5) (.slice e6 u.l.length f6)
          refine ⟨u, e5, e6, f5, f6, ST.out u hu, ⟨(box_bel hb6 K.out.1.1).grown gs (by simp; omega), (box_bel hb6 K.out.1.2.1).grown gs (by simp; omega), (box_bel hb6 K.out.1.2.2.1).grown gs (by simp; omega), (box_bel hb6 K.out.1.2.2.2).set _ _ _ _ _⟩, bel_set5 (bel_trans K.out.2.2.1 hb6) (by omega) _ _ _ _ _, hr.grown gs (okE_ne (by omega))⟩
        clear hq hr hb4 hbb hbw p0 p1 p2 p3 p4 jk g5
        obtain ⟨y0, y1, y2, y3, y4, -⟩ := K.out.1.2.2.2.c
        have p4 := K.out.1.2.1.c.2.2.2.2.1
        cases hm : memV a b.keys[k] with
        | none =>
          have HS : Hid (∀ z, z = b.l[k] → withV y b.keys[k] z = stepD (diffF E) a y (b.keys[k], b.l[k])) := hidI (by rintro z rfl; unfold stepD; simp only [hm])
          clear hm
          rw [show (none : Option V).isSome = false from rfl]
          go_wp2_with fail
          go_region_with ((go_at_call 24; refine (conW.out _ _ _ _ _ _ (Below.refl _ _) K.out.2.2.2.2.2.1 _ (by rfl) (by rfl) (by rfl) (by rfl)).mono ?_; rintro e w6 ⟨u, e5, e6, f5, f6, rfl, hu1, hu2, hu3⟩; have U := hidI (FIN.out _ _ _ _ _ _ hu2 (hu1.trans (HS.out _ rfl)) hu3); obtain ⟨t0, t1, t2, t3, t4, t5, t6, t7, t8, t9⟩ := (box_bel hu2 K.out.1.2.2.2).c; clear hu1 hu2 hu3))
          all_goals
            go_wp2_with fail
            go_roundg (b.keys.length - (k + 1))
            case measure => rw [GK.out]; omega
            case rel => exact ⟨k + 1, hlt, rfl, by go_num, U.out⟩
        | some q' =>
          have hqq : q = q' := by have := HQ.out; rw [hm] at this; exact this.symm
          subst hqq
          have HM2 := hidI hm
          clear hm
          rw [show (some q).isSome = true from rfl]
          have bk := K.out.1.2.1.c.2.2.2.2.1
          obtain ⟨q0, q1, q2, q3, q4, -⟩ := K.out.2.1.c
          by_cases hsm : q = b.l[k]
          · have FIN0 : Hid (∀ w5, Below (w4.alloc (.cells #[.int .i64 q.kind, .int .i64 q.n, .string ⟨q.s.toArray⟩, .slice a7 q.keys.length c7, .slice a8 q.l.length c8] 25)).heap.size (w4.alloc (.cells #[.int .i64 q.kind, .int .i64 q.n, .string ⟨q.s.toArray⟩, .slice a7 q.keys.length c7, .slice a8 q.l.length c8] 25)) w5 → OtI w ok E a b a1 a2 (some ⟨kb, ko, none⟩) (some ⟨xb, xo, none⟩) c1 c2 c3 c4 gd (k + 1) w5) := hidI (fun w5 hb5 => ⟨y, a5, a6, c5, c6, ST.out y (by unfold stepD; simp only [HM2.out, if_pos hsm]), ⟨box_bel hb5 K.out.1.1, box_bel hb5 K.out.1.2.1, box_bel hb5 K.out.1.2.2.1, box_bel hb5 K.out.1.2.2.2⟩, bel_trans K.out.2.2.1 hb5, K.out.2.2.2.1.bel hb5⟩)
            have conS : Hid (∀ W, W.heap = (w4.alloc (.cells #[.int .i64 q.kind, .int .i64 q.n, .string ⟨q.s.toArray⟩, .slice a7 q.keys.length c7, .slice a8 q.l.length c8] 25)).heap → W.os = w4.os → W.tape = w4.tape → W.output = w4.output → Calls Tryz.prog 30 #[.agg #[.int .i64 q.kind, .int .i64 q.n, .string ⟨q.s.toArray⟩, .slice a7 q.keys.length c7, .slice a8 q.l.length c8], .agg #[.int .i64 b.l[k].kind, .int .i64 b.l[k].n, .string ⟨b.l[k].s.toArray⟩, .slice b5 b.l[k].keys.length d5, .slice b6 b.l[k].l.length d6]] W fun e w5 => e = .returned (.bool true) ∧ Below (w4.alloc (.cells #[.int .i64 q.kind, .int .i64 q.n, .string ⟨q.s.toArray⟩, .slice a7 q.keys.length c7, .slice a8 q.l.length c8] 25)).heap.size (w4.alloc (.cells #[.int .i64 q.kind, .int .i64 q.n, .string ⟨q.s.toArray⟩, .slice a7 q.keys.length c7, .slice a8 q.l.length c8] 25)) w5) := by
              intro W e1 e2 e3 e4
              have hbW : Below (w4.alloc (.cells #[.int .i64 q.kind, .int .i64 q.n, .string ⟨q.s.toArray⟩, .slice a7 q.keys.length c7, .slice a8 q.l.length c8] 25)).heap.size (w4.alloc (.cells #[.int .i64 q.kind, .int .i64 q.n, .string ⟨q.s.toArray⟩, .slice a7 q.keys.length c7, .slice a8 q.l.length c8] 25)) W := be0 e1 e2 e3 e4
              refine (same_run W (okE ok w.heap.size (w.heap.size + 3) gd) (okE ok w.heap.size (w.heap.size + 3) gd) q b.l[k] _ _ (K.out.2.2.2.2.1.bel hbW) (K.out.2.2.2.2.2.1.bel hbW) (by have := nice_cnt NQ.out; omega)).mono ?_
              rintro e w5 ⟨r, rfl, hr, hb⟩
              exact ⟨by rw [hr.2 hsm], bel_trans hbW hb⟩
            have HSM := hidI hsm
            clear hsm
            go_wp2_with fail
            go_region_with ((go_at_call 30; refine (conS.out _ (by rfl) (by rfl) (by rfl) (by rfl)).mono ?_; rintro e w5 ⟨rfl, hb5⟩; have U := hidI (FIN0.out _ hb5); clear hb5))
            all_goals
              go_wp2_with fail
              go_roundg (b.keys.length - (k + 1))
              case measure => rw [GK.out]; omega
              case rel => exact ⟨k + 1, hlt, rfl, by go_num, U.out⟩
          · have HS : Hid (withV y b.keys[k] (diffF E q b.l[k]) = stepD (diffF E) a y (b.keys[k], b.l[k])) := hidI (by unfold stepD; simp only [HM2.out, if_neg hsm])
            have conS : Hid (∀ W, W.heap = (w4.alloc (.cells #[.int .i64 q.kind, .int .i64 q.n, .string ⟨q.s.toArray⟩, .slice a7 q.keys.length c7, .slice a8 q.l.length c8] 25)).heap → W.os = w4.os → W.tape = w4.tape → W.output = w4.output → Calls Tryz.prog 30 #[.agg #[.int .i64 q.kind, .int .i64 q.n, .string ⟨q.s.toArray⟩, .slice a7 q.keys.length c7, .slice a8 q.l.length c8], .agg #[.int .i64 b.l[k].kind, .int .i64 b.l[k].n, .string ⟨b.l[k].s.toArray⟩, .slice b5 b.l[k].keys.length d5, .slice b6 b.l[k].l.length d6]] W fun e w5 => e = .returned (.bool false) ∧ Below (w4.alloc (.cells #[.int .i64 q.kind, .int .i64 q.n, .string ⟨q.s.toArray⟩, .slice a7 q.keys.length c7, .slice a8 q.l.length c8] 25)).heap.size (w4.alloc (.cells #[.int .i64 q.kind, .int .i64 q.n, .string ⟨q.s.toArray⟩, .slice a7 q.keys.length c7, .slice a8 q.l.length c8] 25)) w5) := by
              intro W e1 e2 e3 e4
              have hbW : Below (w4.alloc (.cells #[.int .i64 q.kind, .int .i64 q.n, .string ⟨q.s.toArray⟩, .slice a7 q.keys.length c7, .slice a8 q.l.length c8] 25)).heap.size (w4.alloc (.cells #[.int .i64 q.kind, .int .i64 q.n, .string ⟨q.s.toArray⟩, .slice a7 q.keys.length c7, .slice a8 q.l.length c8] 25)) W := be0 e1 e2 e3 e4
              refine (same_run W (okE ok w.heap.size (w.heap.size + 3) gd) (okE ok w.heap.size (w.heap.size + 3) gd) q b.l[k] _ _ (K.out.2.2.2.2.1.bel hbW) (K.out.2.2.2.2.2.1.bel hbW) (by have := nice_cnt NQ.out; omega)).mono ?_
              rintro e w5 ⟨r, rfl, hr, hb⟩
              cases r with
              | false => exact ⟨rfl, bel_trans hbW hb⟩
              | true => exact absurd (hr.1 rfl) hsm
            have conO : Hid (∀ (w5 : World), Below (w4.alloc (.cells #[.int .i64 q.kind, .int .i64 q.n, .string ⟨q.s.toArray⟩, .slice a7 q.keys.length c7, .slice a8 q.l.length c8] 25)).heap.size (w4.alloc (.cells #[.int .i64 q.kind, .int .i64 q.n, .string ⟨q.s.toArray⟩, .slice a7 q.keys.length c7, .slice a8 q.l.length c8] 25)) w5 → ∀ W, W.heap = w5.heap → W.os = w5.os → W.tape = w5.tape → W.output = w5.output → Calls Tryz.prog 17 #[.agg #[.int .i64 q.kind, .int .i64 q.n, .string ⟨q.s.toArray⟩, .slice a7 q.keys.length c7, .slice a8 q.l.length c8], .agg #[.int .i64 b.l[k].kind, .int .i64 b.l[k].n, .string ⟨b.l[k].s.toArray⟩, .slice b5 b.l[k].keys.length d5, .slice b6 b.l[k].l.length d6]] W fun e w6 => ∃ (z : V) (b7 b8 : Option Addr) (d7 d8 : Nat), e = .returned (.agg #[.int .i64 z.kind, .int .i64 z.n, .string ⟨z.s.toArray⟩, .slice b7 z.keys.length d7, .slice b8 z.l.length d8]) ∧ z = diffF E q b.l[k] ∧ Below (w4.alloc (.cells #[.int .i64 q.kind, .int .i64 q.n, .string ⟨q.s.toArray⟩, .slice a7 q.keys.length c7, .slice a8 q.l.length c8] 25)).heap.size (w4.alloc (.cells #[.int .i64 q.kind, .int .i64 q.n, .string ⟨q.s.toArray⟩, .slice a7 q.keys.length c7, .slice a8 q.l.length c8] 25)) w6 ∧ In w6 (okE ok w.heap.size (w.heap.size + 3) gd) z (.agg #[.int .i64 z.kind, .int .i64 z.n, .string ⟨z.s.toArray⟩, .slice b7 z.keys.length d7, .slice b8 z.l.length d8])) := by
              intro w5 hb5 W e1 e2 e3 e4
              have hbW : Below (w4.alloc (.cells #[.int .i64 q.kind, .int .i64 q.n, .string ⟨q.s.toArray⟩, .slice a7 q.keys.length c7, .slice a8 q.l.length c8] 25)).heap.size (w4.alloc (.cells #[.int .i64 q.kind, .int .i64 q.n, .string ⟨q.s.toArray⟩, .slice a7 q.keys.length c7, .slice a8 q.l.length c8] 25)) W := bel_trans hb5 (be0 e1 e2 e3 e4)
              refine (IH.out W (okE ok w.heap.size (w.heap.size + 3) gd) q b.l[k] _ _ (K.out.2.2.2.2.1.bel hbW) (K.out.2.2.2.2.2.1.bel hbW) NQ.out (nice_mem NB.out (List.getElem_mem hlt')) (HD.out _ (List.getElem_mem hlt'))).mono ?_
              rintro e w6 ⟨r, rfl, hb, hr⟩
              obtain ⟨b7, b8, d7, d8, rfl⟩ := hr.form
              have s2 := hbW.size
              have s3 := K.out.2.2.2.2.2.2
              exact ⟨_, b7, b8, d7, d8, rfl, rfl, bel_trans hbW hb, hr.weak (okE_up (by omega) (by omega))⟩
            clear hsm
            go_wp2_with fail
            go_region_with ((go_at_call 30; refine (conS.out _ (by rfl) (by rfl) (by rfl) (by rfl)).mono ?_; rintro e w5 ⟨rfl, hb5⟩; have B5 := hidI hb5; clear hb5))
            all_goals
              obtain ⟨s0, s1, s2, s3, s4, -⟩ := (box_bel B5.out K.out.1.2.2.2).c
              have s5 := (box_bel B5.out K.out.1.2.1).c.2.2.2.2.1
              obtain ⟨r0, r1, r2, r3, r4, -⟩ := (box_bel B5.out K.out.2.1).c
              have h0 := cell_bel B5.out g0
              have h1 := cell_bel B5.out g1
              have h2 := cell_bel B5.out g2
              have h3 := cell_bel B5.out g3
              have h4 := cell_bel B5.out g4
              clear y0 y1 y2 y3 y4 q0 q1 q2 q3 q4 p4 bk g0 g1 g2 g3 g4
              go_wp2_with fail
              go_region_with (first
                | (go_at_call 17; refine (conO.out _ B5.out _ (by rfl) (by rfl) (by rfl) (by rfl)).mono ?_; rintro e w6 ⟨z, b7, b8, d7, d8, rfl, hz1, hz2, hz3⟩; have Z1 := hidI hz1; have Z2 := hidI hz2; have Z3 := hidI hz3; obtain ⟨m0, m1, m2, m3, m4, -⟩ := (box_bel hz2 K.out.1.2.2.2).c; clear hz1 hz2 hz3)
                | (go_at_call 24; refine (conW.out _ _ _ _ _ _ Z2.out Z3.out _ (by rfl) (by rfl) (by rfl) (by rfl)).mono ?_; rintro e w7 ⟨u, e5, e6, f5, f6, rfl, hu1, hu2, hu3⟩; have U := hidI (FIN.out _ _ _ _ _ _ (bel_trans Z2.out hu2) (by rw [hu1, Z1.out]; exact HS.out) hu3); obtain ⟨t0, t1, t2, t3, t4, t5, t6, t7, t8, t9⟩ := (box_bel (bel_trans Z2.out hu2) K.out.1.2.2.2).c; clear hu1 hu2 hu3))
              all_goals
                go_wp2_with fail
                go_roundg (b.keys.length - (k + 1))
                case measure => rw [GK.out]; omega
                case rel => exact ⟨k + 1, hlt, rfl, by go_num, U.out⟩
      · have HY : Hid (diffF (E + 1) a b = y) := hidI (by rw [HM.out, I.out.1, List.take_of_length_le (by rw [List.length_zip]; have := HKL.out; omega)])
        have d1 : ¬ (k : Int) < (b.keys.length : Int) := by omega
        obtain ⟨y0, y1, y2, y3, y4, -⟩ := I.out.2.1.2.2.2.c
        obtain ⟨z0, z1, z2, z3, z4, z5, z6, z7, z8, z9⟩ := I.out.2.1.2.2.1.c
        have gs := set5_gb wr (w.heap.size + 2) (.int .i64 y.kind) (.int .i64 y.n) (.string ⟨y.s.toArray⟩) (.slice a5 y.keys.length c5) (.slice a6 y.l.length c6)
        have Z : Hid (Below w.heap.size w (set5 wr (w.heap.size + 2) (.int .i64 y.kind) (.int .i64 y.n) (.string ⟨y.s.toArray⟩) (.slice a5 y.keys.length c5) (.slice a6 y.l.length c6)) ∧ In (set5 wr (w.heap.size + 2) (.int .i64 y.kind) (.int .i64 y.n) (.string ⟨y.s.toArray⟩) (.slice a5 y.keys.length c5) (.slice a6 y.l.length c6)) (okN ok w.heap.size) y (.agg #[.int .i64 y.kind, .int .i64 y.n, .string ⟨y.s.toArray⟩, .slice a5 y.keys.length c5, .slice a6 y.l.length c6])) := hidI ⟨bel_set5 I.out.2.2.1 (by omega) _ _ _ _ _, (I.out.2.2.2.grown gs (okE_ne2 (by omega) (by omega))).weak (okE_out (by omega))⟩
        have ZB : Hid _ := hidI (I.out.2.1.2.2.1.set (.int .i64 y.kind) (.int .i64 y.n) (.string ⟨y.s.toArray⟩) (.slice a5 y.keys.length c5) (.slice a6 y.l.length c6))
        clear gs
        go_wp2_with fail
        obtain ⟨q0, q1, q2, q3, q4, -⟩ := ZB.out.c
        refine bodyPost_ret (v := .agg #[.int .i64 y.kind, .int .i64 y.n, .string ⟨y.s.toArray⟩, .slice a5 y.keys.length c5, .slice a6 y.l.length c6]) ?_ rfl ?_
        · simp only [set5] at q0 q1 q2 q3 q4
          simp [results, Tryz.results17, go_sem, q0, q1, q2, q3, q4]
        · exact ⟨_, rfl, Z.out.1, by rw [HY.out]; exact Z.out.2⟩
  · have HM : Hid (diffF (E + 1) a b = b) := hidI (by rw [diffF, if_neg hab])
    have K := hidI ((HB.out.bel (B3.out (.cells #[.int .i64 a.kind, .int .i64 a.n, .string ⟨a.s.toArray⟩, .slice a1 a.keys.length c1, .slice a2 a.l.length c2] 25) (.cells #[.int .i64 b.kind, .int .i64 b.n, .string ⟨b.s.toArray⟩, .slice a3 b.keys.length c3, .slice a4 b.l.length c4] 25) (.cells #[.int .i64 b.kind, .int .i64 b.n, .string ⟨b.s.toArray⟩, .slice a3 b.keys.length c3, .slice a4 b.l.length c4] 25))).weak low_out)
    by_cases hka : a.kind = 5
    · have e0 : (a.kind != 5) = false := by rw [hka]; rfl
      have e1 : (b.kind != 5) = true := by rw [bne_iff_ne]; exact fun e => hab ⟨hka, e⟩
      clear hab hka
      go_enter Tryz.func17, Tryz.ntmps17
      go_wp2_with fail
      refine bodyPost_ret (v := .agg #[.int .i64 b.kind, .int .i64 b.n, .string ⟨b.s.toArray⟩, .slice a3 b.keys.length c3, .slice a4 b.l.length c4]) ?_ rfl ?_
      · simp [results, Tryz.results17, go_sem]
      · exact ⟨_, rfl, B3.out _ _ _, by rw [HM.out]; exact K.out⟩
    · have e0 : (a.kind != 5) = true := by rw [bne_iff_ne]; exact hka
      clear hab hka
      go_enter Tryz.func17, Tryz.ntmps17
      go_wp2_with fail
      refine bodyPost_ret (v := .agg #[.int .i64 b.kind, .int .i64 b.n, .string ⟨b.s.toArray⟩, .slice a3 b.keys.length c3, .slice a4 b.l.length c4]) ?_ rfl ?_
      · simp [results, Tryz.results17, go_sem]
      · exact ⟨_, rfl, B3.out _ _ _, by rw [HM.out]; exact K.out⟩
theorem other_is (E : Nat) : OtC E := by
  induction E with
  | zero => intro w ok a b va vb _ _ _ _ h; exact h.elim
  | succ E ih => exact other_succ E ih
end Go.Proofs.YtfbddgpekbhpfacGreatDoor
