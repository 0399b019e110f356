/- What gone of package merge does. -/
import Derived.Test.YtfbddgpekbhpfacGreatDoorMb
set_option linter.unusedSimpArgs false
set_option linter.unusedVariables false
namespace Go.Proofs.YtfbddgpekbhpfacGreatDoor
open Go.RowKit

theorem foldG_len {b : V} : ∀ (ps : List (List UInt8 × V)) (v : V), (ps.foldl (stepG b) v).l.length ≤ v.l.length + ps.length
  | [], v => by simp
  | p :: ps, v => by
    have h1 := foldG_len (b := b) ps (stepG b v p)
    have h2 : (stepG b v p).l.length ≤ v.l.length + 1 := by
      unfold stepG
      split
      · omega
      · exact with_items _ _ _
    rw [List.foldl_cons, List.length_cons]; omega
theorem gone_at {a b : V} {k : Nat} (ha : Nice a) : Ob (((a.keys.zip a.l).take k).foldl (stepG b) objT) ∧ (((a.keys.zip a.l).take k).foldl (stepG b) objT).l.length ≤ 120 := by
  refine ⟨fold_ob (stepG_ob b) _ _ ob_objT, ?_⟩
  have h1 := foldG_len (b := b) ((a.keys.zip a.l).take k) objT
  have h3 := nice_len ha
  have h4 : ((a.keys.zip a.l).take k).length ≤ a.l.length := by rw [List.length_take, List.length_zip]; omega
  simp only [objT, List.length_nil] at h1 ⊢; omega
theorem h4a (w : World) (o1 o2 o3 o4 : Obj) : ((((w.alloc o1).alloc o2).alloc o3).alloc o4).heap[w.heap.size]? = some o1 := by
  rw [(World.grownBy_alloc (((w.alloc o1).alloc o2).alloc o3) o4 none).block _ (by first | (simp; omega) | simp) (by simp)]; exact h3a w o1 o2 o3
theorem h4b (w : World) (o1 o2 o3 o4 : Obj) : ((((w.alloc o1).alloc o2).alloc o3).alloc o4).heap[w.heap.size + 1]? = some o2 := by
  rw [(World.grownBy_alloc (((w.alloc o1).alloc o2).alloc o3) o4 none).block _ (by first | (simp; omega) | simp) (by simp)]; exact h3b w o1 o2 o3
theorem h4c (w : World) (o1 o2 o3 o4 : Obj) : ((((w.alloc o1).alloc o2).alloc o3).alloc o4).heap[w.heap.size + 2]? = some o3 := by
  rw [(World.grownBy_alloc (((w.alloc o1).alloc o2).alloc o3) o4 none).block _ (by first | (simp; omega) | simp) (by simp)]; exact h3c w o1 o2 o3
theorem h4d (w : World) (o1 o2 o3 o4 : Obj) : ((((w.alloc o1).alloc o2).alloc o3).alloc o4).heap[w.heap.size + 3]? = some o4 := by
  have := heap_alloc_new (((w.alloc o1).alloc o2).alloc o3) o4
  simpa using this
def GnI (w : World) (ok : Nat → Prop) (a b : V) (a1 a2 a3 a4 : Option Addr) (c1 c2 c3 c4 k : Nat) (wr : World) : Prop :=
  ∃ (y : V) (a5 a6 : Option Addr) (c5 c6 : Nat), y = ((a.keys.zip a.l).take k).foldl (stepG b) objT ∧ BoxIs wr w.heap.size (.int .i64 a.kind) (.int .i64 a.n) (.string ⟨a.s.toArray⟩) (.slice a1 a.keys.length c1) (.slice a2 a.l.length c2) ∧ BoxIs wr (w.heap.size + 1) (.int .i64 b.kind) (.int .i64 b.n) (.string ⟨b.s.toArray⟩) (.slice a3 b.keys.length c3) (.slice a4 b.l.length c4) ∧ BoxIs wr (w.heap.size + 2) (.int .i64 0) (.int .i64 0) (.string ⟨#[]⟩) (.slice none 0 0) (.slice none 0 0) ∧ BoxIs wr (w.heap.size + 3) (.int .i64 y.kind) (.int .i64 y.n) (.string ⟨y.s.toArray⟩) (.slice a5 y.keys.length c5) (.slice a6 y.l.length c6) ∧ Below w.heap.size w wr ∧ In wr (lowN ok w.heap.size (w.heap.size + 4)) y (.agg #[.int .i64 y.kind, .int .i64 y.n, .string ⟨y.s.toArray⟩, .slice a5 y.keys.length c5, .slice a6 y.l.length c6])

set_option maxRecDepth 100000 in
set_option maxHeartbeats 40000000 in
theorem gone_is (w : World) (ok : Nat → Prop) (a b : V) (va vb : Value) (h : In w ok a va) (hb : In w ok b vb) (na : Nice a) (oa : Ob a) :
    Calls Tryz.prog 29 #[va, vb] w fun e w' => ∃ r, e = .returned r ∧ Below w.heap.size w w' ∧ In w' (okN ok w.heap.size) (goneV a b) r := by
  have H := hidI h.low
  have HB := hidI hb.low
  have NA := hidI na
  have OA := hidI oa
  have HKL : Hid (a.keys.length = a.l.length) := hidI oa.2.2.2.1
  obtain ⟨l1, l2, l3⟩ := h.lens
  obtain ⟨a1, a2, c1, c2, rfl⟩ := h.form
  obtain ⟨a3, a4, c3, c4, rfl⟩ := hb.form
  clear h hb na oa
  have B4 : Hid (∀ o1 o2 o3 o4, Below w.heap.size w ((((w.alloc o1).alloc o2).alloc o3).alloc o4)) := fun o1 o2 o3 o4 => bel_trans (bel_trans (bel_trans (bel_alloc _ _) (bel_alloc _ _)) (bel_alloc _ _)) (bel_alloc _ _)
  have I0 : Hid (GnI w ok a b a1 a2 a3 a4 c1 c2 c3 c4 0 ((((w.alloc (.cells #[.int .i64 a.kind, .int .i64 a.n, .string ⟨a.s.toArray⟩, .slice a1 a.keys.length c1, .slice a2 a.l.length c2] 25)).alloc (.cells #[.int .i64 b.kind, .int .i64 b.n, .string ⟨b.s.toArray⟩, .slice a3 b.keys.length c3, .slice a4 b.l.length c4] 25)).alloc (.cells #[.int .i64 0, .int .i64 0, .string ⟨#[]⟩, .slice none 0 0, .slice none 0 0] 25)).alloc (.cells #[.int .i64 5, .int .i64 0, .string ⟨#[]⟩, .slice none 0 0, .slice none 0 0] 25))) := hidI ⟨objT, none, none, 0, 0, rfl, h4a w _ _ _ _, h4b w _ _ _ _, h4c w _ _ _ _, h4d w _ _ _ _, B4.out _ _ _ _, in_leaf _ _ 5 0 (by unfold I64; omega) (by unfold I64; omega)⟩
  go_enter Tryz.func29, Tryz.ntmps29
  go_wp2_with fail
  go_loopg [14] a.keys.length (fun gk i wr => ∃ k : Nat, k ≤ a.keys.length ∧ gk = a.keys.length - k ∧ i = .int .i64 k ∧ GnI w ok a b a1 a2 a3 a4 c1 c2 c3 c4 k wr)
  case atStart => exact ⟨0, Nat.zero_le _, rfl, rfl, I0.out⟩
  case round =>
    obtain ⟨k, hk, hgk, rfl, y, a5, a6, c5, c6, i0, i1, i2, i3, i4, i5, i6⟩ := hrel
    have GK := hidI hgk
    have I : Hid (y = ((a.keys.zip a.l).take k).foldl (stepG b) objT ∧ BoxIs wr w.heap.size (.int .i64 a.kind) (.int .i64 a.n) (.string ⟨a.s.toArray⟩) (.slice a1 a.keys.length c1) (.slice a2 a.l.length c2) ∧ BoxIs wr (w.heap.size + 1) (.int .i64 b.kind) (.int .i64 b.n) (.string ⟨b.s.toArray⟩) (.slice a3 b.keys.length c3) (.slice a4 b.l.length c4) ∧ BoxIs wr (w.heap.size + 2) (.int .i64 0) (.int .i64 0) (.string ⟨#[]⟩) (.slice none 0 0) (.slice none 0 0) ∧ BoxIs wr (w.heap.size + 3) (.int .i64 y.kind) (.int .i64 y.n) (.string ⟨y.s.toArray⟩) (.slice a5 y.keys.length c5) (.slice a6 y.l.length c6) ∧ Below w.heap.size w wr ∧ In wr (lowN ok w.heap.size (w.heap.size + 4)) y (.agg #[.int .i64 y.kind, .int .i64 y.n, .string ⟨y.s.toArray⟩, .slice a5 y.keys.length c5, .slice a6 y.l.length c6])) := hidI ⟨i0, i1, i2, i3, i4, i5, i6⟩
    have hwsz := i4.lt
    obtain ⟨p0, p1, p2, p3, p4, -⟩ := i2.c
    clear hgk i0 i1 i2 i3 i4 i5 i6
    by_cases hlt : k < a.keys.length
    · have hlt' : k < a.l.length := by have := HKL.out; omega
      obtain ⟨kb, ko, rfl, j1, j2, jk, jl⟩ := H.out.key hlt
      replace jk := cell_bel I.out.2.2.2.2.2.1 jk
      have w1 : (0 : Int) ≤ (k : Int) := by omega
      have w3 : (k : Int) < (a.keys.length : Int) := by omega
      have GA : Hid (Ob y ∧ y.l.length ≤ 120) := hidI (by rw [I.out.1]; exact gone_at NA.out)
      have ST : Hid (∀ u, u = stepG b y (a.keys[k], a.l[k]) → u = ((a.keys.zip a.l).take (k + 1)).foldl (stepG b) objT) := hidI (by rintro u rfl; rw [zip_step hlt hlt', ← I.out.1])
      go_wp2_with fail
      refine (member_was _ (fun j => ok j ∧ j < w.heap.size) b _ a.keys[k] (by exact HB.out.bel I.out.2.2.2.2.2.1)).mono ?_
      rintro e w4 ⟨r, rfl, hb4, hr⟩
      obtain ⟨q, hq⟩ : ∃ q, (memV b a.keys[k]).getD zeroT = q := ⟨_, rfl⟩
      rw [hq] at hr
      obtain ⟨a7, a8, c7, c8, rfl⟩ := hr.form
      have hbb := bel_trans hb4 (bel_alloc w4 (.cells #[.int .i64 q.kind, .int .i64 q.n, .string ⟨q.s.toArray⟩, .slice a7 q.keys.length c7, .slice a8 q.l.length c8] 25))
      have K : Hid (BoxIs (w4.alloc (.cells #[.int .i64 q.kind, .int .i64 q.n, .string ⟨q.s.toArray⟩, .slice a7 q.keys.length c7, .slice a8 q.l.length c8] 25)) w.heap.size (.int .i64 a.kind) (.int .i64 a.n) (.string ⟨a.s.toArray⟩) (.slice (some ⟨kb, ko, none⟩) a.keys.length c1) (.slice a2 a.l.length c2) ∧ BoxIs (w4.alloc (.cells #[.int .i64 q.kind, .int .i64 q.n, .string ⟨q.s.toArray⟩, .slice a7 q.keys.length c7, .slice a8 q.l.length c8] 25)) (w.heap.size + 1) (.int .i64 b.kind) (.int .i64 b.n) (.string ⟨b.s.toArray⟩) (.slice a3 b.keys.length c3) (.slice a4 b.l.length c4) ∧ BoxIs (w4.alloc (.cells #[.int .i64 q.kind, .int .i64 q.n, .string ⟨q.s.toArray⟩, .slice a7 q.keys.length c7, .slice a8 q.l.length c8] 25)) (w.heap.size + 2) (.int .i64 0) (.int .i64 0) (.string ⟨#[]⟩) (.slice none 0 0) (.slice none 0 0) ∧ BoxIs (w4.alloc (.cells #[.int .i64 q.kind, .int .i64 q.n, .string ⟨q.s.toArray⟩, .slice a7 q.keys.length c7, .slice a8 q.l.length c8] 25)) (w.heap.size + 3) (.int .i64 y.kind) (.int .i64 y.n) (.string ⟨y.s.toArray⟩) (.slice a5 y.keys.length c5) (.slice a6 y.l.length c6) ∧ Below w.heap.size w (w4.alloc (.cells #[.int .i64 q.kind, .int .i64 q.n, .string ⟨q.s.toArray⟩, .slice a7 q.keys.length c7, .slice a8 q.l.length c8] 25)) ∧ In (w4.alloc (.cells #[.int .i64 q.kind, .int .i64 q.n, .string ⟨q.s.toArray⟩, .slice a7 q.keys.length c7, .slice a8 q.l.length c8] 25)) (lowN ok w.heap.size (w.heap.size + 4)) y (.agg #[.int .i64 y.kind, .int .i64 y.n, .string ⟨y.s.toArray⟩, .slice a5 y.keys.length c5, .slice a6 y.l.length c6]) ∧ w.heap.size + 4 ≤ (w4.alloc (.cells #[.int .i64 q.kind, .int .i64 q.n, .string ⟨q.s.toArray⟩, .slice a7 q.keys.length c7, .slice a8 q.l.length c8] 25)).heap.size) := hidI ⟨box_bel hbb I.out.2.1, box_bel hbb I.out.2.2.1, box_bel hbb I.out.2.2.2.1, box_bel hbb I.out.2.2.2.2.1, bel_trans I.out.2.2.2.2.2.1 hbb, I.out.2.2.2.2.2.2.bel hbb, Nat.le_trans hwsz hbb.size⟩
      clear hq hr hb4 hbb p0 p1 p2 p3 p4 jk
      cases hmb : (memV b a.keys[k]).isSome with
      | true =>
        have FIN : Hid (GnI w ok a b (some ⟨kb, ko, none⟩) a2 a3 a4 c1 c2 c3 c4 (k + 1) (w4.alloc (.cells #[.int .i64 q.kind, .int .i64 q.n, .string ⟨q.s.toArray⟩, .slice a7 q.keys.length c7, .slice a8 q.l.length c8] 25))) := hidI ⟨y, a5, a6, c5, c6, ST.out y (by unfold stepG; rw [if_pos hmb]), K.out.1, K.out.2.1, K.out.2.2.1, K.out.2.2.2.1, K.out.2.2.2.2.1, K.out.2.2.2.2.2.1⟩
        clear hmb
        go_wp2_with fail
        go_roundg (a.keys.length - (k + 1))
        case measure => rw [GK.out]; omega
        case rel => exact ⟨k + 1, hlt, rfl, by go_num, FIN.out⟩
      | false =>
        have HS : Hid (stepG b y (a.keys[k], a.l[k]) = withV y a.keys[k] zeroT) := hidI (by unfold stepG; rw [if_neg (by rw [hmb]; simp)])
        clear hmb
        obtain ⟨y0, y1, y2, y3, y4, -⟩ := K.out.2.2.2.1.c
        go_wp2_with fail
        refine (with_is _ (lowN ok w.heap.size (w.heap.size + 4)) y zeroT _ _ a.keys[k] (by exact K.out.2.2.2.2.2.1) (by exact in_zero _ _) GA.out.1.paired (by have := GA.out.2; omega) jl).mono ?_
        rintro e w6 ⟨r, rfl, hr, hb6⟩
        obtain ⟨u, hu⟩ : ∃ u, withV y a.keys[k] zeroT = u := ⟨_, rfl⟩
        rw [hu] at hr
        obtain ⟨e5, e6, f5, f6, rfl⟩ := hr.form
        have FIN : Hid (GnI w ok a b (some ⟨kb, ko, none⟩) a2 a3 a4 c1 c2 c3 c4 (k + 1) (set5 w6 (w.heap.size + 3) (.int .i64 u.kind) (.int .i64 u.n) (.string ⟨u.s.toArray⟩) (.slice e5 u.keys.length f5) (.slice e6 u.l.length f6))) := by
          have gs := set5_gb w6 (w.heap.size + 3) (.int .i64 u.kind) (.int .i64 u.n) (.string ⟨u.s.toArray⟩) (.slice e5 u.keys.length f5) (.slice e6 u.l.length f6)
          refine hidI ⟨u, e5, e6, f5, f6, ST.out u (by rw [HS.out, hu]), (box_bel hb6 K.out.1).grown gs (by simp), (box_bel hb6 K.out.2.1).grown gs (by simp), (box_bel hb6 K.out.2.2.1).grown gs (by simp), (box_bel hb6 K.out.2.2.2.1).set _ _ _ _ _, bel_set5 (bel_trans K.out.2.2.2.2.1 hb6) (by omega) _ _ _ _ _, (hr.weak (lowN_up K.out.2.2.2.2.2.2)).box (by omega) (by omega) _ _ _ _ _⟩
        obtain ⟨t0, t1, t2, t3, t4, t5, t6, t7, t8, t9⟩ := (box_bel hb6 K.out.2.2.2.1).c
        clear hu hr hb6 y0 y1 y2 y3 y4
        go_wp2_with fail
        go_roundg (a.keys.length - (k + 1))
        case measure => rw [GK.out]; omega
        case rel => exact ⟨k + 1, hlt, rfl, by go_num, FIN.out⟩
    · have HY : Hid (goneV a b = y) := hidI (by rw [goneV, I.out.1, List.take_of_length_le (by rw [List.length_zip]; have := HKL.out; omega)])
      have d1 : ¬ (k : Int) < (a.keys.length : Int) := by omega
      obtain ⟨y0, y1, y2, y3, y4, -⟩ := I.out.2.2.2.2.1.c
      obtain ⟨z0, z1, z2, z3, z4, z5, z6, z7, z8, z9⟩ := I.out.2.2.2.1.c
      have Z : Hid (_ ∧ _) := hidI (sto_out (g := w.heap.size + 2) I.out.2.2.2.2.2.2 I.out.2.2.2.2.2.1 (by omega) (by omega))
      have ZB : Hid _ := hidI (I.out.2.2.2.1.set (.int .i64 y.kind) (.int .i64 y.n) (.string ⟨y.s.toArray⟩) (.slice a5 y.keys.length c5) (.slice a6 y.l.length c6))
      go_wp2_with fail
      obtain ⟨q0, q1, q2, q3, q4, -⟩ := ZB.out.c
      refine bodyPost_ret (v := .agg #[.int .i64 y.kind, .int .i64 y.n, .string ⟨y.s.toArray⟩, .slice a5 y.keys.length c5, .slice a6 y.l.length c6]) ?_ rfl ?_
      · simp only [set5] at q0 q1 q2 q3 q4
        simp [results, Tryz.results29, go_sem, q0, q1, q2, q3, q4]
      · exact ⟨_, rfl, Z.out.1, by rw [HY.out]; exact Z.out.2⟩
end Go.Proofs.YtfbddgpekbhpfacGreatDoor
