/- What JsonParts of package stairwellkeep answers. -/
import Derived.Test.YtkmonpdppgcgaabDoorUc
import Derived.Test.YtkmonpdppgcgaabDoorTb
set_option linter.unusedSimpArgs false
set_option linter.unusedVariables false
namespace Go.Proofs.YtkmonpdppgcgaabDoor
open Go.RowKit

/- A value's cells, and the value in them. -/
def HasV (wr : World) (ok : Nat → Prop) (D g : Nat) (t : V) (a1 a2 : Option Addr) (c1 c2 : Nat) : Prop :=
  BoxIs wr g (.int .i64 t.kind) (.int .i64 t.n) (.string ⟨t.s.toArray⟩) (.slice a1 t.keys.length c1) (.slice a2 t.l.length c2) ∧
  VIs wr ok D t (.agg #[.int .i64 t.kind, .int .i64 t.n, .string ⟨t.s.toArray⟩, .slice a1 t.keys.length c1, .slice a2 t.l.length c2])
theorem HasV.bel {wr w' : World} {ok : Nat → Prop} {D g : Nat} {t : V} {a1 a2 : Option Addr} {c1 c2 : Nat} (h : HasV wr ok D g t a1 a2 c1 c2) (hb : Below wr.heap.size wr w') : HasV w' ok D g t a1 a2 c1 c2 :=
  ⟨box_bel hb h.1, h.2.bel hb⟩
theorem HasV.new {wr : World} {ok : Nat → Prop} {D : Nat} {t : V} {a1 a2 : Option Addr} {c1 c2 : Nat} (h : VIs wr ok D t (.agg #[.int .i64 t.kind, .int .i64 t.n, .string ⟨t.s.toArray⟩, .slice a1 t.keys.length c1, .slice a2 t.l.length c2])) :
    HasV (wr.alloc (.cells #[.int .i64 t.kind, .int .i64 t.n, .string ⟨t.s.toArray⟩, .slice a1 t.keys.length c1, .slice a2 t.l.length c2] 25)) ok D wr.heap.size t a1 a2 c1 c2 :=
  ⟨heap_alloc_new wr _, h.bel (bel_alloc _ _)⟩
/- What Member answers, as a value in any case. -/
theorem memis_vis {w : World} {ok : Nat → Prop} {d : Nat} {m : Option V} {x : Value} {b : Bool} (h : MemIs w ok (d + 1) m x b) : VIs w ok (d + 1) (m.getD (leafV 0 0 [])) x ∧ b = m.isSome := by
  cases m with
  | some y => exact ⟨h.2, h.1⟩
  | none =>
    obtain ⟨h1, h2⟩ := h
    rw [h2]
    exact ⟨leaf_is _ _ d 0 0 [] (by unfold I64; omega) (by unfold I64; omega) (by simp), h1⟩

set_option maxRecDepth 100000 in
set_option maxHeartbeats 8000000 in
theorem parts_law (w : World) (ok : Nat → Prop) (d : Nat) (t : V) (v : Value) (h : VIs w ok d t v) (ok' : Nat → Prop) (d' : Nat) (x : V) (xv : Value) (hx : VIs w ok' d' x xv)
    (key : List UInt8) (hkey : key.length ≤ 140737488351232) (other : List UInt8) (hother : other.length ≤ 140737488351232) (hG : Glob w) :
    Calls Tryd.prog 3 #[v, xv, str key, str other] w fun e w' => e = .returned (.bool true) ∧ Below w.heap.size w w' := by
  obtain ⟨D, hD⟩ : ∃ D, d + d' = D := ⟨_, rfl⟩
  have H0 : VIs w (fun _ => True) (D + 1) t v := (h.le (by omega)).weak fun _ _ => trivial
  have X0 : VIs w (fun _ => True) D x xv := (hx.le (by omega)).weak fun _ _ => trivial
  clear h hx hD
  obtain ⟨a1, a2, c1, c2, rfl⟩ := H0.shape
  obtain ⟨b1, b2, e1, e2, rfl⟩ := X0.shape
  have HG := hidI hG
  have HKL : Hid (key.length ≤ maxLen) := hidI (by unfold maxLen; omega)
  have bb0 := bel_trans (bel_alloc w (.cells #[.int .i64 t.kind, .int .i64 t.n, .string ⟨t.s.toArray⟩, .slice a1 t.keys.length c1, .slice a2 t.l.length c2] 25)) (bel_alloc _ (.cells #[.int .i64 x.kind, .int .i64 x.n, .string ⟨x.s.toArray⟩, .slice b1 x.keys.length e1, .slice b2 x.l.length e2] 25))
  have T0 : Hid (HasV ((w.alloc (.cells #[.int .i64 t.kind, .int .i64 t.n, .string ⟨t.s.toArray⟩, .slice a1 t.keys.length c1, .slice a2 t.l.length c2] 25)).alloc (.cells #[.int .i64 x.kind, .int .i64 x.n, .string ⟨x.s.toArray⟩, .slice b1 x.keys.length e1, .slice b2 x.l.length e2] 25)) (fun _ => True) (D + 1) w.heap.size t a1 a2 c1 c2) := hidI ⟨h2a w _ _, H0.bel bb0⟩
  have X1 : Hid (HasV ((w.alloc (.cells #[.int .i64 t.kind, .int .i64 t.n, .string ⟨t.s.toArray⟩, .slice a1 t.keys.length c1, .slice a2 t.l.length c2] 25)).alloc (.cells #[.int .i64 x.kind, .int .i64 x.n, .string ⟨x.s.toArray⟩, .slice b1 x.keys.length e1, .slice b2 x.l.length e2] 25)) (fun _ => True) D (w.heap.size + 1) x b1 b2 e1 e2) := hidI ⟨h2b w _ _, X0.bel bb0⟩
  have BB0 := hidI bb0
  clear H0 X0 hG bb0
  obtain ⟨x0, x1, x2, x3, x4, -⟩ := T0.out.1.c
  unfold str
  go_enter Tryd.func3, Tryd.ntmps3
  go_wp2_with fail
  refine (Good_at _ _ (D + 1) t _ (by exact T0.out.2)).mono ?_
  rintro e w1 ⟨rfl, hb1⟩
  have T1 := hidI (T0.out.bel hb1)
  have Y1 := hidI (X1.out.bel hb1)
  have BB1 := hidI (bel_trans BB0.out hb1)
  have G1 : Hid (Glob w1) := hidI (HG.out.grown (gb_below (r := none) BB1.out) (by simp))
  clear hb1 T0 X1 BB0 x0 x1 x2 x3 x4
  obtain ⟨x0, x1, x2, x3, x4, -⟩ := T1.out.1.c
  obtain ⟨y0, y1, y2, y3, y4, -⟩ := Y1.out.1.c
  cases hgd : goodV t with
  | false =>
    clear hgd
    go_wp2_with fail
    refine (reads_at _ (by exact G1.out)).mono ?_
    rintro e w2 ⟨rfl, hb2⟩
    have HB2 := hidI hb2
    clear hb2
    go_wp2_with fail
    go_ret
    exact ⟨rfl, bel_trans BB1.out HB2.out⟩
  | true =>
    by_cases hk : t.kind = 5
    · have GI := hidI (good_items hgd)
      have GO := hidI (good_object hgd hk)
      have n5 : (t.kind != 5) = false := by simp [hk]
      have q5 : (t.kind == 5) = true := by simp [hk]
      clear hgd hk
      go_wp2_with fail
      refine (with_all _ (fun _ => True) D t x _ _ key (by exact T1.out.2) (by exact Y1.out.2) GO.out.1 (by have := GI.out; omega) HKL.out).mono ?_
      rintro e w2 ⟨r, rfl, hr, hb2⟩
      obtain ⟨W, hW⟩ : ∃ W, withV t key x = W := ⟨_, rfl⟩
      rw [hW] at hr
      have HW := hidI hW
      clear hW
      obtain ⟨g1, g2, f1, f2, rfl⟩ := hr.shape
      have W2 : Hid (HasV (w2.alloc (.cells #[.int .i64 W.kind, .int .i64 W.n, .string ⟨W.s.toArray⟩, .slice g1 W.keys.length f1, .slice g2 W.l.length f2] 25)) (fun _ => True) (D + 1) w2.heap.size W g1 g2 f1 f2) := hidI (HasV.new (hr.weak fun _ _ => trivial))
      have T2 := hidI ((T1.out.bel hb2).bel (bel_alloc w2 (.cells #[.int .i64 W.kind, .int .i64 W.n, .string ⟨W.s.toArray⟩, .slice g1 W.keys.length f1, .slice g2 W.l.length f2] 25)))
      have Y2 := hidI ((Y1.out.bel hb2).bel (bel_alloc w2 (.cells #[.int .i64 W.kind, .int .i64 W.n, .string ⟨W.s.toArray⟩, .slice g1 W.keys.length f1, .slice g2 W.l.length f2] 25)))
      have BB2 := hidI (bel_trans (bel_trans BB1.out hb2) (bel_alloc w2 (.cells #[.int .i64 W.kind, .int .i64 W.n, .string ⟨W.s.toArray⟩, .slice g1 W.keys.length f1, .slice g2 W.l.length f2] 25)))
      clear hr hb2 T1 Y1 BB1 G1 x0 x1 x2 x3 x4 y0 y1 y2 y3 y4
      obtain ⟨z0, z1, z2, z3, z4, -⟩ := W2.out.1.c
      go_wp2_with fail
      refine (member_at _ _ (D + 1) W _ key (by exact W2.out.2)).mono ?_
      rintro e w3 ⟨av, ab, rfl, hb3, hm3⟩
      obtain ⟨hv3, rfl⟩ := memis_vis hm3
      have mW : memV W key = some x := by rw [← HW.out]; exact mem_with GO.out.1 key x
      rw [mW] at hv3 ⊢
      simp only [Option.getD_some, Option.isSome_some] at hv3 ⊢
      clear mW
      obtain ⟨h1, h2, i1, i2, rfl⟩ := hv3.shape
      have A3 : Hid (HasV (w3.alloc (.cells #[.int .i64 x.kind, .int .i64 x.n, .string ⟨x.s.toArray⟩, .slice h1 x.keys.length i1, .slice h2 x.l.length i2] 25)) (fun _ => True) (D + 1) w3.heap.size x h1 h2 i1 i2) := hidI (HasV.new hv3)
      have W3 := hidI ((W2.out.bel hb3).bel (bel_alloc w3 (.cells #[.int .i64 x.kind, .int .i64 x.n, .string ⟨x.s.toArray⟩, .slice h1 x.keys.length i1, .slice h2 x.l.length i2] 25)))
      have T3 := hidI ((T2.out.bel hb3).bel (bel_alloc w3 (.cells #[.int .i64 x.kind, .int .i64 x.n, .string ⟨x.s.toArray⟩, .slice h1 x.keys.length i1, .slice h2 x.l.length i2] 25)))
      have Y3 := hidI ((Y2.out.bel hb3).bel (bel_alloc w3 (.cells #[.int .i64 x.kind, .int .i64 x.n, .string ⟨x.s.toArray⟩, .slice h1 x.keys.length i1, .slice h2 x.l.length i2] 25)))
      have BB3 := hidI (bel_trans (bel_trans BB2.out hb3) (bel_alloc w3 (.cells #[.int .i64 x.kind, .int .i64 x.n, .string ⟨x.s.toArray⟩, .slice h1 x.keys.length i1, .slice h2 x.l.length i2] 25)))
      clear hv3 hm3 hb3 W2 T2 Y2 BB2 z0 z1 z2 z3 z4
      obtain ⟨z0, z1, z2, z3, z4, -⟩ := W3.out.1.c
      go_wp2_with fail
      refine (member_at _ _ (D + 1) W _ other (by exact W3.out.2)).mono ?_
      rintro e w4 ⟨bv, bb, rfl, hb4, hm4⟩
      obtain ⟨hv4, rfl⟩ := memis_vis hm4
      obtain ⟨B, hB⟩ : ∃ B, (memV W other).getD (leafV 0 0 []) = B := ⟨_, rfl⟩
      obtain ⟨p, hp⟩ : ∃ p, (memV W other).isSome = p := ⟨_, rfl⟩
      rw [hB] at hv4
      rw [hp]
      have HB4 : Hid (_ ∧ _) := ⟨hB, hp⟩
      clear hB hp
      obtain ⟨j1, j2, k1, k2, rfl⟩ := hv4.shape
      have B4 : Hid (HasV (w4.alloc (.cells #[.int .i64 B.kind, .int .i64 B.n, .string ⟨B.s.toArray⟩, .slice j1 B.keys.length k1, .slice j2 B.l.length k2] 25)) (fun _ => True) (D + 1) w4.heap.size B j1 j2 k1 k2) := hidI (HasV.new hv4)
      have A4 := hidI ((A3.out.bel hb4).bel (bel_alloc w4 (.cells #[.int .i64 B.kind, .int .i64 B.n, .string ⟨B.s.toArray⟩, .slice j1 B.keys.length k1, .slice j2 B.l.length k2] 25)))
      have W4 := hidI ((W3.out.bel hb4).bel (bel_alloc w4 (.cells #[.int .i64 B.kind, .int .i64 B.n, .string ⟨B.s.toArray⟩, .slice j1 B.keys.length k1, .slice j2 B.l.length k2] 25)))
      have T4 := hidI ((T3.out.bel hb4).bel (bel_alloc w4 (.cells #[.int .i64 B.kind, .int .i64 B.n, .string ⟨B.s.toArray⟩, .slice j1 B.keys.length k1, .slice j2 B.l.length k2] 25)))
      have Y4 := hidI ((Y3.out.bel hb4).bel (bel_alloc w4 (.cells #[.int .i64 B.kind, .int .i64 B.n, .string ⟨B.s.toArray⟩, .slice j1 B.keys.length k1, .slice j2 B.l.length k2] 25)))
      have BB4 := hidI (bel_trans (bel_trans BB3.out hb4) (bel_alloc w4 (.cells #[.int .i64 B.kind, .int .i64 B.n, .string ⟨B.s.toArray⟩, .slice j1 B.keys.length k1, .slice j2 B.l.length k2] 25)))
      clear hv4 hm4 hb4 A3 W3 T3 Y3 BB3 z0 z1 z2 z3 z4
      obtain ⟨x0, x1, x2, x3, x4, -⟩ := T4.out.1.c
      go_wp2_with fail
      refine (member_at _ _ (D + 1) t _ other (by exact T4.out.2)).mono ?_
      rintro e w5 ⟨cv, cb, rfl, hb5, hm5⟩
      obtain ⟨hv5, rfl⟩ := memis_vis hm5
      obtain ⟨C, hC⟩ : ∃ C, (memV t other).getD (leafV 0 0 []) = C := ⟨_, rfl⟩
      obtain ⟨q, hq⟩ : ∃ q, (memV t other).isSome = q := ⟨_, rfl⟩
      rw [hC] at hv5
      rw [hq]
      have HC5 : Hid (_ ∧ _) := ⟨hC, hq⟩
      clear hC hq
      obtain ⟨l1, l2, m1, m2, rfl⟩ := hv5.shape
      have C5 : Hid (HasV (w5.alloc (.cells #[.int .i64 C.kind, .int .i64 C.n, .string ⟨C.s.toArray⟩, .slice l1 C.keys.length m1, .slice l2 C.l.length m2] 25)) (fun _ => True) (D + 1) w5.heap.size C l1 l2 m1 m2) := hidI (HasV.new hv5)
      have B5 := hidI ((B4.out.bel hb5).bel (bel_alloc w5 (.cells #[.int .i64 C.kind, .int .i64 C.n, .string ⟨C.s.toArray⟩, .slice l1 C.keys.length m1, .slice l2 C.l.length m2] 25)))
      have A5 := hidI ((A4.out.bel hb5).bel (bel_alloc w5 (.cells #[.int .i64 C.kind, .int .i64 C.n, .string ⟨C.s.toArray⟩, .slice l1 C.keys.length m1, .slice l2 C.l.length m2] 25)))
      have W5 := hidI ((W4.out.bel hb5).bel (bel_alloc w5 (.cells #[.int .i64 C.kind, .int .i64 C.n, .string ⟨C.s.toArray⟩, .slice l1 C.keys.length m1, .slice l2 C.l.length m2] 25)))
      have Y5 := hidI ((Y4.out.bel hb5).bel (bel_alloc w5 (.cells #[.int .i64 C.kind, .int .i64 C.n, .string ⟨C.s.toArray⟩, .slice l1 C.keys.length m1, .slice l2 C.l.length m2] 25)))
      have BB5 := hidI (bel_trans (bel_trans BB4.out hb5) (bel_alloc w5 (.cells #[.int .i64 C.kind, .int .i64 C.n, .string ⟨C.s.toArray⟩, .slice l1 C.keys.length m1, .slice l2 C.l.length m2] 25)))
      clear hv5 hm5 hb5 B4 A4 W4 T4 Y4 BB4 x0 x1 x2 x3 x4
      obtain ⟨z0, z1, z2, z3, z4, -⟩ := W5.out.1.c
      have WL : Hid (W.l.length ≤ 100000) := hidI (by rw [← HW.out]; have := with_items t key x; have := GI.out; omega)
      go_wp2_with fail
      refine (without_all _ _ D W _ key (by exact W5.out.2) WL.out).mono ?_
      rintro e w6 ⟨r6, rfl, hr6, hb6⟩
      have B6 := hidI (B5.out.bel hb6)
      have A6 := hidI (A5.out.bel hb6)
      have C6 := hidI (C5.out.bel hb6)
      have Y6 := hidI (Y5.out.bel hb6)
      have BB6 := hidI (bel_trans BB5.out hb6)
      have R6 := hidI hr6
      clear hr6 hb6 B5 A5 C5 W5 Y5 BB5 z0 z1 z2 z3 z4
      go_wp2_with fail
      refine (member_at _ _ (D + 1) (withoutV W key) _ key (by exact R6.out)).mono ?_
      rintro e w7 ⟨dv, db, rfl, hb7, hm7⟩
      obtain ⟨hv7, rfl⟩ := memis_vis hm7
      have m7 : memV (withoutV W key) key = none := by rw [← HW.out]; exact mem_without (with_paired GO.out.1 key x) (with_nodup GO.out.1 GO.out.2 key x) key
      rw [m7] at hv7 ⊢
      simp only [Option.getD_none, Option.isSome_none] at hv7 ⊢
      clear m7
      obtain ⟨n1, n2, o1, o2, rfl⟩ := hv7.shape
      have B7 := hidI ((B6.out.bel hb7).bel (bel_alloc w7 (.cells #[.int .i64 (leafV 0 0 []).kind, .int .i64 (leafV 0 0 []).n, .string ⟨(leafV 0 0 []).s.toArray⟩, .slice n1 (leafV 0 0 []).keys.length o1, .slice n2 (leafV 0 0 []).l.length o2] 25)))
      have A7 := hidI ((A6.out.bel hb7).bel (bel_alloc w7 (.cells #[.int .i64 (leafV 0 0 []).kind, .int .i64 (leafV 0 0 []).n, .string ⟨(leafV 0 0 []).s.toArray⟩, .slice n1 (leafV 0 0 []).keys.length o1, .slice n2 (leafV 0 0 []).l.length o2] 25)))
      have C7 := hidI ((C6.out.bel hb7).bel (bel_alloc w7 (.cells #[.int .i64 (leafV 0 0 []).kind, .int .i64 (leafV 0 0 []).n, .string ⟨(leafV 0 0 []).s.toArray⟩, .slice n1 (leafV 0 0 []).keys.length o1, .slice n2 (leafV 0 0 []).l.length o2] 25)))
      have Y7 := hidI ((Y6.out.bel hb7).bel (bel_alloc w7 (.cells #[.int .i64 (leafV 0 0 []).kind, .int .i64 (leafV 0 0 []).n, .string ⟨(leafV 0 0 []).s.toArray⟩, .slice n1 (leafV 0 0 []).keys.length o1, .slice n2 (leafV 0 0 []).l.length o2] 25)))
      have BB7 := hidI (bel_trans (bel_trans BB6.out hb7) (bel_alloc w7 (.cells #[.int .i64 (leafV 0 0 []).kind, .int .i64 (leafV 0 0 []).n, .string ⟨(leafV 0 0 []).s.toArray⟩, .slice n1 (leafV 0 0 []).keys.length o1, .slice n2 (leafV 0 0 []).l.length o2] 25)))
      clear hv7 hm7 hb7 B6 A6 C6 Y6 BB6
      simp only [leafV, List.length_nil] at B7 A7 C7 Y7 BB7 ⊢
      have ZZ : Hid True := trivial
      obtain ⟨s0, s1, s2, s3, s4, -⟩ := A7.out.1.c
      obtain ⟨y0, y1, y2, y3, y4, -⟩ := Y7.out.1.c
      have SR := hidI (sameS_refl (D + 1) A7.out.2)
      by_cases ho : other = key
      · subst ho
        have eo : (ByteArray.mk other.toArray == ByteArray.mk other.toArray) = true := ba_eq rfl
        go_wp2_with fail
        refine (same_all (D + 1) _ _ _ x x _ _ (by exact A7.out.2) (by exact Y7.out.2.succ)).mono ?_
        rintro e w8 ⟨rfl, hb8⟩
        rw [SR.out]
        have BB8 := hidI (bel_trans BB7.out hb8)
        have G8 : Hid (Glob w8) := hidI (HG.out.grown (gb_below (r := none) BB8.out) (by simp))
        clear hb8
        go_wp2_with fail
        refine (reads_at _ (by exact G8.out)).mono ?_
        rintro e w9 ⟨rfl, hb9⟩
        have HB9 := hidI hb9
        clear hb9
        go_wp2_with fail
        go_ret
        exact ⟨rfl, bel_trans BB8.out HB9.out⟩
      · have eo : (ByteArray.mk other.toArray == ByteArray.mk key.toArray) = false := ba_ne (by simpa using ho)
        have EQ : memV W other = memV t other := by rw [← HW.out]; exact mem_other GO.out.1 key other x ho
        obtain ⟨hB1, hB2⟩ := HB4.out
        obtain ⟨hC1, hC2⟩ := HC5.out
        have EB : B = C := by rw [← hB1, ← hC1, EQ]
        have EP : p = q := by rw [← hB2, ← hC2, EQ]
        clear hB1 hB2 hC1 hC2 HB4 HC5 EQ
        subst EP
        subst EB
        cases p
        all_goals
          go_wp2_with fail
          refine (same_all (D + 1) _ _ _ x x _ _ (by exact A7.out.2) (by exact Y7.out.2.succ)).mono ?_
          rintro e w8 ⟨rfl, hb8⟩
          rw [SR.out]
          have B8 := hidI (B7.out.bel hb8)
          have C8 := hidI (C7.out.bel hb8)
          have BB8 := hidI (bel_trans BB7.out hb8)
          have SB := hidI (sameS_refl (D + 1) B8.out.2)
          clear hb8 B7 C7 BB7 s0 s1 s2 s3 s4 y0 y1 y2 y3 y4
          obtain ⟨s0, s1, s2, s3, s4, -⟩ := B8.out.1.c
          obtain ⟨y0, y1, y2, y3, y4, -⟩ := C8.out.1.c
          go_wp2_with fail
          refine (same_all (D + 1) _ _ _ B B _ _ (by exact B8.out.2) (by exact C8.out.2)).mono ?_
          rintro e w9 ⟨rfl, hb9⟩
          rw [SB.out]
          have BB9 := hidI (bel_trans BB8.out hb9)
          have G9 : Hid (Glob w9) := hidI (HG.out.grown (gb_below (r := none) BB9.out) (by simp))
          clear hb9
          go_wp2_with fail
          refine (reads_at _ (by exact G9.out)).mono ?_
          rintro e w10 ⟨rfl, hb10⟩
          have HB10 := hidI hb10
          clear hb10
          go_wp2_with fail
          go_ret
          exact ⟨rfl, bel_trans BB9.out HB10.out⟩
    · have n5 : (t.kind != 5) = true := by simp [hk]
      have q5 : (t.kind == 5) = false := by simp [hk]
      clear hgd hk
      go_wp2_with fail
      refine (reads_at _ (by exact G1.out)).mono ?_
      rintro e w2 ⟨rfl, hb2⟩
      have HB2 := hidI hb2
      clear hb2
      go_wp2_with fail
      go_ret
      exact ⟨rfl, bel_trans BB1.out HB2.out⟩
end Go.Proofs.YtkmonpdppgcgaabDoor
