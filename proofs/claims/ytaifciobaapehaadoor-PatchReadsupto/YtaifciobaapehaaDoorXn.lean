/- What Get of package point does. -/
import Derived.Test.YtaifciobaapehaaDoorXc
import Derived.Test.YtaifciobaapehaaDoorWd
set_option linter.unusedSimpArgs false
set_option linter.unusedVariables false
namespace Go.Proofs.YtaifciobaapehaaDoor
open Go.RowKit

/- On the way: what is got so far. -/
def GetI (w : World) (ok : Nat → Prop) (t : V) (ns : List (List UInt8)) (na : Option Addr) (nc k : Nat) (wr : World) : Prop :=
  ∃ (y : V) (a5 a6 : Option Addr) (c5 c6 : Nat), getV ns t = getV (ns.drop k) y ∧ BoxIs wr w.heap.size (.int .i64 y.kind) (.int .i64 y.n) (.string ⟨y.s.toArray⟩) (.slice a5 y.keys.length c5) (.slice a6 y.l.length c6) ∧ BoxIs wr (w.heap.size + 1) (.int .i64 0) (.int .i64 0) (.string ⟨#[]⟩) (.slice none 0 0) (.slice none 0 0) ∧ Below w.heap.size w wr ∧
    In wr (fun k => ok k ∧ k < w.heap.size) y (.agg #[.int .i64 y.kind, .int .i64 y.n, .string ⟨y.s.toArray⟩, .slice a5 y.keys.length c5, .slice a6 y.l.length c6]) ∧ StrsAre wr (fun k => w.heap.size + 2 ≤ k) ns (.slice na ns.length nc)

set_option maxRecDepth 100000 in
set_option maxHeartbeats 40000000 in
theorem get_is (w : World) (ok : Nat → Prop) (t : V) (v : Value) (p : List UInt8) (h : In w ok t v) (hp : p.length ≤ 140737488351232) (hM : GlobM w) :
    Calls Tryd.prog 7 #[v, str p] w fun e w' => ∃ r, e = .returned (.tuple #[r, .int .i64 (getR (splitP p) t).2]) ∧ Below w.heap.size w w' ∧ In w' ok (getR (splitP p) t).1 r := by
  have H := hidI h.low
  have HMM := hidI hM
  obtain ⟨l1, l2, l3⟩ := h.lens
  obtain ⟨a1, a2, c1, c2, rfl⟩ := h.form
  clear h hM
  go_enter Tryd.func7, Tryd.ntmps7
  go_wp2_with fail
  refine (split_all _ p hp (by exact HMM.out.bel (bel_trans (bel_alloc _ _) (bel_alloc _ _)))).mono ?_
  rintro e w1 ⟨ns, ee, na, nc, rfl, hsp, hns, hb1⟩
  have SP := hidI hsp
  have nlen := hns.1
  unfold maxLen at nlen
  have K1 : Hid (BoxIs w1 w.heap.size (.int .i64 t.kind) (.int .i64 t.n) (.string ⟨t.s.toArray⟩) (.slice a1 t.keys.length c1) (.slice a2 t.l.length c2) ∧ BoxIs w1 (w.heap.size + 1) (.int .i64 0) (.int .i64 0) (.string ⟨#[]⟩) (.slice none 0 0) (.slice none 0 0) ∧ Below w.heap.size w w1 ∧ StrsAre w1 (fun k => w.heap.size + 2 ≤ k) ns (.slice na ns.length nc)) := ⟨box_bel hb1 (h2a w _ _), box_bel hb1 (h2b w _ _), bel_trans (bel_trans (bel_alloc _ _) (bel_alloc _ _)) hb1, hns.imp fun a x hx hc => ⟨by simpa using hx, hc⟩⟩
  clear hb1 hns hsp
  by_cases he : ee = 0
  · subst he
    obtain ⟨p0, p1, p2, p3, p4, -⟩ := K1.out.1.c
    go_wp2_with fail
    refine (good_is _ (fun k => ok k ∧ k < w.heap.size) t _ (by exact H.out.bel K1.out.2.2.1)).mono ?_
    rintro e w2 ⟨rfl, hb2⟩
    have K2 : Hid (BoxIs w2 w.heap.size (.int .i64 t.kind) (.int .i64 t.n) (.string ⟨t.s.toArray⟩) (.slice a1 t.keys.length c1) (.slice a2 t.l.length c2) ∧ BoxIs w2 (w.heap.size + 1) (.int .i64 0) (.int .i64 0) (.string ⟨#[]⟩) (.slice none 0 0) (.slice none 0 0) ∧ Below w.heap.size w w2 ∧ StrsAre w2 (fun k => w.heap.size + 2 ≤ k) ns (.slice na ns.length nc)) := ⟨box_bel hb2 K1.out.1, box_bel hb2 K1.out.2.1, bel_trans K1.out.2.2.1 hb2, K1.out.2.2.2.bel hb2⟩
    clear hb2 p0 p1 p2 p3 p4 K1
    cases hg : goodV t with
    | false =>
      obtain ⟨x0, x1, x2, x3, x4, y0, y1, y2, y3, y4⟩ := (K2.out.2.1).c
      have Z := hidI (bel_set5 K2.out.2.2.1 (Nat.le_succ w.heap.size) (.int .i64 0) (.int .i64 0) (.string ⟨#[]⟩) (.slice none 0 0) (.slice none 0 0))
      have ZB := hidI ((K2.out.2.1).set (.int .i64 0) (.int .i64 0) (.string ⟨#[]⟩) (.slice none 0 0) (.slice none 0 0))
      have HA : Hid (getR (splitP p) t = (zeroT, 1)) := hidI (by rw [SP.out]; unfold getR; rw [if_neg (by simp), if_pos hg])
      clear hg
      go_wp2_with fail
      obtain ⟨z0, z1, z2, z3, z4, -⟩ := ZB.out.c
      refine bodyPost_ret (v := .tuple #[.agg #[.int .i64 0, .int .i64 0, .string ⟨#[]⟩, .slice none 0 0, .slice none 0 0], .int .i64 1]) ?_ rfl ?_
      · simp only [set5] at z0 z1 z2 z3 z4
        simp [results, Tryd.results7, go_sem, z0, z1, z2, z3, z4]
      · refine ⟨_, by rw [HA.out], Z.out, ?_⟩
        rw [HA.out]
        exact in_zero _ _
    | true =>
      have HG := hidI hg
      clear hg
      have S0 : Hid (GetI w ok t ns na nc 0 w2) := ⟨t, a1, a2, c1, c2, rfl, K2.out.1, K2.out.2.1, K2.out.2.2.1, H.out.bel K2.out.2.2.1, K2.out.2.2.2⟩
      clear K2
      go_wp2_with fail
      go_loopg [27] ns.length (fun gk i wr => ∃ k : Nat, k ≤ ns.length ∧ gk = ns.length - k ∧ i = .int .i64 k ∧ GetI w ok t ns na nc k wr)
      case atStart => exact ⟨0, Nat.zero_le _, rfl, rfl, S0.out⟩
      case round =>
        obtain ⟨k, hk, hgk, rfl, y, a5, a6, c5, c6, i1, i2, i3, i4, i5, i6⟩ := hrel
        have GK := hidI hgk
        have I : Hid (getV ns t = getV (ns.drop k) y ∧ BoxIs wr w.heap.size (.int .i64 y.kind) (.int .i64 y.n) (.string ⟨y.s.toArray⟩) (.slice a5 y.keys.length c5) (.slice a6 y.l.length c6) ∧ BoxIs wr (w.heap.size + 1) (.int .i64 0) (.int .i64 0) (.string ⟨#[]⟩) (.slice none 0 0) (.slice none 0 0) ∧ Below w.heap.size w wr ∧ In wr (fun k => ok k ∧ k < w.heap.size) y (.agg #[.int .i64 y.kind, .int .i64 y.n, .string ⟨y.s.toArray⟩, .slice a5 y.keys.length c5, .slice a6 y.l.length c6]) ∧ StrsAre wr (fun k => w.heap.size + 2 ≤ k) ns (.slice na ns.length nc)) := ⟨i1, i2, i3, i4, i5, i6⟩
        obtain ⟨p0, p1, p2, p3, p4, p5, p6, p7, p8, p9⟩ := i2.c
        clear hgk i1 i2 i3 i4 i5 i6
        by_cases hlt : k < ns.length
        · obtain ⟨nb, no, rfl, hc1, hc2, hc⟩ := strs_cells I.out.2.2.2.2.2 hlt
          unfold maxLen at hc2
          have hsl : ns[k].length ≤ 9223372036854775807 := I.out.2.2.2.2.2.mem _ (List.getElem_mem _)
          go_wp2_with fail
          refine (meant_is _ (fun k => ok k ∧ k < w.heap.size) y _ ns[k] (by exact I.out.2.2.2.2.1) hsl).mono ?_
          rintro e w3 ⟨r, b, rfl, hb3, hb, u, hu, huz⟩
          obtain ⟨b5, b6, d5, d6, rfl⟩ := hu.form
          have hbb := bel_trans hb3 (bel_alloc w3 (.cells #[.int .i64 u.kind, .int .i64 u.n, .string ⟨u.s.toArray⟩, .slice b5 u.keys.length d5, .slice b6 u.l.length d6] 25))
          have K3 : Hid (BoxIs (w3.alloc (.cells #[.int .i64 u.kind, .int .i64 u.n, .string ⟨u.s.toArray⟩, .slice b5 u.keys.length d5, .slice b6 u.l.length d6] 25)) w.heap.size (.int .i64 y.kind) (.int .i64 y.n) (.string ⟨y.s.toArray⟩) (.slice a5 y.keys.length c5) (.slice a6 y.l.length c6) ∧ BoxIs (w3.alloc (.cells #[.int .i64 u.kind, .int .i64 u.n, .string ⟨u.s.toArray⟩, .slice b5 u.keys.length d5, .slice b6 u.l.length d6] 25)) (w.heap.size + 1) (.int .i64 0) (.int .i64 0) (.string ⟨#[]⟩) (.slice none 0 0) (.slice none 0 0) ∧ Below w.heap.size w (w3.alloc (.cells #[.int .i64 u.kind, .int .i64 u.n, .string ⟨u.s.toArray⟩, .slice b5 u.keys.length d5, .slice b6 u.l.length d6] 25)) ∧ BoxIs (w3.alloc (.cells #[.int .i64 u.kind, .int .i64 u.n, .string ⟨u.s.toArray⟩, .slice b5 u.keys.length d5, .slice b6 u.l.length d6] 25)) w3.heap.size (.int .i64 u.kind) (.int .i64 u.n) (.string ⟨u.s.toArray⟩) (.slice b5 u.keys.length d5) (.slice b6 u.l.length d6) ∧ In (w3.alloc (.cells #[.int .i64 u.kind, .int .i64 u.n, .string ⟨u.s.toArray⟩, .slice b5 u.keys.length d5, .slice b6 u.l.length d6] 25)) (fun k => ok k ∧ k < w.heap.size) u (.agg #[.int .i64 u.kind, .int .i64 u.n, .string ⟨u.s.toArray⟩, .slice b5 u.keys.length d5, .slice b6 u.l.length d6]) ∧ StrsAre (w3.alloc (.cells #[.int .i64 u.kind, .int .i64 u.n, .string ⟨u.s.toArray⟩, .slice b5 u.keys.length d5, .slice b6 u.l.length d6] 25)) (fun k => w.heap.size + 2 ≤ k) ns (.slice (some ⟨nb, no, none⟩) ns.length nc)) := ⟨box_bel hbb I.out.2.1, box_bel hbb I.out.2.2.1, bel_trans I.out.2.2.2.1 hbb, heap_alloc_new w3 _, hu.bel (bel_alloc _ _), I.out.2.2.2.2.2.bel hbb⟩
          have GS : Hid (getV (ns.drop k) y = (meantV y ns[k]).bind (getV (ns.drop (k + 1)))) := hidI (by rw [List.drop_eq_getElem_cons hlt, getV])
          clear hb3 hbb hu hc p0 p1 p2 p3 p4 p5 p6 p7 p8 p9
          obtain ⟨o0, o1, o2, o3, o4, o5, o6, o7, o8, o9⟩ := K3.out.1.c
          obtain ⟨q0, q1, q2, q3, q4, -⟩ := K3.out.2.2.2.1.c
          cases hm : meantV y ns[k] with
          | none =>
            rw [hm] at hb
            simp only [Option.isSome_none] at hb
            subst hb
            obtain ⟨x0, x1, x2, x3, x4, y0, y1, y2, y3, y4⟩ := (K3.out.2.1).c
            have Z := hidI (bel_set5 K3.out.2.2.1 (Nat.le_succ w.heap.size) (.int .i64 0) (.int .i64 0) (.string ⟨#[]⟩) (.slice none 0 0) (.slice none 0 0))
            have ZB := hidI ((K3.out.2.1).set (.int .i64 0) (.int .i64 0) (.string ⟨#[]⟩) (.slice none 0 0) (.slice none 0 0))
            have HA : Hid (getR (splitP p) t = (zeroT, 3)) := hidI (by rw [SP.out]; unfold getR; rw [if_neg (by simp), if_neg (by simp [HG.out]), I.out.1, GS.out, hm]; rfl)
            clear hm huz o0 o1 o2 o3 o4 o5 o6 o7 o8 o9 q0 q1 q2 q3 q4
            go_wp2_with fail
            obtain ⟨z0, z1, z2, z3, z4, -⟩ := ZB.out.c
            refine bodyPost_ret (v := .tuple #[.agg #[.int .i64 0, .int .i64 0, .string ⟨#[]⟩, .slice none 0 0, .slice none 0 0], .int .i64 3]) ?_ rfl ?_
            · simp only [set5] at z0 z1 z2 z3 z4
              simp [results, Tryd.results7, go_sem, z0, z1, z2, z3, z4]
            · refine ⟨_, by rw [HA.out], Z.out, ?_⟩
              rw [HA.out]
              exact in_zero _ _
          | some z9 =>
            rw [hm] at hb
            simp only [Option.isSome_some] at hb
            subst hb
            obtain rfl := huz z9 hm
            have HM := hidI hm
            have FIN : Hid (GetI w ok t ns (some ⟨nb, no, none⟩) nc (k + 1) (set5 (w3.alloc (.cells #[.int .i64 u.kind, .int .i64 u.n, .string ⟨u.s.toArray⟩, .slice b5 u.keys.length d5, .slice b6 u.l.length d6] 25)) w.heap.size (.int .i64 u.kind) (.int .i64 u.n) (.string ⟨u.s.toArray⟩) (.slice b5 u.keys.length d5) (.slice b6 u.l.length d6))) := by
              have g1 := set5_gb (w3.alloc (.cells #[.int .i64 u.kind, .int .i64 u.n, .string ⟨u.s.toArray⟩, .slice b5 u.keys.length d5, .slice b6 u.l.length d6] 25)) w.heap.size (.int .i64 u.kind) (.int .i64 u.n) (.string ⟨u.s.toArray⟩) (.slice b5 u.keys.length d5) (.slice b6 u.l.length d6)
              refine ⟨u, b5, b6, d5, d6, ?_, K3.out.1.set _ _ _ _ _, K3.out.2.1.grown g1 (by simp), bel_set5 K3.out.2.2.1 (Nat.le_refl _) _ _ _ _ _, K3.out.2.2.2.2.1.grown g1 (fun k hk => by omega), K3.out.2.2.2.2.2.imp (cells_grown g1 (fun k hk e => by cases e; omega))⟩
              rw [I.out.1, GS.out, HM.out]; rfl
            clear hm huz K3
            go_wp2_with fail
            go_roundg (ns.length - (k + 1))
            case measure => rw [GK.out]; omega
            case rel => exact ⟨k + 1, hlt, rfl, by go_num, FIN.out⟩
        · have hke : k = ns.length := by omega
          subst hke
          obtain ⟨x0, x1, x2, x3, x4, y0, y1, y2, y3, y4⟩ := I.out.2.2.1.c
          have Z := hidI (bel_set5 I.out.2.2.2.1 (Nat.le_succ w.heap.size) (.int .i64 y.kind) (.int .i64 y.n) (.string ⟨y.s.toArray⟩) (.slice a5 y.keys.length c5) (.slice a6 y.l.length c6))
          have ZI := hidI ((I.out.2.2.2.2.1.grown (set5_gb wr (w.heap.size + 1) (.int .i64 y.kind) (.int .i64 y.n) (.string ⟨y.s.toArray⟩) (.slice a5 y.keys.length c5) (.slice a6 y.l.length c6)) (fun k hk => by omega)).weak fun k hk => hk.1)
          have ZB := hidI (I.out.2.2.1.set (.int .i64 y.kind) (.int .i64 y.n) (.string ⟨y.s.toArray⟩) (.slice a5 y.keys.length c5) (.slice a6 y.l.length c6))
          have HA : Hid (getR (splitP p) t = (y, 0)) := hidI (by rw [SP.out]; refine get_ok rfl HG.out ?_; rw [I.out.1, List.drop_length]; rfl)
          go_wp2_with fail
          obtain ⟨z0, z1, z2, z3, z4, -⟩ := ZB.out.c
          refine bodyPost_ret (v := .tuple #[.agg #[.int .i64 y.kind, .int .i64 y.n, .string ⟨y.s.toArray⟩, .slice a5 y.keys.length c5, .slice a6 y.l.length c6], .int .i64 0]) ?_ rfl ?_
          · simp only [set5] at z0 z1 z2 z3 z4
            simp [results, Tryd.results7, go_sem, z0, z1, z2, z3, z4]
          · refine ⟨_, by rw [HA.out], Z.out, ?_⟩
            rw [HA.out]
            exact ZI.out
  · have e1 : (ee != 0) = true := by rw [bne_iff_ne]; exact he
    have e2 : (ee == 0) = false := by rw [beq_eq_false_iff_ne]; exact he
    have HE := hidI he
    clear he
    obtain ⟨x0, x1, x2, x3, x4, y0, y1, y2, y3, y4⟩ := (K1.out.2.1).c
    have Z := hidI (bel_set5 K1.out.2.2.1 (Nat.le_succ w.heap.size) (.int .i64 0) (.int .i64 0) (.string ⟨#[]⟩) (.slice none 0 0) (.slice none 0 0))
    have ZB := hidI ((K1.out.2.1).set (.int .i64 0) (.int .i64 0) (.string ⟨#[]⟩) (.slice none 0 0) (.slice none 0 0))
    have HA : Hid (getR (splitP p) t = (zeroT, ee)) := hidI (by rw [SP.out]; unfold getR; rw [if_pos HE.out])
    clear K1
    go_wp2_with fail
    obtain ⟨z0, z1, z2, z3, z4, -⟩ := ZB.out.c
    refine bodyPost_ret (v := .tuple #[.agg #[.int .i64 0, .int .i64 0, .string ⟨#[]⟩, .slice none 0 0, .slice none 0 0], .int .i64 ee]) ?_ rfl ?_
    · simp only [set5] at z0 z1 z2 z3 z4
      simp [results, Tryd.results7, go_sem, z0, z1, z2, z3, z4]
    · refine ⟨_, by rw [HA.out], Z.out, ?_⟩
      rw [HA.out]
      exact in_zero _ _

end Go.Proofs.YtaifciobaapehaaDoor
