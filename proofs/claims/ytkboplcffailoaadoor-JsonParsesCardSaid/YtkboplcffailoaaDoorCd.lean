/- What With of package json does where the key is there. -/
import Derived.Test.YtkboplcffailoaaDoorCh
import Derived.Deep.DrawnRows
set_option linter.unusedSimpArgs false
set_option linter.unusedVariables false
namespace Go.Proofs.YtkboplcffailoaaDoor
open Go.RowKit
attribute [local go_sem ↓] Go.wp_at_zero Go.wp_at_succ

set_option maxRecDepth 100000 in
set_option maxHeartbeats 40000000 in
theorem with_found (w : World) (ok : Nat → Prop) (d : Nat) (t x : V) (v xv : Value) (key : List UInt8) (i : Nat) (h : VIs w ok (d + 1) t v) (hx : VIs w ok d x xv) (hf : findV t key = some i) (hsz : t.l.length ≤ 100000) :
    Calls Tryd.prog 53 #[v, str key, xv] w fun e w' => ∃ r, e = .returned r ∧ VIs w' (okN ok w.heap.size) (d + 1) { t with l := t.l.take i ++ x :: t.l.drop (i + 1) } r ∧ Below w.heap.size w w' := by
  have H := hidI h
  have HX := hidI hx
  obtain ⟨ks, ls, rfl, h1, h2, h3, h4, h5⟩ := h
  have K5 := hidI h5
  have KK : Hid (I64 t.kind ∧ I64 t.n ∧ t.s.length ≤ maxLen ∧ StrsAre w ok t.keys ks) := ⟨h1, h2, h3, h4⟩
  obtain ⟨a1, c1, rfl⟩ := h4.form
  have l1 := h4.1
  obtain ⟨f1, f2, f3, f4⟩ := findV_some hf
  have F := hidI hf
  have FP := hidI f1
  clear hf f1 f2
  obtain ⟨_, K5'⟩ := K5.out
  rcases K5' with ⟨e, _⟩ | ⟨b, off, c, hls', hc1, hc2, hcs⟩
  · rw [e] at f3; simp at f3
  subst hls'
  obtain ⟨xk, xl, hxv⟩ : ∃ xk xl, xv = .agg #[.int .i64 x.kind, .int .i64 x.n, str x.s, xk, xl] := by
    match d, hx with
    | d + 1, hx => obtain ⟨ks, ls, e, _⟩ := hx; exact ⟨ks, ls, e⟩
  subst hxv
  obtain ⟨-, -, -, ⟨a7, c7, rfl⟩, ⟨a8, c8, rfl⟩⟩ := hx.agg
  unfold maxLen at l1 h3 hc2
  unfold str
  clear h4 h5 h1 h2 hx hcs
  go_enter Tryd.func53, Tryd.ntmps53
  go_wp2_with fail
  refine (paired_at _ ok _ t _ (by exact H.out.bel (bel_trans (bel_trans (bel_alloc _ _) (bel_alloc _ _)) (bel_alloc _ _)))).mono ?_
  rintro e w1 ⟨rfl, hb1⟩
  rw [FP.out]
  have bx : Hid (BoxIs w1 w.heap.size (.int .i64 t.kind) (.int .i64 t.n) (.string ⟨t.s.toArray⟩) (.slice a1 t.keys.length c1) (.slice (some ⟨b, off, none⟩) t.l.length c) ∧ BoxIs w1 (w.heap.size + 1) (.int .i64 x.kind) (.int .i64 x.n) (.string ⟨x.s.toArray⟩) (.slice a7 x.keys.length c7) (.slice a8 x.l.length c8) ∧ BoxIs w1 (w.heap.size + 2) (.int .i64 0) (.int .i64 0) (.string ⟨#[]⟩) (.slice none 0 0) (.slice none 0 0)) := ⟨box_bel hb1 (h3a w _ _ _), box_bel hb1 (h3b w _ _ _), box_bel hb1 (h3c w _ _ _)⟩
  obtain ⟨p0, p1, p2, p3, p4, -, -, -, p9, p10⟩ := bx.out.1.c
  have B1 : Hid (Below w.heap.size w w1) := bel_trans (bel_trans (bel_trans (bel_alloc _ _) (bel_alloc _ _)) (bel_alloc _ _)) hb1
  clear hb1
  go_wp2_with fail
  refine (find_at _ ok _ t _ key (by exact H.out.bel B1.out)).mono ?_
  rintro e w2 ⟨rfl, hb2⟩
  rw [F.out]
  have bx2 : Hid (BoxIs w2 w.heap.size (.int .i64 t.kind) (.int .i64 t.n) (.string ⟨t.s.toArray⟩) (.slice a1 t.keys.length c1) (.slice (some ⟨b, off, none⟩) t.l.length c) ∧ BoxIs w2 (w.heap.size + 1) (.int .i64 x.kind) (.int .i64 x.n) (.string ⟨x.s.toArray⟩) (.slice a7 x.keys.length c7) (.slice a8 x.l.length c8) ∧ BoxIs w2 (w.heap.size + 2) (.int .i64 0) (.int .i64 0) (.string ⟨#[]⟩) (.slice none 0 0) (.slice none 0 0)) := ⟨box_bel hb2 bx.out.1, box_bel hb2 bx.out.2.1, box_bel hb2 bx.out.2.2⟩
  have B2 : Hid (Below w.heap.size w w2) := bel_trans B1.out hb2
  have hsz2 : w.heap.size + 2 < w2.heap.size := bx2.out.2.2.lt
  clear hb2 p0 p1 p2 p3 p4 p9 p10 bx B1
  unfold optI
  obtain ⟨p0, p1, p2, p3, p4, -, -, -, p9, p10⟩ := bx2.out.1.c
  obtain ⟨q0, q1, q2, q3, q4, -⟩ := bx2.out.2.1.c
  have i0 : 0 ≤ (i : Int) := by omega
  have i1 : (i : Int) ≤ (c : Int) := by omega
  have i2 : (i : Int) + 1 ≤ (t.l.length : Int) := by omega
  have i3 : (t.l.length : Int) ≤ (c : Int) := by omega
  obtain ⟨cs1, cs2, r1, s1, r2, s2⟩ := sl_parts K5.out i (i + 1) (by omega) f3 (by omega)
  obtain ⟨a3, hifs⟩ : ∃ a3, (if c = i + 1 then (some ⟨b, off, none⟩ : Option Addr) else some ⟨b, off + (i + 1) * 5, none⟩) = a3 := ⟨_, rfl⟩
  rw [hifs] at s2
  have PP : Hid (RowV (VIs w ok d) (t.l.take i) cs1 ∧ SlIs w 5 (.slice (some ⟨b, off, none⟩) i c) i cs1 ∧ RowV (VIs w ok d) (t.l.drop (i + 1)) cs2 ∧ SlIs w 5 (.slice a3 (t.l.length - (i + 1)) (c - (i + 1))) (t.l.length - (i + 1)) cs2) := ⟨r1, s1, r2, s2⟩
  clear r1 s1 r2 s2
  go_wp2_with fail
  have hw1 : IntKind.i64.wrap ((i : Int) + 1) = (i : Int) + 1 := by rw [IntKind.wrap_i64]; omega
  have i4 : (0 : Int) ≤ (i : Int) + 1 := by omega
  have hS : Hid (∀ W', Below w2.heap.size w2 W' → BoxIs W' w.heap.size (.int .i64 t.kind) (.int .i64 t.n) (.string ⟨t.s.toArray⟩) (.slice a1 t.keys.length c1) (.slice (some ⟨b, off, none⟩) t.l.length c) ∧ BoxIs W' (w.heap.size + 1) (.int .i64 x.kind) (.int .i64 x.n) (.string ⟨x.s.toArray⟩) (.slice a7 x.keys.length c7) (.slice a8 x.l.length c8) ∧ BoxIs W' (w.heap.size + 2) (.int .i64 0) (.int .i64 0) (.string ⟨#[]⟩) (.slice none 0 0) (.slice none 0 0)) :=
    fun W' hb => ⟨box_bel hb bx2.out.1, box_bel hb bx2.out.2.1, box_bel hb bx2.out.2.2⟩
  have hcon : Hid (∀ W, W.heap = ((w2.alloc (.cells #[.int .i64 x.kind, .int .i64 x.n, .string ⟨x.s.toArray⟩, .slice a7 x.keys.length c7, .slice a8 x.l.length c8] 25)).alloc (.cells #[.slice (some ⟨b, off, none⟩) i c, .slice (some ⟨w2.heap.size, 0, none⟩) 1 1, .slice a3 (t.l.length - (i + 1)) (c - (i + 1))] 23)).heap → W.os = w2.os → W.tape = w2.tape → W.output = w2.output →
      Calls Tryd.prog 67 #[.slice (some ⟨w2.heap.size + 1, 0, none⟩) 3 3] W fun e w' => ∃ g cap, e = .returned (.slice (some ⟨g, 0, none⟩) t.l.length cap) ∧ w'.ownsRow w2.heap.size 25 5 (.slice (some ⟨g, 0, none⟩) t.l.length cap) t.l.length (cs1 ++ [.int .i64 x.kind, .int .i64 x.n, .string ⟨x.s.toArray⟩, .slice a7 x.keys.length c7, .slice a8 x.l.length c8] ++ cs2) ∧ Below w2.heap.size w2 w') := by
    intro W e1 e2 e3 e4
    have hbW : Below w2.heap.size w2 W := by
      have := bel_trans (bel_alloc w2 (.cells #[.int .i64 x.kind, .int .i64 x.n, .string ⟨x.s.toArray⟩, .slice a7 x.keys.length c7, .slice a8 x.l.length c8] 25)) (bel_alloc _ (.cells #[.slice (some ⟨b, off, none⟩) i c, .slice (some ⟨w2.heap.size, 0, none⟩) 1 1, .slice a3 (t.l.length - (i + 1)) (c - (i + 1))] 23))
      exact ⟨e2, e3, e4, by rw [e1]; exact this.size, fun k hk => by rw [e1]; exact this.block k hk⟩
    have ha := h2a w2 (.cells #[.int .i64 x.kind, .int .i64 x.n, .string ⟨x.s.toArray⟩, .slice a7 x.keys.length c7, .slice a8 x.l.length c8] 25) (.cells #[.slice (some ⟨b, off, none⟩) i c, .slice (some ⟨w2.heap.size, 0, none⟩) 1 1, .slice a3 (t.l.length - (i + 1)) (c - (i + 1))] 23)
    have hb := h2b w2 (.cells #[.int .i64 x.kind, .int .i64 x.n, .string ⟨x.s.toArray⟩, .slice a7 x.keys.length c7, .slice a8 x.l.length c8] 25) (.cells #[.slice (some ⟨b, off, none⟩) i c, .slice (some ⟨w2.heap.size, 0, none⟩) 1 1, .slice a3 (t.l.length - (i + 1)) (c - (i + 1))] 23)
    rw [← e1] at ha hb
    have hbw : Below w.heap.size w W := bel_trans B2.out hbW
    refine (concatV3 W (w2.heap.size + 1) ⟨_, i, cs1⟩ ⟨_, 1, _⟩ ⟨_, t.l.length - (i + 1), cs2⟩ (by simp [World.cell?, hb]) (by simp [World.cell?, hb]) (by simp [World.cell?, hb]) (PP.out.2.1.bel hbw) (slbox ha (one5 _ _ _ _ _ _ _ _ _)) (PP.out.2.2.2.bel hbw) (by simp only; omega)).mono ?_
    rintro e w' ⟨v, rfl, ho, hb9⟩
    have en : i + 1 + (t.l.length - (i + 1)) = t.l.length := by omega
    simp only at ho
    rw [en] at ho
    have ho' : w'.ownsRow w2.heap.size 25 5 v t.l.length (cs1 ++ [.int .i64 x.kind, .int .i64 x.n, .string ⟨x.s.toArray⟩, .slice a7 x.keys.length c7, .slice a8 x.l.length c8] ++ cs2) := own_base ho hbW.size
    rcases ho'.2 with ⟨_, h0⟩ | ⟨g, cap, cur, e, rest⟩
    · omega
    · subst e
      exact ⟨g, cap, rfl, ho', bel_trans hbW hb9⟩
  have k4 : ∀ o, (w2.alloc o).cell? ⟨w.heap.size, 4, none⟩ = some (.slice (some ⟨b, off, none⟩) t.l.length c) := fun o => (hS.out _ (bel_alloc w2 o)).1.c.2.2.2.2.1
  have m0 : ∀ o, (w2.alloc o).cell? ⟨w.heap.size + 1, 0, none⟩ = some (.int .i64 x.kind) := fun o => (hS.out _ (bel_alloc w2 o)).2.1.c.1
  have m1 : ∀ o, (w2.alloc o).cell? ⟨w.heap.size + 1, 1, none⟩ = some (.int .i64 x.n) := fun o => (hS.out _ (bel_alloc w2 o)).2.1.c.2.1
  have m2 : ∀ o, (w2.alloc o).cell? ⟨w.heap.size + 1, 2, none⟩ = some (.string ⟨x.s.toArray⟩) := fun o => (hS.out _ (bel_alloc w2 o)).2.1.c.2.2.1
  have m3 : ∀ o, (w2.alloc o).cell? ⟨w.heap.size + 1, 3, none⟩ = some (.slice a7 x.keys.length c7) := fun o => (hS.out _ (bel_alloc w2 o)).2.1.c.2.2.2.1
  have m4 : ∀ o, (w2.alloc o).cell? ⟨w.heap.size + 1, 4, none⟩ = some (.slice a8 x.l.length c8) := fun o => (hS.out _ (bel_alloc w2 o)).2.1.c.2.2.2.2.1
  have fin : Hid (∀ w3 g cap, w3.ownsRow w2.heap.size 25 5 (.slice (some ⟨g, 0, none⟩) t.l.length cap) t.l.length (cs1 ++ [.int .i64 x.kind, .int .i64 x.n, .string ⟨x.s.toArray⟩, .slice a7 x.keys.length c7, .slice a8 x.l.length c8] ++ cs2) → Below w2.heap.size w2 w3 →
      VIs (set5 (w3.setCell ⟨w.heap.size, 4, none⟩ (.slice (some ⟨g, 0, none⟩) t.l.length cap)) (w.heap.size + 2) (.int .i64 t.kind) (.int .i64 t.n) (.string ⟨t.s.toArray⟩) (.slice a1 t.keys.length c1) (.slice (some ⟨g, 0, none⟩) t.l.length cap)) (okN ok w.heap.size) (d + 1) { t with l := t.l.take i ++ x :: t.l.drop (i + 1) } (.agg #[.int .i64 t.kind, .int .i64 t.n, .string ⟨t.s.toArray⟩, .slice a1 t.keys.length c1, .slice (some ⟨g, 0, none⟩) t.l.length cap]) ∧
      Below w.heap.size w (set5 (w3.setCell ⟨w.heap.size, 4, none⟩ (.slice (some ⟨g, 0, none⟩) t.l.length cap)) (w.heap.size + 2) (.int .i64 t.kind) (.int .i64 t.n) (.string ⟨t.s.toArray⟩) (.slice a1 t.keys.length c1) (.slice (some ⟨g, 0, none⟩) t.l.length cap)) ∧
      BoxIs (set5 (w3.setCell ⟨w.heap.size, 4, none⟩ (.slice (some ⟨g, 0, none⟩) t.l.length cap)) (w.heap.size + 2) (.int .i64 t.kind) (.int .i64 t.n) (.string ⟨t.s.toArray⟩) (.slice a1 t.keys.length c1) (.slice (some ⟨g, 0, none⟩) t.l.length cap)) (w.heap.size + 2) (.int .i64 t.kind) (.int .i64 t.n) (.string ⟨t.s.toArray⟩) (.slice a1 t.keys.length c1) (.slice (some ⟨g, 0, none⟩) t.l.length cap)) := by
    intro w3 g cap ho hb
    have g1 : w3.grownBy (w3.setCell ⟨w.heap.size, 4, none⟩ (.slice (some ⟨g, 0, none⟩) t.l.length cap)) (some w.heap.size) := gb_set (gb_refl _ _) _ _
    have g2 := set5_gb (w3.setCell ⟨w.heap.size, 4, none⟩ (.slice (some ⟨g, 0, none⟩) t.l.length cap)) (w.heap.size + 2) (.int .i64 t.kind) (.int .i64 t.n) (.string ⟨t.s.toArray⟩) (.slice a1 t.keys.length c1) (.slice (some ⟨g, 0, none⟩) t.l.length cap)
    have hbx := ((hS.out _ hb).2.2.grown g1 (by simp)).set (.int .i64 t.kind) (.int .i64 t.n) (.string ⟨t.s.toArray⟩) (.slice a1 t.keys.length c1) (.slice (some ⟨g, 0, none⟩) t.l.length cap)
    have hbw : Below w.heap.size w w3 := bel_trans B2.out hb
    have hb9 : Below w.heap.size w (set5 (w3.setCell ⟨w.heap.size, 4, none⟩ (.slice (some ⟨g, 0, none⟩) t.l.length cap)) (w.heap.size + 2) (.int .i64 t.kind) (.int .i64 t.n) (.string ⟨t.s.toArray⟩) (.slice a1 t.keys.length c1) (.slice (some ⟨g, 0, none⟩) t.l.length cap)) :=
      gb_none (gb_set5 (gb_setA (gb_below hbw) (Nat.le_refl _) _ _) (by omega) _ _ _ _ _)
    refine ⟨⟨_, _, rfl, KK.out.1, KK.out.2.1, KK.out.2.2.1, ?_, ?_⟩, hb9, hbx⟩
    · exact (KK.out.2.2.2.bel hb9).imp fun a x h1 h2 => ⟨.inl h1, h2⟩
    · have ho9 := own_kept' (own_kept' ho g1 (by omega)) g2 (by omega)
      have hlen : t.l.length = (t.l.take i ++ x :: t.l.drop (i + 1)).length := by simp; omega
      refine own_vals hlen ho9 ?_ (fun k hk => .inr (by omega)) (by rw [← hlen]; unfold maxLen; omega)
      have rx : RowV (VIs _ (okN ok w.heap.size) d) [x] [.int .i64 x.kind, .int .i64 x.n, .string ⟨x.s.toArray⟩, .slice a7 x.keys.length c7, .slice a8 x.l.length c8] := ⟨_, _, _, _, _, [], rfl, (HX.out.bel hb9).toN, rfl⟩
      have := ((PP.out.2.2.1.bel (B := w.heap.size) hb9).append rx).append (PP.out.1.bel (B := w.heap.size) hb9)
      rw [List.append_assoc]
      exact this
  go_region_with ((go_at_call 67; refine (hcon.out _ (by rfl) (by rfl) (by rfl) (by rfl)).mono ?_; rintro e w3 ⟨g, cap, rfl, ho3, hb3⟩; obtain ⟨p0, p1, p2, p3, p4, -, -, -, p9, p10⟩ := (hS.out _ hb3).1.c; obtain ⟨x0, x1, x2, x3, x4, y0, y1, y2, y3, y4⟩ := (hS.out _ hb3).2.2.c; have O3 := hidI ho3; have HB3 := hidI hb3; clear ho3 hb3))
  all_goals
    go_wp2_with fail
    obtain ⟨f1, f2, f3⟩ := fin.out _ g cap O3.out HB3.out
    obtain ⟨z0, z1, z2, z3, z4, -⟩ := f3.c
    refine bodyPost_ret (v := .agg #[.int .i64 t.kind, .int .i64 t.n, .string ⟨t.s.toArray⟩, .slice a1 t.keys.length c1, .slice (some ⟨g, 0, none⟩) t.l.length cap]) ?_ rfl ?_
    · simp only [set5] at z0 z1 z2 z3 z4
      simp [results, Tryd.results53, go_sem, z0, z1, z2, z3, z4]
    · exact ⟨_, rfl, f1, f2⟩
end Go.Proofs.YtkboplcffailoaaDoor
