/- The walk of the law StageReads. -/
import Derived.Test.YtaaaogiheplbmaaIf
import Derived.Test.YtaaaogiheplbmaaIa
import Derived.Test.YtaaaogiheplbmaaHh
import Derived.Test.YtaaaogiheplbmaaFz
import Derived.Test.YtaaaogiheplbmaaRu
import Derived.Deep.DeepCutAuto
set_option linter.unusedSimpArgs false
set_option linter.unusedVariables false
namespace Go.Proofs.Ytaaaogiheplbmaa
open Go.RowKit

theorem staEq_refl (u : Sta) : staEq u u = true := staEq_iff.2 rfl
/- The arguments' blocks. -/
def SA (w : World) (t : V) (a1 b1 : Option Addr) (c1 d1 : Nat) (g : List UInt8) (sl : Value) (s : Sta) (x : Stp) (wS : World) : Prop :=
  BoxIs wS w.heap.size (.int .i64 t.kind) (.int .i64 t.n) (.string ⟨t.s.toArray⟩) (.slice a1 t.keys.length c1) (.slice b1 t.l.length d1) ∧ PBox wS (w.heap.size + 1) g sl ∧ SBox wS (w.heap.size + 1 + 1) s ∧ TBox wS (w.heap.size + 1 + 1 + 1) x ∧ Below w.heap.size w wS
theorem SA.bel {w wS w' : World} {t : V} {a1 b1 : Option Addr} {c1 d1 : Nat} {g : List UInt8} {sl : Value} {s : Sta} {x : Stp} (h : SA w t a1 b1 c1 d1 g sl s x wS) (hb : Below wS.heap.size wS w') : SA w t a1 b1 c1 d1 g sl s x w' :=
  ⟨box_bel hb h.1, h.2.1.bel hb, h.2.2.1.bel hb, h.2.2.2.1.bel hb, bel_trans h.2.2.2.2 hb⟩
theorem SA.start (w : World) (t : V) (a1 b1 : Option Addr) (c1 d1 : Nat) (g : List UInt8) (sl : Value) (s : Sta) (x : Stp) : SA w t a1 b1 c1 d1 g sl s x ((((w.alloc (.cells #[.int .i64 t.kind, .int .i64 t.n, .string ⟨t.s.toArray⟩, .slice a1 t.keys.length c1, .slice b1 t.l.length d1] 25)).alloc (.cells #[.string ⟨g.toArray⟩, sl] 28)).alloc (.cells #[.string ⟨s.a.toArray⟩, .string ⟨s.c.toArray⟩, .int .i64 s.ph, .int .i64 s.st, .int .i64 s.we, .int .i64 s.si] 30)).alloc (.cells #[.int .i64 x.w, .int .i64 x.p] 32)) := by
  have e1 : (w.alloc (.cells #[.int .i64 t.kind, .int .i64 t.n, .string ⟨t.s.toArray⟩, .slice a1 t.keys.length c1, .slice b1 t.l.length d1] 25)).heap.size = w.heap.size + 1 := by simp
  have e2 : ((w.alloc (.cells #[.int .i64 t.kind, .int .i64 t.n, .string ⟨t.s.toArray⟩, .slice a1 t.keys.length c1, .slice b1 t.l.length d1] 25)).alloc (.cells #[.string ⟨g.toArray⟩, sl] 28)).heap.size = w.heap.size + 1 + 1 := by simp
  have e3 : (((w.alloc (.cells #[.int .i64 t.kind, .int .i64 t.n, .string ⟨t.s.toArray⟩, .slice a1 t.keys.length c1, .slice b1 t.l.length d1] 25)).alloc (.cells #[.string ⟨g.toArray⟩, sl] 28)).alloc (.cells #[.string ⟨s.a.toArray⟩, .string ⟨s.c.toArray⟩, .int .i64 s.ph, .int .i64 s.st, .int .i64 s.we, .int .i64 s.si] 30)).heap.size = (w.heap.size + 1 + 1 + 1) := by simp
  refine ⟨box_bel (bel_trans (bel_trans (bel_alloc _ _) (bel_alloc _ _)) (bel_alloc _ _)) (heap_alloc_new w _), ?_, ?_, ?_, bel_trans (bel_trans (bel_trans (bel_alloc _ _) (bel_alloc _ _)) (bel_alloc _ _)) (bel_alloc _ _)⟩
  · have h : PBox ((w.alloc (.cells #[.int .i64 t.kind, .int .i64 t.n, .string ⟨t.s.toArray⟩, .slice a1 t.keys.length c1, .slice b1 t.l.length d1] 25)).alloc (.cells #[.string ⟨g.toArray⟩, sl] 28)) (w.alloc (.cells #[.int .i64 t.kind, .int .i64 t.n, .string ⟨t.s.toArray⟩, .slice a1 t.keys.length c1, .slice b1 t.l.length d1] 25)).heap.size g sl := heap_alloc_new _ _
    rw [e1] at h
    exact h.bel (bel_trans (bel_alloc _ _) (bel_alloc _ _))
  · have h : SBox (((w.alloc (.cells #[.int .i64 t.kind, .int .i64 t.n, .string ⟨t.s.toArray⟩, .slice a1 t.keys.length c1, .slice b1 t.l.length d1] 25)).alloc (.cells #[.string ⟨g.toArray⟩, sl] 28)).alloc (.cells #[.string ⟨s.a.toArray⟩, .string ⟨s.c.toArray⟩, .int .i64 s.ph, .int .i64 s.st, .int .i64 s.we, .int .i64 s.si] 30)) ((w.alloc (.cells #[.int .i64 t.kind, .int .i64 t.n, .string ⟨t.s.toArray⟩, .slice a1 t.keys.length c1, .slice b1 t.l.length d1] 25)).alloc (.cells #[.string ⟨g.toArray⟩, sl] 28)).heap.size s := heap_alloc_new _ _
    rw [e2] at h
    exact h.bel (bel_alloc _ _)
  · have h : TBox ((((w.alloc (.cells #[.int .i64 t.kind, .int .i64 t.n, .string ⟨t.s.toArray⟩, .slice a1 t.keys.length c1, .slice b1 t.l.length d1] 25)).alloc (.cells #[.string ⟨g.toArray⟩, sl] 28)).alloc (.cells #[.string ⟨s.a.toArray⟩, .string ⟨s.c.toArray⟩, .int .i64 s.ph, .int .i64 s.st, .int .i64 s.we, .int .i64 s.si] 30)).alloc (.cells #[.int .i64 x.w, .int .i64 x.p] 32)) (((w.alloc (.cells #[.int .i64 t.kind, .int .i64 t.n, .string ⟨t.s.toArray⟩, .slice a1 t.keys.length c1, .slice b1 t.l.length d1] 25)).alloc (.cells #[.string ⟨g.toArray⟩, sl] 28)).alloc (.cells #[.string ⟨s.a.toArray⟩, .string ⟨s.c.toArray⟩, .int .i64 s.ph, .int .i64 s.st, .int .i64 s.we, .int .i64 s.si] 30)).heap.size x := heap_alloc_new _ _
    rw [e3] at h
    exact h
def SR (w : World) (t : V) (a1 b1 : Option Addr) (c1 d1 : Nat) (g : List UInt8) (l : List Stp) (sl : Value) (s : Sta) (x : Stp) (G : List UInt8) (L : List Stp) (s1 s2 : Value) (u : Sta) (p9 p11 p13 p15 : Nat) (wS : World) : Prop :=
  SA w t a1 b1 c1 d1 g sl s x wS ∧ PBox wS p9 G s1 ∧ PBox wS p11 G s2 ∧ SBox wS p13 u ∧ SBox wS p15 u ∧ StpsAre wS l sl ∧ StpsAre wS L s1 ∧ StpsAre wS L s2
theorem SR.bel {w wS w' : World} {t : V} {a1 b1 : Option Addr} {c1 d1 : Nat} {g : List UInt8} {l : List Stp} {sl : Value} {s : Sta} {x : Stp} {G : List UInt8} {L : List Stp} {s1 s2 : Value} {u : Sta} {p9 p11 p13 p15 : Nat} (h : SR w t a1 b1 c1 d1 g l sl s x G L s1 s2 u p9 p11 p13 p15 wS) (hb : Below wS.heap.size wS w') : SR w t a1 b1 c1 d1 g l sl s x G L s1 s2 u p9 p11 p13 p15 w' :=
  ⟨h.1.bel hb, h.2.1.bel hb, h.2.2.1.bel hb, h.2.2.2.1.bel hb, h.2.2.2.2.1.bel hb, h.2.2.2.2.2.1.bel hb, h.2.2.2.2.2.2.1.bel hb, h.2.2.2.2.2.2.2.bel hb⟩
theorem first_b {W : World} {g : List UInt8} {l : List Stp} {v : Value} (h : StpsAre W l v) (hg : g.length ≤ 9223372036854775807) (u : Sta) (n : Int) (e : firstF g l = (u, n)) : Calls Try.prog 7 #[.agg #[.string ⟨g.toArray⟩, v]] W fun e w' => e = .returned (.tuple #[.agg #[.string ⟨u.a.toArray⟩, .string ⟨u.c.toArray⟩, .int .i64 u.ph, .int .i64 u.st, .int .i64 u.we, .int .i64 u.si], .int .i64 n]) ∧ Below W.heap.size W w' := by
  have k := first_at W g l v h hg
  rw [e] at k
  exact k
theorem rfirst_b {W : World} {g : List UInt8} {l : List Stp} {v : Value} (h : StpsAre W l v) (hg : g.length ≤ 9223372036854775807) (u : Sta) (n : Int) (e : firstF g l = (u, n)) : Calls Try.prog 8 #[.agg #[.string ⟨g.toArray⟩, v]] W fun e w' => e = .returned (.tuple #[.agg #[.string ⟨u.a.toArray⟩, .string ⟨u.c.toArray⟩, .int .i64 u.ph, .int .i64 u.st, .int .i64 u.we, .int .i64 u.si], .int .i64 n]) ∧ Below W.heap.size W w' := by
  have k := rfirst_at W g l v h hg
  rw [e] at k
  exact k
theorem read_b {W : World} {ok : Nat → Prop} {t : V} {v : Value} (h : In W ok t v) (G : List UInt8) (L : List Stp) (n : Int) (e1 : readG t = (G, L)) (e2 : readE t = n) : Calls Try.prog 4 #[v] W fun e w' => ∃ a2 c2, e = .returned (.tuple #[.agg #[.string ⟨G.toArray⟩, .slice a2 L.length c2], .int .i64 n]) ∧ StpsAre w' L (.slice a2 L.length c2) ∧ Below W.heap.size W w' := by
  refine (read_at W ok t v h).mono ?_
  rintro e w' ⟨sl, rfl, h1, h2⟩
  rw [e1, e2] at *
  obtain ⟨a2, c2, rfl⟩ := h1.form
  exact ⟨a2, c2, rfl, h1, h2⟩
theorem rread_b {W : World} {ok : Nat → Prop} {t : V} {v : Value} (h : In W ok t v) (hN : cnt t ≤ 1000000000000000) (G : List UInt8) (L : List Stp) (n : Int) (e1 : readG t = (G, L)) (e2 : readE t = n) : Calls Try.prog 6 #[v] W fun e w' => ∃ a2 c2, e = .returned (.tuple #[.agg #[.string ⟨G.toArray⟩, .slice a2 L.length c2], .int .i64 n]) ∧ StpsAre w' L (.slice a2 L.length c2) ∧ Below W.heap.size W w' := by
  refine (rread_at W ok t v h hN).mono ?_
  rintro e w' ⟨sl, rfl, h1, h2⟩
  rw [e1, e2] at *
  obtain ⟨a2, c2, rfl⟩ := h1.form
  exact ⟨a2, c2, rfl, h1, h2⟩

attribute [local go_sem ↓] Go.wp_at_zero Go.wp_at_succ eq_sta staEq_refl
set_option maxRecDepth 100000 in
set_option maxHeartbeats 8000000 in
theorem reads_walk (w : World) (ok : Nat → Prop) (t : V) (v : Value) (ht : In w ok t v) (hN : siz t ≤ 2000000) (g : List UInt8) (l : List Stp) (v2 : Value) (h : StpsAre w l v2) (hg : g.length ≤ 9223372036854775807) (s : Sta) (x : Stp) :
    Calls Try.prog 3 #[v, .agg #[.string ⟨g.toArray⟩, v2], staV s, stpV x] w fun e w' => e = .returned (.bool true) ∧ Below w.heap.size w w' := by
  have E1 : staV s = .agg #[.string ⟨s.a.toArray⟩, .string ⟨s.c.toArray⟩, .int .i64 s.ph, .int .i64 s.st, .int .i64 s.we, .int .i64 s.si] := rfl
  have E2 : stpV x = .agg #[.int .i64 x.w, .int .i64 x.p] := rfl
  rw [E1, E2]
  clear E1 E2
  obtain ⟨a, c, rfl⟩ := h.form
  obtain ⟨a1, b1, c1, d1, rfl⟩ := ht.form
  have T := hidI ht
  have H := hidI h
  have G0 := hidI hg
  have N1 := hidI (show siz t ≤ 1000000000000 by omega)
  have N2 := hidI (show cnt t ≤ 1000000000000000 by have := cnt_siz t; omega)
  have K0 := hidI (SA.start w t a1 b1 c1 d1 g (.slice a l.length c) s x)
  obtain ⟨r, hr⟩ : ∃ r, firstF g l = r := ⟨_, rfl⟩
  obtain ⟨u, n⟩ := r
  have HR := hidI hr
  obtain ⟨r, hr2⟩ : ∃ r, readG t = r := ⟨_, rfl⟩
  obtain ⟨G, L⟩ := r
  have HG := hidI hr2
  obtain ⟨E, hr3⟩ : ∃ r, readE t = r := ⟨_, rfl⟩
  have HE := hidI hr3
  clear h hg hr ht hN hr2 hr3
  go_enter Try.func3, Try.ntmps3
  go_upto_region 2 with (first
    | (go_at_call 4; refine (read_b (by exact IC.out) G L E HG.out HE.out).mono ?_; rintro e w2 ⟨a2, c2, rfl, hs, hb⟩; have hbb := bel_trans hb (bel_alloc w2 (.cells #[.string ⟨G.toArray⟩, .slice a2 L.length c2] 28)); have K2 := hidI (K1.out.bel hbb); have S2 := hidI (hs.bel (bel_alloc w2 (.cells #[.string ⟨G.toArray⟩, .slice a2 L.length c2] 28))); have P2 := hidI (show PBox (w2.alloc (.cells #[.string ⟨G.toArray⟩, .slice a2 L.length c2] 28)) w2.heap.size G (.slice a2 L.length c2) from heap_alloc_new w2 _); obtain ⟨t0, t1, t2, t3, t4, -⟩ := K2.out.1.c; obtain ⟨g0, g1⟩ := K2.out.2.1.c; clear hb hs hbb)
    | (go_at_call 5; refine (rcopy_is _ ok t _ (by exact T.out.bel K0.out.2.2.2.2) N1.out).mono ?_; rintro e w1 ⟨cv, rfl, hb, hc⟩; have K1 := hidI (K0.out.bel hb); have IC := hidI hc; obtain ⟨a4, b4, c4, d4, rfl⟩ := hc.form; clear hb hc))
  go_upto_region 3 with (go_at_call 6; refine (rread_b (ok := ok) (by exact T.out.bel K2.out.2.2.2.2) N2.out G L E HG.out HE.out).mono ?_; rintro e w3 ⟨a3, c3, rfl, hs, hb⟩; have hbb := bel_trans hb (bel_alloc w3 (.cells #[.string ⟨G.toArray⟩, .slice a3 L.length c3] 28)); have K3 := hidI (K2.out.bel hbb); have S3 := hidI (S2.out.bel hbb); have P3 := hidI (P2.out.bel hbb); have S4 := hidI (hs.bel (bel_alloc w3 (.cells #[.string ⟨G.toArray⟩, .slice a3 L.length c3] 28))); have P4 := hidI (show PBox (w3.alloc (.cells #[.string ⟨G.toArray⟩, .slice a3 L.length c3] 28)) w3.heap.size G (.slice a3 L.length c3) from heap_alloc_new w3 _); clear t0 t1 t2 t3 t4 g0 g1; obtain ⟨t0, t1, t2, t3, t4, -⟩ := K3.out.1.c; obtain ⟨g0, g1⟩ := K3.out.2.1.c; clear hb hs hbb)
  go_upto_region 4 with (go_at_call 7; refine (first_b (by exact H.out.bel K3.out.2.2.2.2) G0.out u n HR.out).mono ?_; rintro e w4 ⟨rfl, hb⟩; have hbb := bel_trans hb (bel_alloc w4 (.cells #[.string ⟨u.a.toArray⟩, .string ⟨u.c.toArray⟩, .int .i64 u.ph, .int .i64 u.st, .int .i64 u.we, .int .i64 u.si] 30)); have K4 := hidI (K3.out.bel hbb); have S5 := hidI (S3.out.bel hbb); have P5 := hidI (P3.out.bel hbb); have S6 := hidI (S4.out.bel hbb); have P6 := hidI (P4.out.bel hbb); have U4 := hidI (show SBox (w4.alloc (.cells #[.string ⟨u.a.toArray⟩, .string ⟨u.c.toArray⟩, .int .i64 u.ph, .int .i64 u.st, .int .i64 u.we, .int .i64 u.si] 30)) w4.heap.size u from heap_alloc_new w4 _); clear t0 t1 t2 t3 t4 g0 g1; obtain ⟨t0, t1, t2, t3, t4, -⟩ := K4.out.1.c; obtain ⟨g0, g1⟩ := K4.out.2.1.c; clear hb hbb)
  go_upto_region 5 with (go_at_call 8; refine (rfirst_b (by exact H.out.bel K4.out.2.2.2.2) G0.out u n HR.out).mono ?_; rintro e w5 ⟨rfl, hb⟩; have hbb := bel_trans hb (bel_alloc w5 (.cells #[.string ⟨u.a.toArray⟩, .string ⟨u.c.toArray⟩, .int .i64 u.ph, .int .i64 u.st, .int .i64 u.we, .int .i64 u.si] 30)); have K5 := hidI (K4.out.bel hbb); have S7 := hidI (S5.out.bel hbb); have P7 := hidI (P5.out.bel hbb); have S8 := hidI (S6.out.bel hbb); have P8 := hidI (P6.out.bel hbb); have U5 := hidI (U4.out.bel hbb); have U6 := hidI (show SBox (w5.alloc (.cells #[.string ⟨u.a.toArray⟩, .string ⟨u.c.toArray⟩, .int .i64 u.ph, .int .i64 u.st, .int .i64 u.we, .int .i64 u.si] 30)) w5.heap.size u from heap_alloc_new w5 _); clear t0 t1 t2 t3 t4 g0 g1; clear hb hbb)
  obtain ⟨W, hW⟩ : ∃ W, w5.alloc (.cells #[.string ⟨u.a.toArray⟩, .string ⟨u.c.toArray⟩, .int .i64 u.ph, .int .i64 u.st, .int .i64 u.we, .int .i64 u.si] 30) = W := ⟨_, rfl⟩
  have Z0 : Hid (SR w t a1 b1 c1 d1 g l (.slice a l.length c) s x G L (.slice a2 L.length c2) (.slice a3 L.length c3) u w2.heap.size w3.heap.size w4.heap.size w5.heap.size W) := hidI (by rw [← hW]; exact ⟨K5.out, P7.out, P8.out, U5.out, U6.out, H.out.bel K5.out.2.2.2.2, S7.out, S8.out⟩)
  rw [hW]
  clear hW K0 K1 K2 K3 K4 K5 S2 S3 S4 S5 S6 S7 S8 P2 P3 P4 P5 P6 P7 P8 U4 U5 U6 IC H T
  refine wp_region_T (fun wS => SR w t a1 b1 c1 d1 g l (.slice a l.length c) s x G L (.slice a2 L.length c2) (.slice a3 L.length c3) u w2.heap.size w3.heap.size w4.heap.size w5.heap.size wS) [] (by kernel_rfl) (Z0.out.bel (bel_drewN _ 1)) (fun hHeld => ?_)
  refine wpAnyT_take (i := 0) (v := ?_) [] (oi := { dst := some 38, op := Go.Op.load 28 (Go.Operand.tmp 9), type := 28, pos := "law.go:198", after := #[], guard := none }) rfl (by kernel_rfl) (by kernel_rfl) (by kernel_rfl) (by kernel_rfl) (fun _ _ _ h => h) (Or.inl ⟨by rfl, ?_⟩) hHeld ?_
  rotate_left
  · intro wS hSw
    obtain ⟨y0, y1⟩ := hSw.1.2.1.c
    obtain ⟨y2, y3, y4, y5, y6, y7, -⟩ := hSw.1.2.2.1.c
    obtain ⟨y8, y9, -⟩ := hSw.1.2.2.2.1.c
    obtain ⟨z0, z1⟩ := hSw.2.1.c
    obtain ⟨z2, z3⟩ := hSw.2.2.1.c
    obtain ⟨x0, x1, x2, x3, x4, x5, -⟩ := hSw.2.2.2.1.c
    obtain ⟨q0, q1, q2, q3, q4, q5, -⟩ := hSw.2.2.2.2.1.c
    go_simp
    all_goals with_reducible rfl
  simp only [Act.put, List.setIfInBounds_toArray, List.set_cons_zero, List.set_cons_succ]
  refine wpAnyT_take (i := 1) (v := ?_) [] (oi := { dst := some 39, op := Go.Op.load 28 (Go.Operand.tmp 11), type := 28, pos := "law.go:198", after := #[], guard := none }) rfl (by kernel_rfl) (by kernel_rfl) (by kernel_rfl) (by kernel_rfl) (fun _ _ _ h => h) (Or.inl ⟨by rfl, ?_⟩) hHeld ?_
  rotate_left
  · intro wS hSw
    obtain ⟨y0, y1⟩ := hSw.1.2.1.c
    obtain ⟨y2, y3, y4, y5, y6, y7, -⟩ := hSw.1.2.2.1.c
    obtain ⟨y8, y9, -⟩ := hSw.1.2.2.2.1.c
    obtain ⟨z0, z1⟩ := hSw.2.1.c
    obtain ⟨z2, z3⟩ := hSw.2.2.1.c
    obtain ⟨x0, x1, x2, x3, x4, x5, -⟩ := hSw.2.2.2.1.c
    obtain ⟨q0, q1, q2, q3, q4, q5, -⟩ := hSw.2.2.2.2.1.c
    go_simp
    all_goals with_reducible rfl
  simp only [Act.put, List.setIfInBounds_toArray, List.set_cons_zero, List.set_cons_succ]
  refine wpAnyT_ready (rs := [2]) (by kernel_rfl) (by simp) ?_
  refine AllReadyT.cons (i := 2) (o := { dst := some 40, op := Go.Op.call { callee := Go.Callee.value (Go.Operand.func 9), args := #[Go.Operand.tmp 38, Go.Operand.tmp 39], argTypes := #[28, 28] }, type := 4, pos := "law.go:198", after := #[{ on := 0, ground := Go.Ground.data }, { on := 1, ground := Go.Ground.data }], guard := none }) rfl (fun K hK => ?_) ?_
  · go_simp
    refine (rsameSpec_at _ G L _ _ (by exact hHeld.2.2.2.2.2.2.1) (by exact hHeld.2.2.2.2.2.2.2)).mono ?_
    rintro e w2q ⟨rfl, hb⟩
    refine hK.out _ _ (hHeld.bel hb) (fun hHeld2 => ?_)
    clear hb
    clear hK K
    replace hHeld := hHeld2
    clear hHeld2
    try simp only [Act.put, List.setIfInBounds_toArray, List.set_cons_zero, List.set_cons_succ]
    refine wpAnyT_take (i := 3) (v := ?_) [] (oi := { dst := some 41, op := Go.Op.move (Go.Operand.tmp 40), type := 4, pos := "law.go:198", after := #[{ on := 2, ground := Go.Ground.data }, { on := 2, ground := Go.Ground.chain }], guard := none }) rfl (by kernel_rfl) (by kernel_rfl) (by kernel_rfl) (by kernel_rfl) (fun _ _ _ h => h) (Or.inl ⟨by rfl, ?_⟩) hHeld ?_
    rotate_left
    · intro wS hSw
      go_simp
      all_goals with_reducible rfl
    simp only [Act.put, List.setIfInBounds_toArray, List.set_cons_zero, List.set_cons_succ]
    refine wpAnyT_take (i := 4) (v := ?_) [] (oi := { dst := some 42, op := Go.Op.move (Go.Operand.tmp 10), type := 33, pos := "law.go:198", after := #[{ on := 3, ground := Go.Ground.guard }], guard := some (3, true) }) rfl (by kernel_rfl) (by kernel_rfl) (by kernel_rfl) (by kernel_rfl) (fun _ _ _ h => h) (Or.inl ⟨by rfl, ?_⟩) hHeld ?_
    rotate_left
    · intro wS hSw
      go_simp
      all_goals with_reducible rfl
    simp only [Act.put, List.setIfInBounds_toArray, List.set_cons_zero, List.set_cons_succ]
    refine wpAnyT_take (i := 5) (v := ?_) [] (oi := { dst := some 43, op := Go.Op.move (Go.Operand.tmp 12), type := 33, pos := "law.go:198", after := #[{ on := 3, ground := Go.Ground.guard }], guard := some (3, true) }) rfl (by kernel_rfl) (by kernel_rfl) (by kernel_rfl) (by kernel_rfl) (fun _ _ _ h => h) (Or.inl ⟨by rfl, ?_⟩) hHeld ?_
    rotate_left
    · intro wS hSw
      go_simp
      all_goals with_reducible rfl
    simp only [Act.put, List.setIfInBounds_toArray, List.set_cons_zero, List.set_cons_succ]
    refine wpAnyT_take (i := 6) (v := ?_) [] (oi := { dst := some 44, op := Go.Op.binOp Go.BinOp.eql 33 (Go.Operand.tmp 42) (Go.Operand.tmp 43) 33, type := 4, pos := "law.go:198", after := #[{ on := 4, ground := Go.Ground.data }, { on := 5, ground := Go.Ground.data }, { on := 3, ground := Go.Ground.guard }], guard := some (3, true) }) rfl (by kernel_rfl) (by kernel_rfl) (by kernel_rfl) (by kernel_rfl) (fun _ _ _ h => h) (Or.inl ⟨by rfl, ?_⟩) hHeld ?_
    rotate_left
    · intro wS hSw
      go_simp
      all_goals with_reducible rfl
    simp only [Act.put, List.setIfInBounds_toArray, List.set_cons_zero, List.set_cons_succ]
    refine wpAnyT_take (i := 7) (v := ?_) [] (oi := { dst := some 45, op := Go.Op.pick (Go.Operand.tmp 41) (Go.Operand.tmp 44) (Go.Operand.const (Go.Value.bool false)), type := 4, pos := "law.go:198", after := #[{ on := 3, ground := Go.Ground.data }, { on := 6, ground := Go.Ground.data }], guard := none }) rfl (by kernel_rfl) (by kernel_rfl) (by kernel_rfl) (by kernel_rfl) (fun _ _ _ h => h) (Or.inl ⟨by rfl, ?_⟩) hHeld ?_
    rotate_left
    · intro wS hSw
      go_simp
      all_goals with_reducible rfl
    simp only [Act.put, List.setIfInBounds_toArray, List.set_cons_zero, List.set_cons_succ]
    refine wpAnyT_take (i := 8) (v := ?_) [] (oi := { dst := some 46, op := Go.Op.move (Go.Operand.tmp 45), type := 4, pos := "law.go:198", after := #[{ on := 7, ground := Go.Ground.data }, { on := 3, ground := Go.Ground.chain }], guard := none }) rfl (by kernel_rfl) (by kernel_rfl) (by kernel_rfl) (by kernel_rfl) (fun _ _ _ h => h) (Or.inl ⟨by rfl, ?_⟩) hHeld ?_
    rotate_left
    · intro wS hSw
      go_simp
      all_goals with_reducible rfl
    simp only [Act.put, List.setIfInBounds_toArray, List.set_cons_zero, List.set_cons_succ]
    refine wpAnyT_take (i := 9) (v := ?_) [] (oi := { dst := some 47, op := Go.Op.load 30 (Go.Operand.tmp 13), type := 30, pos := "law.go:198", after := #[{ on := 8, ground := Go.Ground.guard }], guard := some (8, true) }) rfl (by kernel_rfl) (by kernel_rfl) (by kernel_rfl) (by kernel_rfl) (fun _ _ _ h => h) (Or.inl ⟨by rfl, ?_⟩) hHeld ?_
    rotate_left
    · intro wS hSw
      obtain ⟨y0, y1⟩ := hSw.1.2.1.c
      obtain ⟨y2, y3, y4, y5, y6, y7, -⟩ := hSw.1.2.2.1.c
      obtain ⟨y8, y9, -⟩ := hSw.1.2.2.2.1.c
      obtain ⟨z0, z1⟩ := hSw.2.1.c
      obtain ⟨z2, z3⟩ := hSw.2.2.1.c
      obtain ⟨x0, x1, x2, x3, x4, x5, -⟩ := hSw.2.2.2.1.c
      obtain ⟨q0, q1, q2, q3, q4, q5, -⟩ := hSw.2.2.2.2.1.c
      go_simp
      all_goals with_reducible rfl
    simp only [Act.put, List.setIfInBounds_toArray, List.set_cons_zero, List.set_cons_succ]
    refine wpAnyT_take (i := 10) (v := ?_) [] (oi := { dst := some 48, op := Go.Op.load 30 (Go.Operand.tmp 15), type := 30, pos := "law.go:198", after := #[{ on := 8, ground := Go.Ground.guard }], guard := some (8, true) }) rfl (by kernel_rfl) (by kernel_rfl) (by kernel_rfl) (by kernel_rfl) (fun _ _ _ h => h) (Or.inl ⟨by rfl, ?_⟩) hHeld ?_
    rotate_left
    · intro wS hSw
      obtain ⟨y0, y1⟩ := hSw.1.2.1.c
      obtain ⟨y2, y3, y4, y5, y6, y7, -⟩ := hSw.1.2.2.1.c
      obtain ⟨y8, y9, -⟩ := hSw.1.2.2.2.1.c
      obtain ⟨z0, z1⟩ := hSw.2.1.c
      obtain ⟨z2, z3⟩ := hSw.2.2.1.c
      obtain ⟨x0, x1, x2, x3, x4, x5, -⟩ := hSw.2.2.2.1.c
      obtain ⟨q0, q1, q2, q3, q4, q5, -⟩ := hSw.2.2.2.2.1.c
      go_simp
      all_goals with_reducible rfl
    simp only [Act.put, List.setIfInBounds_toArray, List.set_cons_zero, List.set_cons_succ]
    refine wpAnyT_take (i := 11) (v := ?_) [] (oi := { dst := some 49, op := Go.Op.binOp Go.BinOp.eql 30 (Go.Operand.tmp 47) (Go.Operand.tmp 48) 30, type := 4, pos := "law.go:198", after := #[{ on := 9, ground := Go.Ground.data }, { on := 10, ground := Go.Ground.data }, { on := 8, ground := Go.Ground.guard }], guard := some (8, true) }) rfl (by kernel_rfl) (by kernel_rfl) (by kernel_rfl) (by kernel_rfl) (fun _ _ _ h => h) (Or.inl ⟨by rfl, ?_⟩) hHeld ?_
    rotate_left
    · intro wS hSw
      go_simp
      all_goals with_reducible rfl
    simp only [Act.put, List.setIfInBounds_toArray, List.set_cons_zero, List.set_cons_succ]
    refine wpAnyT_take (i := 12) (v := ?_) [] (oi := { dst := some 50, op := Go.Op.pick (Go.Operand.tmp 46) (Go.Operand.tmp 49) (Go.Operand.const (Go.Value.bool false)), type := 4, pos := "law.go:198", after := #[{ on := 8, ground := Go.Ground.data }, { on := 11, ground := Go.Ground.data }], guard := none }) rfl (by kernel_rfl) (by kernel_rfl) (by kernel_rfl) (by kernel_rfl) (fun _ _ _ h => h) (Or.inl ⟨by rfl, ?_⟩) hHeld ?_
    rotate_left
    · intro wS hSw
      go_simp
      all_goals with_reducible rfl
    simp only [Act.put, List.setIfInBounds_toArray, List.set_cons_zero, List.set_cons_succ]
    refine wpAnyT_take (i := 13) (v := ?_) [] (oi := { dst := some 51, op := Go.Op.move (Go.Operand.tmp 50), type := 4, pos := "law.go:198", after := #[{ on := 12, ground := Go.Ground.data }, { on := 8, ground := Go.Ground.chain }], guard := none }) rfl (by kernel_rfl) (by kernel_rfl) (by kernel_rfl) (by kernel_rfl) (fun _ _ _ h => h) (Or.inl ⟨by rfl, ?_⟩) hHeld ?_
    rotate_left
    · intro wS hSw
      go_simp
      all_goals with_reducible rfl
    simp only [Act.put, List.setIfInBounds_toArray, List.set_cons_zero, List.set_cons_succ]
    refine wpAnyT_take (i := 14) (v := ?_) [] (oi := { dst := some 52, op := Go.Op.move (Go.Operand.tmp 14), type := 33, pos := "law.go:198", after := #[{ on := 13, ground := Go.Ground.guard }], guard := some (13, true) }) rfl (by kernel_rfl) (by kernel_rfl) (by kernel_rfl) (by kernel_rfl) (fun _ _ _ h => h) (Or.inl ⟨by rfl, ?_⟩) hHeld ?_
    rotate_left
    · intro wS hSw
      go_simp
      all_goals with_reducible rfl
    simp only [Act.put, List.setIfInBounds_toArray, List.set_cons_zero, List.set_cons_succ]
    refine wpAnyT_take (i := 15) (v := ?_) [] (oi := { dst := some 53, op := Go.Op.move (Go.Operand.tmp 16), type := 33, pos := "law.go:198", after := #[{ on := 13, ground := Go.Ground.guard }], guard := some (13, true) }) rfl (by kernel_rfl) (by kernel_rfl) (by kernel_rfl) (by kernel_rfl) (fun _ _ _ h => h) (Or.inl ⟨by rfl, ?_⟩) hHeld ?_
    rotate_left
    · intro wS hSw
      go_simp
      all_goals with_reducible rfl
    simp only [Act.put, List.setIfInBounds_toArray, List.set_cons_zero, List.set_cons_succ]
    refine wpAnyT_take (i := 16) (v := ?_) [] (oi := { dst := some 54, op := Go.Op.binOp Go.BinOp.eql 33 (Go.Operand.tmp 52) (Go.Operand.tmp 53) 33, type := 4, pos := "law.go:198", after := #[{ on := 14, ground := Go.Ground.data }, { on := 15, ground := Go.Ground.data }, { on := 13, ground := Go.Ground.guard }], guard := some (13, true) }) rfl (by kernel_rfl) (by kernel_rfl) (by kernel_rfl) (by kernel_rfl) (fun _ _ _ h => h) (Or.inl ⟨by rfl, ?_⟩) hHeld ?_
    rotate_left
    · intro wS hSw
      go_simp
      all_goals with_reducible rfl
    simp only [Act.put, List.setIfInBounds_toArray, List.set_cons_zero, List.set_cons_succ]
    refine wpAnyT_take (i := 17) (v := ?_) [] (oi := { dst := some 55, op := Go.Op.pick (Go.Operand.tmp 51) (Go.Operand.tmp 54) (Go.Operand.const (Go.Value.bool false)), type := 4, pos := "law.go:198", after := #[{ on := 13, ground := Go.Ground.data }, { on := 16, ground := Go.Ground.data }], guard := none }) rfl (by kernel_rfl) (by kernel_rfl) (by kernel_rfl) (by kernel_rfl) (fun _ _ _ h => h) (Or.inl ⟨by rfl, ?_⟩) hHeld ?_
    rotate_left
    · intro wS hSw
      go_simp
      all_goals with_reducible rfl
    simp only [Act.put, List.setIfInBounds_toArray, List.set_cons_zero, List.set_cons_succ]
    refine wpAnyT_take (i := 18) (v := ?_) [] (oi := { dst := some 56, op := Go.Op.move (Go.Operand.tmp 55), type := 4, pos := "law.go:198", after := #[{ on := 17, ground := Go.Ground.data }, { on := 13, ground := Go.Ground.chain }], guard := none }) rfl (by kernel_rfl) (by kernel_rfl) (by kernel_rfl) (by kernel_rfl) (fun _ _ _ h => h) (Or.inl ⟨by rfl, ?_⟩) hHeld ?_
    rotate_left
    · intro wS hSw
      go_simp
      all_goals with_reducible rfl
    simp only [Act.put, List.setIfInBounds_toArray, List.set_cons_zero, List.set_cons_succ]
    refine wpAnyT_take (i := 19) (v := ?_) [] (oi := { dst := some 57, op := Go.Op.load 32 (Go.Operand.tmp 7), type := 32, pos := "law.go:198", after := #[{ on := 18, ground := Go.Ground.guard }], guard := some (18, true) }) rfl (by kernel_rfl) (by kernel_rfl) (by kernel_rfl) (by kernel_rfl) (fun _ _ _ h => h) (Or.inl ⟨by rfl, ?_⟩) hHeld ?_
    rotate_left
    · intro wS hSw
      obtain ⟨y0, y1⟩ := hSw.1.2.1.c
      obtain ⟨y2, y3, y4, y5, y6, y7, -⟩ := hSw.1.2.2.1.c
      obtain ⟨y8, y9, -⟩ := hSw.1.2.2.2.1.c
      obtain ⟨z0, z1⟩ := hSw.2.1.c
      obtain ⟨z2, z3⟩ := hSw.2.2.1.c
      obtain ⟨x0, x1, x2, x3, x4, x5, -⟩ := hSw.2.2.2.1.c
      obtain ⟨q0, q1, q2, q3, q4, q5, -⟩ := hSw.2.2.2.2.1.c
      go_simp
      all_goals with_reducible rfl
    simp only [Act.put, List.setIfInBounds_toArray, List.set_cons_zero, List.set_cons_succ]
    refine wpAnyT_take (i := 21) (v := ?_) [] (oi := { dst := some 59, op := Go.Op.load 32 (Go.Operand.tmp 7), type := 32, pos := "law.go:198", after := #[{ on := 18, ground := Go.Ground.guard }], guard := some (18, true) }) rfl (by kernel_rfl) (by kernel_rfl) (by kernel_rfl) (by kernel_rfl) (fun _ _ _ h => h) (Or.inl ⟨by rfl, ?_⟩) hHeld ?_
    rotate_left
    · intro wS hSw
      obtain ⟨y0, y1⟩ := hSw.1.2.1.c
      obtain ⟨y2, y3, y4, y5, y6, y7, -⟩ := hSw.1.2.2.1.c
      obtain ⟨y8, y9, -⟩ := hSw.1.2.2.2.1.c
      obtain ⟨z0, z1⟩ := hSw.2.1.c
      obtain ⟨z2, z3⟩ := hSw.2.2.1.c
      obtain ⟨x0, x1, x2, x3, x4, x5, -⟩ := hSw.2.2.2.1.c
      obtain ⟨q0, q1, q2, q3, q4, q5, -⟩ := hSw.2.2.2.2.1.c
      go_simp
      all_goals with_reducible rfl
    simp only [Act.put, List.setIfInBounds_toArray, List.set_cons_zero, List.set_cons_succ]
    refine wpAnyT_ready (rs := [20]) (by kernel_rfl) (by simp) ?_
    refine AllReadyT.cons (i := 20) (o := { dst := some 58, op := Go.Op.call { callee := Go.Callee.value (Go.Operand.func 10), args := #[Go.Operand.tmp 57], argTypes := #[32] }, type := 4, pos := "law.go:198", after := #[{ on := 19, ground := Go.Ground.data }, { on := 18, ground := Go.Ground.chain }, { on := 18, ground := Go.Ground.guard }], guard := some (18, true) }) rfl (fun K hK => ?_) ?_
    · go_simp
      refine (goodStep_at _ x).mono ?_
      rintro e w20q ⟨rfl, hb⟩
      refine hK.out _ _ (hHeld.bel hb) (fun hHeld2 => ?_)
      clear hb
      clear hK K
      replace hHeld := hHeld2
      clear hHeld2
      try simp only [Act.put, List.setIfInBounds_toArray, List.set_cons_zero, List.set_cons_succ]
      refine wpAnyT_ready (rs := [22]) (by kernel_rfl) (by simp) ?_
      refine AllReadyT.cons (i := 22) (o := { dst := some 60, op := Go.Op.call { callee := Go.Callee.value (Go.Operand.func 11), args := #[Go.Operand.tmp 59], argTypes := #[32] }, type := 4, pos := "law.go:198", after := #[{ on := 21, ground := Go.Ground.data }, { on := 20, ground := Go.Ground.chain }, { on := 18, ground := Go.Ground.guard }], guard := some (18, true) }) rfl (fun K hK => ?_) ?_
      · go_simp
        refine (rstep_at _ x).mono ?_
        rintro e w22q ⟨rfl, hb⟩
        refine hK.out _ _ (hHeld.bel hb) (fun hHeld2 => ?_)
        clear hb
        clear hK K
        replace hHeld := hHeld2
        clear hHeld2
        try simp only [Act.put, List.setIfInBounds_toArray, List.set_cons_zero, List.set_cons_succ]
        refine wpAnyT_take (i := 23) (v := ?_) [] (oi := { dst := some 61, op := Go.Op.binOp Go.BinOp.eql 4 (Go.Operand.tmp 58) (Go.Operand.tmp 60) 4, type := 4, pos := "law.go:198", after := #[{ on := 20, ground := Go.Ground.data }, { on := 22, ground := Go.Ground.data }, { on := 18, ground := Go.Ground.guard }], guard := some (18, true) }) rfl (by kernel_rfl) (by kernel_rfl) (by kernel_rfl) (by kernel_rfl) (fun _ _ _ h => h) (Or.inl ⟨by rfl, ?_⟩) hHeld ?_
        rotate_left
        · intro wS hSw
          go_simp
          all_goals with_reducible rfl
        simp only [Act.put, List.setIfInBounds_toArray, List.set_cons_zero, List.set_cons_succ]
        refine wpAnyT_take (i := 24) (v := ?_) [] (oi := { dst := some 62, op := Go.Op.pick (Go.Operand.tmp 56) (Go.Operand.tmp 61) (Go.Operand.const (Go.Value.bool false)), type := 4, pos := "law.go:198", after := #[{ on := 18, ground := Go.Ground.data }, { on := 23, ground := Go.Ground.data }], guard := none }) rfl (by kernel_rfl) (by kernel_rfl) (by kernel_rfl) (by kernel_rfl) (fun _ _ _ h => h) (Or.inl ⟨by rfl, ?_⟩) hHeld ?_
        rotate_left
        · intro wS hSw
          go_simp
          all_goals with_reducible rfl
        simp only [Act.put, List.setIfInBounds_toArray, List.set_cons_zero, List.set_cons_succ]
        refine wpAnyT_take (i := 25) (v := ?_) [] (oi := { dst := some 63, op := Go.Op.move (Go.Operand.tmp 62), type := 4, pos := "law.go:198", after := #[{ on := 24, ground := Go.Ground.data }, { on := 22, ground := Go.Ground.chain }], guard := none }) rfl (by kernel_rfl) (by kernel_rfl) (by kernel_rfl) (by kernel_rfl) (fun _ _ _ h => h) (Or.inl ⟨by rfl, ?_⟩) hHeld ?_
        rotate_left
        · intro wS hSw
          go_simp
          all_goals with_reducible rfl
        simp only [Act.put, List.setIfInBounds_toArray, List.set_cons_zero, List.set_cons_succ]
        refine wpAnyT_take (i := 26) (v := ?_) [] (oi := { dst := some 64, op := Go.Op.load 28 (Go.Operand.tmp 5), type := 28, pos := "law.go:198", after := #[{ on := 25, ground := Go.Ground.guard }], guard := some (25, true) }) rfl (by kernel_rfl) (by kernel_rfl) (by kernel_rfl) (by kernel_rfl) (fun _ _ _ h => h) (Or.inl ⟨by rfl, ?_⟩) hHeld ?_
        rotate_left
        · intro wS hSw
          obtain ⟨y0, y1⟩ := hSw.1.2.1.c
          obtain ⟨y2, y3, y4, y5, y6, y7, -⟩ := hSw.1.2.2.1.c
          obtain ⟨y8, y9, -⟩ := hSw.1.2.2.2.1.c
          obtain ⟨z0, z1⟩ := hSw.2.1.c
          obtain ⟨z2, z3⟩ := hSw.2.2.1.c
          obtain ⟨x0, x1, x2, x3, x4, x5, -⟩ := hSw.2.2.2.1.c
          obtain ⟨q0, q1, q2, q3, q4, q5, -⟩ := hSw.2.2.2.2.1.c
          go_simp
          all_goals with_reducible rfl
        simp only [Act.put, List.setIfInBounds_toArray, List.set_cons_zero, List.set_cons_succ]
        refine wpAnyT_take (i := 28) (v := ?_) [] (oi := { dst := some 66, op := Go.Op.load 28 (Go.Operand.tmp 5), type := 28, pos := "law.go:198", after := #[{ on := 25, ground := Go.Ground.guard }], guard := some (25, true) }) rfl (by kernel_rfl) (by kernel_rfl) (by kernel_rfl) (by kernel_rfl) (fun _ _ _ h => h) (Or.inl ⟨by rfl, ?_⟩) hHeld ?_
        rotate_left
        · intro wS hSw
          obtain ⟨y0, y1⟩ := hSw.1.2.1.c
          obtain ⟨y2, y3, y4, y5, y6, y7, -⟩ := hSw.1.2.2.1.c
          obtain ⟨y8, y9, -⟩ := hSw.1.2.2.2.1.c
          obtain ⟨z0, z1⟩ := hSw.2.1.c
          obtain ⟨z2, z3⟩ := hSw.2.2.1.c
          obtain ⟨x0, x1, x2, x3, x4, x5, -⟩ := hSw.2.2.2.1.c
          obtain ⟨q0, q1, q2, q3, q4, q5, -⟩ := hSw.2.2.2.2.1.c
          go_simp
          all_goals with_reducible rfl
        simp only [Act.put, List.setIfInBounds_toArray, List.set_cons_zero, List.set_cons_succ]
        refine wpAnyT_ready (rs := [27]) (by kernel_rfl) (by simp) ?_
        refine AllReadyT.cons (i := 27) (o := { dst := some 65, op := Go.Op.call { callee := Go.Callee.value (Go.Operand.func 12), args := #[Go.Operand.tmp 64], argTypes := #[28] }, type := 4, pos := "law.go:198", after := #[{ on := 26, ground := Go.Ground.data }, { on := 25, ground := Go.Ground.chain }, { on := 25, ground := Go.Ground.guard }], guard := some (25, true) }) rfl (fun K hK => ?_) ?_
        · go_simp
          refine (goodSpec_at _ g l _ (by exact hHeld.2.2.2.2.2.1) G0.out).mono ?_
          rintro e w27q ⟨rfl, hb⟩
          refine hK.out _ _ (hHeld.bel hb) (fun hHeld2 => ?_)
          clear hb
          clear hK K
          replace hHeld := hHeld2
          clear hHeld2
          try simp only [Act.put, List.setIfInBounds_toArray, List.set_cons_zero, List.set_cons_succ]
          refine wpAnyT_ready (rs := [29]) (by kernel_rfl) (by simp) ?_
          refine AllReadyT.cons (i := 29) (o := { dst := some 67, op := Go.Op.call { callee := Go.Callee.value (Go.Operand.func 13), args := #[Go.Operand.tmp 66], argTypes := #[28] }, type := 4, pos := "law.go:198", after := #[{ on := 28, ground := Go.Ground.data }, { on := 27, ground := Go.Ground.chain }, { on := 25, ground := Go.Ground.guard }], guard := some (25, true) }) rfl (fun K hK => ?_) ?_
          · go_simp
            refine (rspec_at _ g l _ (by exact hHeld.2.2.2.2.2.1) G0.out).mono ?_
            rintro e w29q ⟨rfl, hb⟩
            refine hK.out _ _ (hHeld.bel hb) (fun hHeld2 => ?_)
            clear hb
            clear hK K
            replace hHeld := hHeld2
            clear hHeld2
            try simp only [Act.put, List.setIfInBounds_toArray, List.set_cons_zero, List.set_cons_succ]
            refine wpAnyT_take (i := 30) (v := ?_) [] (oi := { dst := some 68, op := Go.Op.binOp Go.BinOp.eql 4 (Go.Operand.tmp 65) (Go.Operand.tmp 67) 4, type := 4, pos := "law.go:198", after := #[{ on := 27, ground := Go.Ground.data }, { on := 29, ground := Go.Ground.data }, { on := 25, ground := Go.Ground.guard }], guard := some (25, true) }) rfl (by kernel_rfl) (by kernel_rfl) (by kernel_rfl) (by kernel_rfl) (fun _ _ _ h => h) (Or.inl ⟨by rfl, ?_⟩) hHeld ?_
            rotate_left
            · intro wS hSw
              go_simp
              all_goals with_reducible rfl
            simp only [Act.put, List.setIfInBounds_toArray, List.set_cons_zero, List.set_cons_succ]
            refine wpAnyT_take (i := 31) (v := ?_) [] (oi := { dst := some 69, op := Go.Op.pick (Go.Operand.tmp 63) (Go.Operand.tmp 68) (Go.Operand.const (Go.Value.bool false)), type := 4, pos := "law.go:198", after := #[{ on := 25, ground := Go.Ground.data }, { on := 30, ground := Go.Ground.data }], guard := none }) rfl (by kernel_rfl) (by kernel_rfl) (by kernel_rfl) (by kernel_rfl) (fun _ _ _ h => h) (Or.inl ⟨by rfl, ?_⟩) hHeld ?_
            rotate_left
            · intro wS hSw
              go_simp
              all_goals with_reducible rfl
            simp only [Act.put, List.setIfInBounds_toArray, List.set_cons_zero, List.set_cons_succ]
            refine wpAnyT_take (i := 32) (v := ?_) [] (oi := { dst := some 70, op := Go.Op.move (Go.Operand.tmp 69), type := 4, pos := "law.go:198", after := #[{ on := 31, ground := Go.Ground.data }, { on := 29, ground := Go.Ground.chain }], guard := none }) rfl (by kernel_rfl) (by kernel_rfl) (by kernel_rfl) (by kernel_rfl) (fun _ _ _ h => h) (Or.inl ⟨by rfl, ?_⟩) hHeld ?_
            rotate_left
            · intro wS hSw
              go_simp
              all_goals with_reducible rfl
            simp only [Act.put, List.setIfInBounds_toArray, List.set_cons_zero, List.set_cons_succ]
            refine wpAnyT_take (i := 33) (v := ?_) [] (oi := { dst := some 71, op := Go.Op.load 30 (Go.Operand.tmp 6), type := 30, pos := "law.go:198", after := #[{ on := 32, ground := Go.Ground.guard }], guard := some (32, true) }) rfl (by kernel_rfl) (by kernel_rfl) (by kernel_rfl) (by kernel_rfl) (fun _ _ _ h => h) (Or.inl ⟨by rfl, ?_⟩) hHeld ?_
            rotate_left
            · intro wS hSw
              obtain ⟨y0, y1⟩ := hSw.1.2.1.c
              obtain ⟨y2, y3, y4, y5, y6, y7, -⟩ := hSw.1.2.2.1.c
              obtain ⟨y8, y9, -⟩ := hSw.1.2.2.2.1.c
              obtain ⟨z0, z1⟩ := hSw.2.1.c
              obtain ⟨z2, z3⟩ := hSw.2.2.1.c
              obtain ⟨x0, x1, x2, x3, x4, x5, -⟩ := hSw.2.2.2.1.c
              obtain ⟨q0, q1, q2, q3, q4, q5, -⟩ := hSw.2.2.2.2.1.c
              go_simp
              all_goals with_reducible rfl
            simp only [Act.put, List.setIfInBounds_toArray, List.set_cons_zero, List.set_cons_succ]
            refine wpAnyT_take (i := 35) (v := ?_) [] (oi := { dst := some 73, op := Go.Op.load 30 (Go.Operand.tmp 6), type := 30, pos := "law.go:198", after := #[{ on := 32, ground := Go.Ground.guard }], guard := some (32, true) }) rfl (by kernel_rfl) (by kernel_rfl) (by kernel_rfl) (by kernel_rfl) (fun _ _ _ h => h) (Or.inl ⟨by rfl, ?_⟩) hHeld ?_
            rotate_left
            · intro wS hSw
              obtain ⟨y0, y1⟩ := hSw.1.2.1.c
              obtain ⟨y2, y3, y4, y5, y6, y7, -⟩ := hSw.1.2.2.1.c
              obtain ⟨y8, y9, -⟩ := hSw.1.2.2.2.1.c
              obtain ⟨z0, z1⟩ := hSw.2.1.c
              obtain ⟨z2, z3⟩ := hSw.2.2.1.c
              obtain ⟨x0, x1, x2, x3, x4, x5, -⟩ := hSw.2.2.2.1.c
              obtain ⟨q0, q1, q2, q3, q4, q5, -⟩ := hSw.2.2.2.2.1.c
              go_simp
              all_goals with_reducible rfl
            simp only [Act.put, List.setIfInBounds_toArray, List.set_cons_zero, List.set_cons_succ]
            refine wpAnyT_ready (rs := [34]) (by kernel_rfl) (by simp) ?_
            refine AllReadyT.cons (i := 34) (o := { dst := some 72, op := Go.Op.call { callee := Go.Callee.value (Go.Operand.func 14), args := #[Go.Operand.tmp 71], argTypes := #[30] }, type := 4, pos := "law.go:198", after := #[{ on := 33, ground := Go.Ground.data }, { on := 32, ground := Go.Ground.chain }, { on := 32, ground := Go.Ground.guard }], guard := some (32, true) }) rfl (fun K hK => ?_) ?_
            · go_simp
              refine (good_at _ s).mono ?_
              rintro e w34q ⟨rfl, hb⟩
              refine hK.out _ _ (hHeld.bel hb) (fun hHeld2 => ?_)
              clear hb
              clear hK K
              replace hHeld := hHeld2
              clear hHeld2
              try simp only [Act.put, List.setIfInBounds_toArray, List.set_cons_zero, List.set_cons_succ]
              refine wpAnyT_ready (rs := [36]) (by kernel_rfl) (by simp) ?_
              refine AllReadyT.cons (i := 36) (o := { dst := some 74, op := Go.Op.call { callee := Go.Callee.value (Go.Operand.func 15), args := #[Go.Operand.tmp 73], argTypes := #[30] }, type := 4, pos := "law.go:198", after := #[{ on := 35, ground := Go.Ground.data }, { on := 34, ground := Go.Ground.chain }, { on := 32, ground := Go.Ground.guard }], guard := some (32, true) }) rfl (fun K hK => ?_) ?_
              · go_simp
                refine (rstatus_at _ s).mono ?_
                rintro e w36q ⟨rfl, hb⟩
                refine hK.out _ _ (hHeld.bel hb) (fun hHeld2 => ?_)
                clear hb
                clear hK K
                replace hHeld := hHeld2
                clear hHeld2
                try simp only [Act.put, List.setIfInBounds_toArray, List.set_cons_zero, List.set_cons_succ]
                refine wpAnyT_take (i := 37) (v := ?_) [] (oi := { dst := some 75, op := Go.Op.binOp Go.BinOp.eql 4 (Go.Operand.tmp 72) (Go.Operand.tmp 74) 4, type := 4, pos := "law.go:198", after := #[{ on := 34, ground := Go.Ground.data }, { on := 36, ground := Go.Ground.data }, { on := 32, ground := Go.Ground.guard }], guard := some (32, true) }) rfl (by kernel_rfl) (by kernel_rfl) (by kernel_rfl) (by kernel_rfl) (fun _ _ _ h => h) (Or.inl ⟨by rfl, ?_⟩) hHeld ?_
                rotate_left
                · intro wS hSw
                  go_simp
                  all_goals with_reducible rfl
                simp only [Act.put, List.setIfInBounds_toArray, List.set_cons_zero, List.set_cons_succ]
                refine wpAnyT_take (i := 38) (v := ?_) [] (oi := { dst := some 76, op := Go.Op.pick (Go.Operand.tmp 70) (Go.Operand.tmp 75) (Go.Operand.const (Go.Value.bool false)), type := 4, pos := "law.go:198", after := #[{ on := 32, ground := Go.Ground.data }, { on := 37, ground := Go.Ground.data }], guard := none }) rfl (by kernel_rfl) (by kernel_rfl) (by kernel_rfl) (by kernel_rfl) (fun _ _ _ h => h) (Or.inl ⟨by rfl, ?_⟩) hHeld ?_
                rotate_left
                · intro wS hSw
                  go_simp
                  all_goals with_reducible rfl
                simp only [Act.put, List.setIfInBounds_toArray, List.set_cons_zero, List.set_cons_succ]
                refine wpAnyT_take (i := 39) (v := ?_) [] (oi := { dst := some 77, op := Go.Op.move (Go.Operand.tmp 76), type := 4, pos := "law.go:198", after := #[{ on := 38, ground := Go.Ground.data }, { on := 36, ground := Go.Ground.chain }], guard := none }) rfl (by kernel_rfl) (by kernel_rfl) (by kernel_rfl) (by kernel_rfl) (fun _ _ _ h => h) (Or.inl ⟨by rfl, ?_⟩) hHeld ?_
                rotate_left
                · intro wS hSw
                  go_simp
                  all_goals with_reducible rfl
                simp only [Act.put, List.setIfInBounds_toArray, List.set_cons_zero, List.set_cons_succ]
                refine wpAnyT_ready (rs := [40]) (by kernel_rfl) (by simp) ?_
                refine AllReadyT.cons (i := 40) (o := { dst := some 78, op := Go.Op.call { callee := Go.Callee.value (Go.Operand.func 16), args := #[], argTypes := #[] }, type := 4, pos := "law.go:198", after := #[{ on := 39, ground := Go.Ground.chain }, { on := 39, ground := Go.Ground.guard }], guard := some (39, true) }) rfl (fun K hK => ?_) ?_
                · go_simp
                  refine (lsteps_at _).mono ?_
                  rintro e w40q ⟨rfl, hb⟩
                  refine hK.out _ _ (hHeld.bel hb) (fun hHeld2 => ?_)
                  clear hb
                  clear hK K
                  replace hHeld := hHeld2
                  clear hHeld2
                  try simp only [Act.put, List.setIfInBounds_toArray, List.set_cons_zero, List.set_cons_succ]
                  refine wpAnyT_take (i := 41) (v := ?_) [] (oi := { dst := some 79, op := Go.Op.pick (Go.Operand.tmp 77) (Go.Operand.tmp 78) (Go.Operand.const (Go.Value.bool false)), type := 4, pos := "law.go:198", after := #[{ on := 39, ground := Go.Ground.data }, { on := 40, ground := Go.Ground.data }], guard := none }) rfl (by kernel_rfl) (by kernel_rfl) (by kernel_rfl) (by kernel_rfl) (fun _ _ _ h => h) (Or.inl ⟨by rfl, ?_⟩) hHeld ?_
                  rotate_left
                  · intro wS hSw
                    go_simp
                    all_goals with_reducible rfl
                  simp only [Act.put, List.setIfInBounds_toArray, List.set_cons_zero, List.set_cons_succ]
                  refine wpAnyT_take (i := 42) (v := ?_) [] (oi := { dst := some 8, op := Go.Op.assign (Go.Operand.tmp 79), type := 4, pos := "law.go:198", after := #[{ on := 41, ground := Go.Ground.data }, { on := 40, ground := Go.Ground.chain }, { on := 0, ground := Go.Ground.phase }, { on := 1, ground := Go.Ground.phase }, { on := 2, ground := Go.Ground.phase }, { on := 3, ground := Go.Ground.phase }, { on := 4, ground := Go.Ground.phase }, { on := 5, ground := Go.Ground.phase }, { on := 6, ground := Go.Ground.phase }, { on := 7, ground := Go.Ground.phase }, { on := 8, ground := Go.Ground.phase }, { on := 9, ground := Go.Ground.phase }, { on := 10, ground := Go.Ground.phase }, { on := 11, ground := Go.Ground.phase }, { on := 12, ground := Go.Ground.phase }, { on := 13, ground := Go.Ground.phase }, { on := 14, ground := Go.Ground.phase }, { on := 15, ground := Go.Ground.phase }, { on := 16, ground := Go.Ground.phase }, { on := 17, ground := Go.Ground.phase }, { on := 18, ground := Go.Ground.phase }, { on := 19, ground := Go.Ground.phase }, { on := 20, ground := Go.Ground.phase }, { on := 21, ground := Go.Ground.phase }, { on := 22, ground := Go.Ground.phase }, { on := 23, ground := Go.Ground.phase }, { on := 24, ground := Go.Ground.phase }, { on := 25, ground := Go.Ground.phase }, { on := 26, ground := Go.Ground.phase }, { on := 27, ground := Go.Ground.phase }, { on := 28, ground := Go.Ground.phase }, { on := 29, ground := Go.Ground.phase }, { on := 30, ground := Go.Ground.phase }, { on := 31, ground := Go.Ground.phase }, { on := 32, ground := Go.Ground.phase }, { on := 33, ground := Go.Ground.phase }, { on := 34, ground := Go.Ground.phase }, { on := 35, ground := Go.Ground.phase }, { on := 36, ground := Go.Ground.phase }, { on := 37, ground := Go.Ground.phase }, { on := 38, ground := Go.Ground.phase }, { on := 39, ground := Go.Ground.phase }, { on := 40, ground := Go.Ground.phase }, { on := 41, ground := Go.Ground.phase }], guard := none }) rfl (by kernel_rfl) (by kernel_rfl) (by kernel_rfl) (by kernel_rfl) (fun _ _ _ h => h) (Or.inl ⟨by rfl, ?_⟩) hHeld ?_
                  rotate_left
                  · intro wS hSw
                    go_simp
                    all_goals with_reducible rfl
                  simp only [Act.put, List.setIfInBounds_toArray, List.set_cons_zero, List.set_cons_succ]
                  refine wpAnyT_done (by kernel_rfl) ?_ _
                  go_wp2_with fail
                  go_ret
                  exact ⟨rfl, hHeld.1.2.2.2.2⟩
                exact AllReadyT.nil
              exact AllReadyT.nil
            exact AllReadyT.nil
          exact AllReadyT.nil
        exact AllReadyT.nil
      exact AllReadyT.nil
    exact AllReadyT.nil
  exact AllReadyT.nil
end Go.Proofs.Ytaaaogiheplbmaa
