/- What Without of package json does. -/
import Derived.Test.YtaifciobaapehaaDoorCe
import Derived.Test.YtaifciobaapehaaDoorCp
import Derived.Deep.DrawnRows
set_option linter.unusedSimpArgs false
set_option linter.unusedVariables false
namespace Go.Proofs.YtaifciobaapehaaDoor
open Go.RowKit
attribute [local go_sem ↓] Go.wp_at_zero Go.wp_at_succ

/- Concat of two parts, out of one new block. -/
theorem conS2 {w2 : World} {v1 v3 : Value} {n1 n3 N : Nat} {cs1 cs3 : List Value} (s1 : SlIs w2 1 v1 n1 cs1) (s3 : SlIs w2 1 v3 n3 cs3) (hN : n1 + n3 = N) (hn : N ≤ 1000000) (W : World)
    (e1 : W.heap = (w2.alloc (.cells #[v1, v3] 22)).heap) (e2 : W.os = w2.os) (e3 : W.tape = w2.tape) (e4 : W.output = w2.output) :
    Calls Tryd.prog 71 #[.slice (some ⟨w2.heap.size, 0, none⟩) 2 2] W fun e w' => ∃ a cap, e = .returned (.slice a N cap) ∧ w'.ownsRow w2.heap.size 9 1 (.slice a N cap) N (cs1 ++ cs3) ∧ Below w2.heap.size w2 w' := by
  have hbW : Below w2.heap.size w2 W := by
    have := bel_alloc w2 (.cells #[v1, v3] 22)
    exact ⟨e2, e3, e4, by rw [e1]; exact this.size, fun k hk => by rw [e1]; exact this.block k hk⟩
  have hb := heap_alloc_new w2 (.cells #[v1, v3] 22)
  rw [← e1] at hb
  refine (concatS W w2.heap.size 0 2 [⟨v1, n1, cs1⟩, ⟨v3, n3, cs3⟩] ?_ (by simp [sumN]; omega) (by simp) (by simp)).mono ?_
  · intro i p hp
    match i, hp with
    | 0, hp => simp at hp; subst hp; exact ⟨by simp [World.cell?, hb], s1.bel hbW⟩
    | 1, hp => simp at hp; subst hp; exact ⟨by simp [World.cell?, hb], s3.bel hbW⟩
  rintro e w' ⟨v, rfl, ho, hb9⟩
  have q1 : sumN [⟨v1, n1, cs1⟩, ⟨v3, n3, cs3⟩] = N := by simp [sumN]; omega
  have q2 : allC [⟨v1, n1, cs1⟩, ⟨v3, n3, cs3⟩] = cs1 ++ cs3 := by simp [allC]
  rw [q1, q2] at ho
  have ho' := own_base ho hbW.size
  rcases ho'.2 with ⟨e, h0⟩ | ⟨g, cap, cur, e, rest⟩
  · subst e
    subst h0
    exact ⟨none, 0, rfl, ho', bel_trans hbW hb9⟩
  · subst e
    exact ⟨_, cap, rfl, ho', bel_trans hbW hb9⟩
theorem conV2 {w2 : World} {v1 v3 : Value} {n1 n3 N : Nat} {cs1 cs3 : List Value} (s1 : SlIs w2 5 v1 n1 cs1) (s3 : SlIs w2 5 v3 n3 cs3) (hN : n1 + n3 = N) (hn : N ≤ 1000000) (W : World)
    (e1 : W.heap = (w2.alloc (.cells #[v1, v3] 23)).heap) (e2 : W.os = w2.os) (e3 : W.tape = w2.tape) (e4 : W.output = w2.output) :
    Calls Tryd.prog 52 #[.slice (some ⟨w2.heap.size, 0, none⟩) 2 2] W fun e w' => ∃ a cap, e = .returned (.slice a N cap) ∧ w'.ownsRow w2.heap.size 25 5 (.slice a N cap) N (cs1 ++ cs3) ∧ Below w2.heap.size w2 w' := by
  have hbW : Below w2.heap.size w2 W := by
    have := bel_alloc w2 (.cells #[v1, v3] 23)
    exact ⟨e2, e3, e4, by rw [e1]; exact this.size, fun k hk => by rw [e1]; exact this.block k hk⟩
  have hb := heap_alloc_new w2 (.cells #[v1, v3] 23)
  rw [← e1] at hb
  refine (concatV W w2.heap.size 0 2 [⟨v1, n1, cs1⟩, ⟨v3, n3, cs3⟩] ?_ (by simp [sumN]; omega) (by simp) (by simp)).mono ?_
  · intro i p hp
    match i, hp with
    | 0, hp => simp at hp; subst hp; exact ⟨by simp [World.cell?, hb], s1.bel hbW⟩
    | 1, hp => simp at hp; subst hp; exact ⟨by simp [World.cell?, hb], s3.bel hbW⟩
  rintro e w' ⟨v, rfl, ho, hb9⟩
  have q1 : sumN [⟨v1, n1, cs1⟩, ⟨v3, n3, cs3⟩] = N := by simp [sumN]; omega
  have q2 : allC [⟨v1, n1, cs1⟩, ⟨v3, n3, cs3⟩] = cs1 ++ cs3 := by simp [allC]
  rw [q1, q2] at ho
  have ho' := own_base ho hbW.size
  rcases ho'.2 with ⟨e, h0⟩ | ⟨g, cap, cur, e, rest⟩
  · subst e
    subst h0
    exact ⟨none, 0, rfl, ho', bel_trans hbW hb9⟩
  · subst e
    exact ⟨_, cap, rfl, ho', bel_trans hbW hb9⟩

/- Behind the keys' Concat. -/
def MidO (w w2 : World) (t : V) (i : Nat) (a2 : Option Addr) (c2 : Nat) (wc : World) : Prop :=
  ∃ a9 c9, BoxIs wc w.heap.size (.int .i64 t.kind) (.int .i64 t.n) (.string ⟨t.s.toArray⟩) (.slice a9 (t.keys.length - 1) c9) (.slice a2 t.l.length c2) ∧
    BoxIs wc (w.heap.size + 1) (.int .i64 0) (.int .i64 0) (.string ⟨#[]⟩) (.slice none 0 0) (.slice none 0 0) ∧
    wc.ownsRow w2.heap.size 9 1 (.slice a9 (t.keys.length - 1) c9) (t.keys.length - 1) ((t.keys.take i).map str ++ (t.keys.drop (i + 1)).map str) ∧
    Below w.heap.size w wc ∧ w2.heap.size ≤ wc.heap.size

set_option maxRecDepth 100000 in
set_option maxHeartbeats 1000000 in
theorem without_none (w : World) (ok : Nat → Prop) (d : Nat) (t : V) (v : Value) (key : List UInt8) (h : VIs w ok (d + 1) t v) (hf : findV t key = none) :
    Calls Tryd.prog 57 #[v, str key] w fun e w' => ∃ r, e = .returned r ∧ VIs w' (okN ok w.heap.size) (d + 1) t r ∧ Below w.heap.size w w' := by
  have H := hidI h
  obtain ⟨ks, ls, rfl, h1, h2, h3, h4, h5⟩ := h
  obtain ⟨a1, c1, rfl⟩ := h4.form
  obtain ⟨a2, c2, rfl⟩ := h5.form
  have l1 := h4.1
  have l2 := h5.1
  have F := hidI hf
  clear hf
  unfold maxLen at l1 h3 l2
  unfold str
  clear h4 h5 h1 h2
  go_enter Tryd.func57, Tryd.ntmps57
  go_wp2_with fail
  refine (find_at _ ok _ t _ key (by exact H.out.bel (bel_trans (bel_alloc _ _) (bel_alloc _ _)))).mono ?_
  rintro e w2 ⟨rfl, hb2⟩
  rw [F.out]
  have bx2 : Hid (BoxIs w2 w.heap.size (.int .i64 t.kind) (.int .i64 t.n) (.string ⟨t.s.toArray⟩) (.slice a1 t.keys.length c1) (.slice a2 t.l.length c2) ∧ BoxIs w2 (w.heap.size + 1) (.int .i64 0) (.int .i64 0) (.string ⟨#[]⟩) (.slice none 0 0) (.slice none 0 0)) := ⟨box_bel hb2 (h2a w _ _), box_bel hb2 (h2b w _ _)⟩
  have B2 : Hid (Below w.heap.size w w2) := bel_trans (bel_trans (bel_alloc _ _) (bel_alloc _ _)) hb2
  clear hb2
  unfold optI
  obtain ⟨p0, p1, p2, p3, p4, -⟩ := bx2.out.1.c
  obtain ⟨x0, x1, x2, x3, x4, y0, y1, y2, y3, y4⟩ := bx2.out.2.c
  obtain ⟨z0, z1, z2, z3, z4, -⟩ := (bx2.out.2.set (.int .i64 t.kind) (.int .i64 t.n) (.string ⟨t.s.toArray⟩) (.slice a1 t.keys.length c1) (.slice a2 t.l.length c2)).c
  have Z : Hid (_ ∧ _ ∧ _ ∧ _ ∧ _) := ⟨z0, z1, z2, z3, z4⟩
  clear z0 z1 z2 z3 z4
  go_wp2_with fail
  obtain ⟨z0, z1, z2, z3, z4⟩ := Z.out
  refine bodyPost_ret (v := .agg #[.int .i64 t.kind, .int .i64 t.n, .string ⟨t.s.toArray⟩, .slice a1 t.keys.length c1, .slice a2 t.l.length c2]) ?_ rfl ?_
  · simp only [set5] at z0 z1 z2 z3 z4
    simp [results, Tryd.results57, go_sem, z0, z1, z2, z3, z4]
  · have hb9 := gb_none (gb_set5 (gb_below (r := none) B2.out) (Nat.le_succ w.heap.size) (.int .i64 t.kind) (.int .i64 t.n) (.string ⟨t.s.toArray⟩) (.slice a1 t.keys.length c1) (.slice a2 t.l.length c2))
    exact ⟨_, rfl, (H.out.bel hb9).toN, hb9⟩

set_option maxRecDepth 100000 in
set_option maxHeartbeats 40000000 in
theorem without_found (w : World) (ok : Nat → Prop) (d : Nat) (t : V) (v : Value) (key : List UInt8) (i : Nat) (h : VIs w ok (d + 1) t v) (hf : findV t key = some i) (hsz : t.l.length ≤ 100000) :
    Calls Tryd.prog 57 #[v, str key] w fun e w' => ∃ r, e = .returned r ∧ VIs w' (okN ok w.heap.size) (d + 1) { t with keys := t.keys.take i ++ t.keys.drop (i + 1), l := t.l.take i ++ t.l.drop (i + 1) } r ∧ Below w.heap.size w w' := by
  have H := hidI h
  obtain ⟨ks, ls, rfl, h1, h2, h3, h4, h5⟩ := h
  have KK : Hid (I64 t.kind ∧ I64 t.n ∧ t.s.length ≤ maxLen ∧ StrsAre w ok t.keys ks ∧ ValsAre w ok (VIs w ok d) t.l ls) := ⟨h1, h2, h3, h4, h5⟩
  obtain ⟨f1, f2, f3, f4⟩ := findV_some hf
  have hkl : t.keys.length = t.l.length := by
    simp only [pairedV, Bool.and_eq_true, decide_eq_true_eq] at f1; exact f1.2
  have F := hidI hf
  have hkl1 : t.keys.length ≤ t.l.length := by omega
  have hkl2 : t.l.length ≤ t.keys.length := by omega
  clear hf f1 f2 f4 hkl
  obtain ⟨_, K4⟩ := h4
  rcases K4 with ⟨e, _⟩ | ⟨kb, ko, c1, hks, kc1, kc2, -⟩
  · have : t.keys.length = 0 := by rw [e]; rfl
    omega
  subst hks
  obtain ⟨_, K5⟩ := h5
  rcases K5 with ⟨e, _⟩ | ⟨b, off, c2, hls, hc1, hc2, -⟩
  · rw [e] at f3; simp at f3
  subst hls
  unfold maxLen at h3 hc2 kc2
  unfold str
  clear h1 h2
  have hsz2 : t.keys.length ≤ 100000 := by omega
  have hik : i < t.keys.length := by omega
  go_enter Tryd.func57, Tryd.ntmps57
  go_wp2_with fail
  refine (find_at _ ok _ t _ key (by exact H.out.bel (bel_trans (bel_alloc _ _) (bel_alloc _ _)))).mono ?_
  rintro e w2 ⟨rfl, hb2⟩
  rw [F.out]
  have bx2 : Hid (BoxIs w2 w.heap.size (.int .i64 t.kind) (.int .i64 t.n) (.string ⟨t.s.toArray⟩) (.slice (some ⟨kb, ko, none⟩) t.keys.length c1) (.slice (some ⟨b, off, none⟩) t.l.length c2) ∧ BoxIs w2 (w.heap.size + 1) (.int .i64 0) (.int .i64 0) (.string ⟨#[]⟩) (.slice none 0 0) (.slice none 0 0)) := ⟨box_bel hb2 (h2a w _ _), box_bel hb2 (h2b w _ _)⟩
  have B2 : Hid (Below w.heap.size w w2) := bel_trans (bel_trans (bel_alloc _ _) (bel_alloc _ _)) hb2
  have hsz3 : w.heap.size + 1 < w2.heap.size := bx2.out.2.lt
  clear hb2
  unfold optI
  obtain ⟨p0, p1, p2, p3, p4, -, -, -, p9, p10⟩ := bx2.out.1.c
  have i0 : 0 ≤ (i : Int) := by omega
  have i1 : (i : Int) ≤ (c1 : Int) := by omega
  have i2 : (i : Int) + 1 ≤ (t.keys.length : Int) := by omega
  have i3 : (t.keys.length : Int) ≤ (c1 : Int) := by omega
  have hw1 : IntKind.i64.wrap ((i : Int) + 1) = (i : Int) + 1 := by rw [IntKind.wrap_i64]; omega
  have i4 : (0 : Int) ≤ (i : Int) + 1 := by omega
  have j1 : (i : Int) ≤ (c2 : Int) := by omega
  have j2 : (i : Int) + 1 ≤ (t.l.length : Int) := by omega
  have j3 : (t.l.length : Int) ≤ (c2 : Int) := by omega
  have fin10 : Hid (∀ w3 a9 cap, w3.ownsRow w2.heap.size 9 1 (.slice a9 (t.keys.length - 1) cap) (t.keys.length - 1) ((t.keys.take i).map str ++ (t.keys.drop (i + 1)).map str) → Below w2.heap.size w2 w3 →
      MidO w w2 t i (some ⟨b, off, none⟩) c2 (w3.setCell ⟨w.heap.size, 3, none⟩ (.slice a9 (t.keys.length - 1) cap))) := by
    intro w3 a9 cap ho hb
    have g1 : w3.grownBy (w3.setCell ⟨w.heap.size, 3, none⟩ (.slice a9 (t.keys.length - 1) cap)) (some w.heap.size) := gb_set (gb_refl _ _) _ _
    refine ⟨a9, cap, box_set3 (box_bel hb bx2.out.1) _, (box_bel hb bx2.out.2).grown g1 (by simp), own_kept' ho g1 (by omega), ?_, Nat.le_trans hb.size g1.size⟩
    exact gb_none (gb_setA (gb_below (bel_trans B2.out hb)) (Nat.le_refl _) _ _)
  go_upto_region 4 with fail
  go_cut [5] (fun j wc' => j = .int .i64 (i : Nat) ∧ MidO w w2 t i (some ⟨b, off, none⟩) c2 wc')
  case first =>
    have k3 : ∀ o, (w2.alloc o).cell? ⟨w.heap.size, 3, none⟩ = some (.slice (some ⟨kb, ko, none⟩) t.keys.length c1) := fun o => (box_bel (bel_alloc w2 o) bx2.out.1).c.2.2.2.1
    obtain ⟨s1, s2⟩ := ss_parts KK.out.2.2.2.1 i (i + 1) (by omega) hik (by omega)
    obtain ⟨a3, hifs⟩ : ∃ a3, (if c1 = i + 1 then (some ⟨kb, ko, none⟩ : Option Addr) else some ⟨kb, ko + (i + 1), none⟩) = a3 := ⟨_, rfl⟩
    rw [Nat.mul_one, hifs] at s2
    have con : Hid (∀ W, W.heap = (w2.alloc (.cells #[.slice (some ⟨kb, ko, none⟩) i c1, .slice a3 (t.keys.length - (i + 1)) (c1 - (i + 1))] 22)).heap → W.os = w2.os → W.tape = w2.tape → W.output = w2.output →
        Calls Tryd.prog 71 #[.slice (some ⟨w2.heap.size, 0, none⟩) 2 2] W fun e w' => ∃ a9 cap, e = .returned (.slice a9 (t.keys.length - 1) cap) ∧ w'.ownsRow w2.heap.size 9 1 (.slice a9 (t.keys.length - 1) cap) (t.keys.length - 1) ((t.keys.take i).map str ++ (t.keys.drop (i + 1)).map str) ∧ Below w2.heap.size w2 w') := by
      intro W e1 e2 e4 e5
      exact conS2 (s1.bel B2.out) (s2.bel B2.out) (by omega) (by omega) W e1 e2 e4 e5
    clear s1 s2
    go_region_with ((go_at_call 71; refine (con.out _ (by rfl) (by rfl) (by rfl) (by rfl)).mono ?_; rintro e w3 ⟨a9, cap, rfl, ho3, hb3⟩; obtain ⟨p0, p1, p2, p3, p4, -, -, -, p9, p10⟩ := (box_bel hb3 bx2.out.1).c; have O3 := hidI ho3; have HB3 := hidI hb3; clear ho3 hb3))
    all_goals
      go_wp2_with fail
      go_meet
      case rel => exact ⟨rfl, fin10.out _ _ _ O3.out HB3.out⟩
  case rest =>
    obtain ⟨rfl, a9, kcap, hm1, hm2, hm3, hm4, hm5⟩ := hcut
    have M : Hid (BoxIs wc w.heap.size (.int .i64 t.kind) (.int .i64 t.n) (.string ⟨t.s.toArray⟩) (.slice a9 (t.keys.length - 1) kcap) (.slice (some ⟨b, off, none⟩) t.l.length c2) ∧ BoxIs wc (w.heap.size + 1) (.int .i64 0) (.int .i64 0) (.string ⟨#[]⟩) (.slice none 0 0) (.slice none 0 0) ∧ wc.ownsRow w2.heap.size 9 1 (.slice a9 (t.keys.length - 1) kcap) (t.keys.length - 1) ((t.keys.take i).map str ++ (t.keys.drop (i + 1)).map str) ∧ Below w.heap.size w wc ∧ w2.heap.size ≤ wc.heap.size) := ⟨hm1, hm2, hm3, hm4, hm5⟩
    clear hm1 hm2 hm3 hm4 fin10 p0 p1 p2 p3 p4 p9 p10
    obtain ⟨p0, p1, p2, p3, p4, -, -, -, p9, p10⟩ := M.out.1.c
    have k4 : ∀ o, (wc.alloc o).cell? ⟨w.heap.size, 4, none⟩ = some (.slice (some ⟨b, off, none⟩) t.l.length c2) := fun o => (box_bel (bel_alloc wc o) M.out.1).c.2.2.2.2.1
    obtain ⟨cs1, cs2, r1, s1, r2, s2⟩ := sl_parts KK.out.2.2.2.2 i (i + 1) (by omega) f3 (by omega)
    obtain ⟨a3, hifs⟩ : ∃ a3, (if c2 = i + 1 then (some ⟨b, off, none⟩ : Option Addr) else some ⟨b, off + (i + 1) * 5, none⟩) = a3 := ⟨_, rfl⟩
    rw [hifs] at s2
    have con : Hid (∀ W, W.heap = (wc.alloc (.cells #[.slice (some ⟨b, off, none⟩) i c2, .slice a3 (t.l.length - (i + 1)) (c2 - (i + 1))] 23)).heap → W.os = wc.os → W.tape = wc.tape → W.output = wc.output →
        Calls Tryd.prog 52 #[.slice (some ⟨wc.heap.size, 0, none⟩) 2 2] W fun e w' => ∃ a8 cap, e = .returned (.slice a8 (t.l.length - 1) cap) ∧ w'.ownsRow wc.heap.size 25 5 (.slice a8 (t.l.length - 1) cap) (t.l.length - 1) (cs1 ++ cs2) ∧ Below wc.heap.size wc w') := by
      intro W e1 e2 e4 e5
      exact conV2 (s1.bel M.out.2.2.2.1) (s2.bel M.out.2.2.2.1) (by omega) (by omega) W e1 e2 e4 e5
    have fin : Hid (∀ w3 a8 cap, w3.ownsRow wc.heap.size 25 5 (.slice a8 (t.l.length - 1) cap) (t.l.length - 1) (cs1 ++ cs2) → Below wc.heap.size wc w3 →
        VIs (set5 (w3.setCell ⟨w.heap.size, 4, none⟩ (.slice a8 (t.l.length - 1) cap)) (w.heap.size + 1) (.int .i64 t.kind) (.int .i64 t.n) (.string ⟨t.s.toArray⟩) (.slice a9 (t.keys.length - 1) kcap) (.slice a8 (t.l.length - 1) cap)) (okN ok w.heap.size) (d + 1) { t with keys := t.keys.take i ++ t.keys.drop (i + 1), l := t.l.take i ++ t.l.drop (i + 1) } (.agg #[.int .i64 t.kind, .int .i64 t.n, .string ⟨t.s.toArray⟩, .slice a9 (t.keys.length - 1) kcap, .slice a8 (t.l.length - 1) cap]) ∧
        Below w.heap.size w (set5 (w3.setCell ⟨w.heap.size, 4, none⟩ (.slice a8 (t.l.length - 1) cap)) (w.heap.size + 1) (.int .i64 t.kind) (.int .i64 t.n) (.string ⟨t.s.toArray⟩) (.slice a9 (t.keys.length - 1) kcap) (.slice a8 (t.l.length - 1) cap)) ∧ BoxIs (set5 (w3.setCell ⟨w.heap.size, 4, none⟩ (.slice a8 (t.l.length - 1) cap)) (w.heap.size + 1) (.int .i64 t.kind) (.int .i64 t.n) (.string ⟨t.s.toArray⟩) (.slice a9 (t.keys.length - 1) kcap) (.slice a8 (t.l.length - 1) cap)) (w.heap.size + 1) (.int .i64 t.kind) (.int .i64 t.n) (.string ⟨t.s.toArray⟩) (.slice a9 (t.keys.length - 1) kcap) (.slice a8 (t.l.length - 1) cap)) := by
      intro w3 a8 cap ho hb
      have g1 : w3.grownBy (w3.setCell ⟨w.heap.size, 4, none⟩ (.slice a8 (t.l.length - 1) cap)) (some w.heap.size) := gb_set (gb_refl _ _) _ _
      have g2 := set5_gb (w3.setCell ⟨w.heap.size, 4, none⟩ (.slice a8 (t.l.length - 1) cap)) (w.heap.size + 1) (.int .i64 t.kind) (.int .i64 t.n) (.string ⟨t.s.toArray⟩) (.slice a9 (t.keys.length - 1) kcap) (.slice a8 (t.l.length - 1) cap)
      have hbx := ((box_bel hb M.out.2.1).grown g1 (by simp)).set (.int .i64 t.kind) (.int .i64 t.n) (.string ⟨t.s.toArray⟩) (.slice a9 (t.keys.length - 1) kcap) (.slice a8 (t.l.length - 1) cap)
      have hbw : Below w.heap.size w w3 := bel_trans M.out.2.2.2.1 hb
      have hb9 : Below w.heap.size w (set5 (w3.setCell ⟨w.heap.size, 4, none⟩ (.slice a8 (t.l.length - 1) cap)) (w.heap.size + 1) (.int .i64 t.kind) (.int .i64 t.n) (.string ⟨t.s.toArray⟩) (.slice a9 (t.keys.length - 1) kcap) (.slice a8 (t.l.length - 1) cap)) := gb_none (gb_set5 (gb_setA (gb_below hbw) (Nat.le_refl _) _ _) (by omega) _ _ _ _ _)
      refine ⟨⟨_, _, by simp only [List.length_append, List.length_take, List.length_drop]; congr 5 <;> omega, KK.out.1, KK.out.2.1, KK.out.2.2.1, ?_, ?_⟩, hb9, hbx⟩
      · have hk3 := own_kept' (own_kept' (own_bel M.out.2.2.1 hb) g1 (by omega)) g2 (by omega)
        have hlen : t.keys.length - 1 = (t.keys.take i ++ t.keys.drop (i + 1)).length := by simp; omega
        refine own_strs (B := w2.heap.size) hlen ?_ ?_ (fun k hk => .inr (by omega)) (by rw [← hlen]; unfold maxLen; omega)
        · rw [List.map_append]; exact hk3
        · intro y hy
          simp only [List.mem_append] at hy
          rcases hy with hy | hy
          · exact KK.out.2.2.2.1.mem y (List.mem_of_mem_take hy)
          · exact KK.out.2.2.2.1.mem y (List.mem_of_mem_drop hy)
      · have ho9 := own_kept' (own_kept' ho g1 (by omega)) g2 (by omega)
        have hlen : t.l.length - 1 = (t.l.take i ++ t.l.drop (i + 1)).length := by simp; omega
        refine own_vals hlen ho9 ?_ (fun k hk => .inr (by omega)) (by rw [← hlen]; unfold maxLen; omega)
        exact (r2.bel (B := w.heap.size) hb9).append (r1.bel (B := w.heap.size) hb9)
    clear r1 r2 s1 s2
    go_upto_region 5 with fail
    go_region_with ((go_at_call 52; refine (con.out _ (by rfl) (by rfl) (by rfl) (by rfl)).mono ?_; rintro e w3 ⟨a8, cap, rfl, ho3, hb3⟩; obtain ⟨p0, p1, p2, p3, p4, -, -, -, p9, p10⟩ := (box_bel hb3 M.out.1).c; obtain ⟨x0, x1, x2, x3, x4, y0, y1, y2, y3, y4⟩ := (box_bel hb3 M.out.2.1).c; have O3 := hidI ho3; have HB3 := hidI hb3; clear ho3 hb3))
    all_goals
      go_wp2_with fail
      obtain ⟨f1, f2, f3⟩ := fin.out _ a8 cap O3.out HB3.out
      obtain ⟨z0, z1, z2, z3, z4, -⟩ := f3.c
      refine bodyPost_ret (v := .agg #[.int .i64 t.kind, .int .i64 t.n, .string ⟨t.s.toArray⟩, .slice a9 (t.keys.length - 1) kcap, .slice a8 (t.l.length - 1) cap]) ?_ rfl ?_
      · simp only [set5] at z0 z1 z2 z3 z4
        simp [results, Tryd.results57, go_sem, z0, z1, z2, z3, z4]
      · exact ⟨_, rfl, f1, f2⟩

theorem without_all (w : World) (ok : Nat → Prop) (d : Nat) (t : V) (v : Value) (key : List UInt8) (h : VIs w ok (d + 1) t v) (hsz : t.l.length ≤ 100000) :
    Calls Tryd.prog 57 #[v, str key] w fun e w' => ∃ r, e = .returned r ∧ VIs w' (okN ok w.heap.size) (d + 1) (withoutV t key) r ∧ Below w.heap.size w w' := by
  unfold withoutV
  cases hf : findV t key with
  | none => exact without_none w ok d t v key h hf
  | some i => exact without_found w ok d t v key i h hf hsz
end Go.Proofs.YtaifciobaapehaaDoor
