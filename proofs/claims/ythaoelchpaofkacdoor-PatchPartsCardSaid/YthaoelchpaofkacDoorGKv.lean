/- Whatever it is handed, PatchParts answers true and leaves all as it was.
   Its conditions: a text or a list takes at most 2^47 - 4096 bytes; the listed package-level variables hold what the program's text lays (the card ties them, over a pruned copy of the project). -/
import Derived.Test.YthaoelchpaofkacDoorGJu
import Derived.Test.YthaoelchpaofkacDoorGSm
import Derived.Deep.DrawnRows
import Derived.Test.YthaoelchpaofkacDoorKz
/- Same of package json does what is said of it. -/
set_option linter.unusedSimpArgs false
set_option linter.unusedVariables false
namespace Go.Proofs.YthaoelchpaofkacDoor
open Go.RowKit

theorem sameJ : SameJ := fun w ok ok' a b va vb ha hb hn => (same_run w ok ok' a b va vb ha hb (by have := nice_cnt hn; omega)).mono fun _ _ h => h
end Go.Proofs.YthaoelchpaofkacDoor

/- Some, and then the others: PatchParts, if Same of package json does what is said of it. -/
set_option linter.unusedSimpArgs false
set_option linter.unusedVariables false
namespace Go.Proofs.YthaoelchpaofkacDoor
open Go.RowKit

set_option maxRecDepth 100000 in
set_option maxHeartbeats 4000000 in
theorem pick_at (w : World) (k : Int) (n : Nat) (hk : I64 k) (h1 : 1 ≤ n) (h2 : n ≤ 1000) :
    Calls Tryd.prog 21 #[.int .i64 k, .int .i64 n] w fun e w' => ∃ j : Nat, j < n ∧ e = .returned (.int .i64 j) ∧ w' = w := by
  have hn0 : ((n : Int) == 0) = false := by rw [beq_eq_false_iff_ne]; omega
  have hn1 : (n : Int) ≠ 0 := by omega
  have hb1 := Int.emod_nonneg k hn1
  have ht1 : -(n : Int) < k.tmod n := by
    have := Int.lt_tmod_of_pos k (show (0 : Int) < n by omega)
    omega
  have ht2 : k.tmod n < n := Int.tmod_lt_of_pos k (by omega)
  have hw : IntKind.i64.wrap (k.tmod n) = k.tmod n := by rw [IntKind.wrap_i64]; omega
  clear hb1
  by_cases hneg : k.tmod n < 0
  · obtain ⟨j, hj⟩ : ∃ j : Nat, k.tmod n + n = j := ⟨(k.tmod n + n).toNat, by omega⟩
    have hjn : j < n := by omega
    have hw2 : IntKind.i64.wrap (k.tmod n + n) = (j : Int) := by rw [IntKind.wrap_i64, ← hj]; omega
    go_enter Tryd.func21, Tryd.ntmps21
    go_wp2_with fail
    go_ret
    exact ⟨j, hjn, rfl, rfl⟩
  · obtain ⟨j, hj⟩ : ∃ j : Nat, k.tmod n = j := ⟨(k.tmod n).toNat, by omega⟩
    have hjn : j < n := by omega
    rw [hj] at hw hneg
    go_enter Tryd.func21, Tryd.ntmps21
    go_wp2_with fail
    go_ret
    exact ⟨j, hjn, rfl, rfl⟩

theorem run_append {f : V → OpT → V × Int} : ∀ (xs ys : List OpT) (t : V), ((runR f xs t).2 ≠ 0 → (runR f (xs ++ ys) t).2 = (runR f xs t).2) ∧ ((runR f xs t).2 = 0 → runR f (xs ++ ys) t = runR f ys (runR f xs t).1)
  | [], ys, t => ⟨fun h => absurd rfl h, fun _ => rfl⟩
  | o :: xs, ys, t => by
    rw [List.cons_append, runR, runR]
    by_cases h : (f t o).2 ≠ 0
    · rw [if_pos h, if_pos h]
      exact ⟨fun _ => rfl, fun e => absurd e h⟩
    · rw [if_neg h, if_neg h]
      exact run_append xs ys (f t o).1
/- What comes of parts, and of all. -/
theorem parts_all {f : V → OpT → V × Int} {os : List OpT} {t x y z : V} {e g h : Int} {k : Nat} (h20 : os.length ≤ 20) (ha : allR f (os.take k) t = (x, e)) (hb : allR f (os.drop k) x = (y, g)) (hc : allR f os t = (z, h)) :
    (e ≠ 0 → h = e ∧ z = t) ∧ (e = 0 → h = g ∧ (g = 0 → y = z) ∧ (g ≠ 0 → z = t)) := by
  have l1 : (os.take k).length ≤ os.length := by simp; omega
  have l2 : (os.drop k).length ≤ os.length := by simp
  unfold allR at ha hb hc
  rw [if_neg (by omega)] at ha hb hc
  obtain ⟨r1, r2⟩ := run_append (f := f) (os.take k) (os.drop k) t
  rw [List.take_append_drop] at r1 r2
  by_cases h1 : (runR f (os.take k) t).2 = 0
  · rw [if_neg (by simp [h1])] at ha
    simp only [Prod.mk.injEq] at ha
    obtain ⟨rfl, rfl⟩ := ha
    rw [r2 h1] at hc
    refine ⟨fun h0 => absurd rfl h0, fun _ => ?_⟩
    by_cases h3 : (runR f (os.drop k) (runR f (os.take k) t).1).2 = 0
    · rw [if_neg (by simp [h3])] at hb hc
      simp only [Prod.mk.injEq] at hb hc
      exact ⟨by rw [← hb.2, ← hc.2], fun _ => by rw [← hb.1, ← hc.1], fun h0 => absurd hb.2.symm h0⟩
    · rw [if_pos h3] at hb hc
      simp only [Prod.mk.injEq] at hb hc
      exact ⟨by rw [← hb.2, ← hc.2], fun h0 => absurd (hb.2.trans h0) h3, fun _ => hc.1.symm⟩
  · rw [if_pos h1] at ha
    simp only [Prod.mk.injEq] at ha
    have h4 := r1 h1
    rw [if_pos (by rw [h4]; exact h1), h4] at hc
    simp only [Prod.mk.injEq] at hc
    refine ⟨fun _ => ⟨by rw [← hc.2, ha.2], hc.1.symm⟩, fun h0 => absurd (ha.2.trans h0) h1⟩
theorem ops_take {w : World} {ok : Nat → Prop} {os : List OpT} {b off c k : Nat} (h : OpsAre w ok os (.slice (some ⟨b, off, none⟩) os.length c)) (hk : k ≤ os.length) : OpsAre w ok (os.take k) (.slice (some ⟨b, off, none⟩) k c) := by
  have hl := h.1
  refine ⟨by simp; omega, ?_⟩
  rcases h.2 with ⟨rfl, a, e⟩ | ⟨b', off', c', e, h1, h2, h3⟩
  · simp only [List.length_nil, Nat.le_zero] at hk
    subst hk
    simp only [Value.slice.injEq] at e
    obtain ⟨-, -, rfl⟩ := e
    exact .inl ⟨rfl, _, rfl⟩
  · simp only [Value.slice.injEq, Option.some.injEq, Addr.mk.injEq, and_true] at e
    obtain ⟨⟨rfl, rfl⟩, -, rfl⟩ := e
    refine .inr ⟨b, off, c, by rw [List.length_take, Nat.min_eq_left hk], by rw [List.length_take]; omega, h2, fun i o ho => h3 i o ?_⟩
    rw [List.getElem?_take] at ho
    split at ho
    · exact ho
    · cases ho
theorem ops_drop {w : World} {ok : Nat → Prop} {os : List OpT} {b off c k : Nat} (h : OpsAre w ok os (.slice (some ⟨b, off, none⟩) os.length c)) (hk : k ≤ os.length) (hc : os.length ≤ c) : OpsAre w ok (os.drop k) (.slice (if c = k then some ⟨b, off, none⟩ else some ⟨b, off + k * 8, none⟩) (os.length - k) (c - k)) := by
  have hl := h.1
  refine ⟨by simp; omega, ?_⟩
  by_cases hck : c = k
  · rw [if_pos hck]
    have hk2 : k = os.length := by omega
    refine .inl ⟨by rw [hk2]; simp, some ⟨b, off, none⟩, ?_⟩
    rw [hck, hk2]; simp
  · rw [if_neg hck]
    rcases h.2 with ⟨rfl, a, e⟩ | ⟨b', off', c', e, h1, h2, h3⟩
    · simp only [List.length_nil, Nat.le_zero] at hk
      subst hk
      simp only [Value.slice.injEq] at e
      obtain ⟨-, -, rfl⟩ := e
      exact absurd rfl hck
    · simp only [Value.slice.injEq, Option.some.injEq, Addr.mk.injEq, and_true] at e
      obtain ⟨⟨rfl, rfl⟩, -, rfl⟩ := e
      refine .inr ⟨b, off + k * 8, c - k, by rw [List.length_drop], by rw [List.length_drop]; omega, by omega, fun i o ho => ?_⟩
      rw [List.getElem?_drop] at ho
      obtain ⟨v0, v1, v2, v3, v4, v5, v6, v7, hk', g0, g1, g2, g3, g4, g5, g6, g7, g8⟩ := h3 (k + i) o ho
      have e9 : off + k * 8 + i * 8 = off + (k + i) * 8 := by omega
      rw [e9]
      exact ⟨v0, v1, v2, v3, v4, v5, v6, v7, hk', g0, g1, g2, g3, g4, g5, g6, g7, g8⟩
/- Behind the first part, and behind the second. -/
def PaA (w : World) (t : V) (r : V × Int) (a1 a2 : Option Addr) (c1 c2 : Nat) (p q : Value) (wc : World) : Prop :=
  ∃ (x : V) (a7 a8 : Option Addr) (c7 c8 g : Nat), r.1 = x ∧ p = .pointer (some ⟨g, 0, none⟩) ∧ q = .int .i64 r.2 ∧ BoxIs wc g (.int .i64 x.kind) (.int .i64 x.n) (.string ⟨x.s.toArray⟩) (.slice a7 x.keys.length c7) (.slice a8 x.l.length c8) ∧ BoxIs wc w.heap.size (.int .i64 t.kind) (.int .i64 t.n) (.string ⟨t.s.toArray⟩) (.slice a1 t.keys.length c1) (.slice a2 t.l.length c2) ∧ Below w.heap.size w wc ∧ In wc (fun _ => True) x (.agg #[.int .i64 x.kind, .int .i64 x.n, .string ⟨x.s.toArray⟩, .slice a7 x.keys.length c7, .slice a8 x.l.length c8])

theorem ops_low {w W : World} {os : List OpT} {v : Value} (h : OpsAre w (fun _ => True) os v) (hb : Below w.heap.size w W) : OpsAre W (fun k => k < w.heap.size) os v := by
  refine ⟨h.1, ?_⟩
  rcases h.2 with h | ⟨b, off, c, e, h1, h2, h3⟩
  · exact .inl h
  · refine .inr ⟨b, off, c, e, h1, h2, fun i o ho => ?_⟩
    obtain ⟨v0, v1, v2, v3, v4, v5, v6, v7, -, g0, g1, g2, g3, g4, g5, g6, g7, g8⟩ := h3 i o ho
    exact ⟨v0, v1, v2, v3, v4, v5, v6, v7, World.block_lt_of_cell? w _ g0, cell_bel hb g0, cell_bel hb g1, cell_bel hb g2, cell_bel hb g3, cell_bel hb g4, cell_bel hb g5, cell_bel hb g6, cell_bel hb g7, (g8.low.bel hb).weak fun k hk => hk.2⟩
theorem part_con (hS : SameJ) {w W0 : World} {t x : V} {xv lv : Value} {os : List OpT} {a1 a2 : Option Addr} {c1 c2 : Nat} (b0 : BoxIs W0 w.heap.size (.int .i64 t.kind) (.int .i64 t.n) (.string ⟨t.s.toArray⟩) (.slice a1 t.keys.length c1) (.slice a2 t.l.length c2)) (hb0 : Below w.heap.size w W0) (hx : In W0 (fun _ => True) x xv) (ho : OpsAre W0 (fun _ => True) os lv) (hM : GlobM W0) :
    (∀ W, W.heap = W0.heap → W.os = W0.os → W.tape = W0.tape → W.output = W0.output → Calls Tryd.prog 13 #[xv, lv] W fun e w' => ∃ (y : V) (a5 a6 : Option Addr) (c5 c6 : Nat), e = .returned (.tuple #[.agg #[.int .i64 y.kind, .int .i64 y.n, .string ⟨y.s.toArray⟩, .slice a5 y.keys.length c5, .slice a6 y.l.length c6], .int .i64 (allR oneR os x).2]) ∧ ∀ wc, wc = w'.alloc (.cells #[.int .i64 y.kind, .int .i64 y.n, .string ⟨y.s.toArray⟩, .slice a5 y.keys.length c5, .slice a6 y.l.length c6] 25) → PaA w t (allR oneR os x) a1 a2 c1 c2 (.pointer (some ⟨w'.heap.size, 0, none⟩)) (.int .i64 (allR oneR os x).2) wc) ∧
    (∀ W, W.heap = (W0.alloc (.cells #[.int .i64 0, .int .i64 0, .string ⟨#[]⟩, .slice none 0 0, .slice none 0 0] 25)).heap → W.os = W0.os → W.tape = W0.tape → W.output = W0.output → Calls Tryd.prog 13 #[xv, lv] W fun e w' => ∃ (y : V) (a5 a6 : Option Addr) (c5 c6 : Nat), e = .returned (.tuple #[.agg #[.int .i64 y.kind, .int .i64 y.n, .string ⟨y.s.toArray⟩, .slice a5 y.keys.length c5, .slice a6 y.l.length c6], .int .i64 (allR oneR os x).2]) ∧ BoxIs w' W0.heap.size (.int .i64 0) (.int .i64 0) (.string ⟨#[]⟩) (.slice none 0 0) (.slice none 0 0) ∧ ∀ wc, wc = set5 w' W0.heap.size (.int .i64 y.kind) (.int .i64 y.n) (.string ⟨y.s.toArray⟩) (.slice a5 y.keys.length c5) (.slice a6 y.l.length c6) → PaA w t (allR oneR os x) a1 a2 c1 c2 (.pointer (some ⟨W0.heap.size, 0, none⟩)) (.int .i64 (allR oneR os x).2) wc) := by
  constructor
  · intro W e1 e2 e3 e4
    have hbW := bel_of0 e1 e2 e3 e4
    refine (all_is oneR W (fun _ => True) x os _ _ (hx.bel hbW) (ho.bel hbW) (hM.bel hbW) (fun _ => all_ok hS os x)).mono ?_
    rintro e w' ⟨r, rfl, hb, hr⟩
    obtain ⟨a5, a6, c5, c6, rfl⟩ := hr.form
    refine ⟨_, a5, a6, c5, c6, rfl, ?_⟩
    rintro wc rfl
    have hbb : ∀ o, Below W0.heap.size W0 (w'.alloc o) := fun o => bel_trans hbW (bel_trans hb (bel_alloc w' o))
    exact ⟨_, a5, a6, c5, c6, w'.heap.size, rfl, rfl, rfl, heap_alloc_new w' _, box_bel (hbb _) b0, bel_trans hb0 (hbb _), (hr.bel (bel_alloc _ _)).weak fun _ _ => trivial⟩
  · intro W e1 e2 e3 e4
    have hbW : Below W0.heap.size W0 W := by
      have := bel_alloc W0 (.cells #[.int .i64 0, .int .i64 0, .string ⟨#[]⟩, .slice none 0 0, .slice none 0 0] 25)
      exact ⟨e2, e3, e4, by rw [e1]; exact this.size, fun k hk => by rw [e1]; exact this.block k hk⟩
    have hsz : W.heap.size = W0.heap.size + 1 := by rw [e1]; simp
    have hol : OpsAre W (fun _ => True) os lv := ho.bel hbW
    refine (all_is oneR W (fun k => k < W0.heap.size) x os _ _ ((hx.low.bel hbW).weak fun k hk => hk.2) (ops_low ho hbW) (hM.bel hbW) (fun _ => all_ok hS os x)).mono ?_
    rintro e w' ⟨r, rfl, hb, hr⟩
    obtain ⟨a5, a6, c5, c6, rfl⟩ := hr.form
    have hbx : BoxIs w' W0.heap.size (.int .i64 0) (.int .i64 0) (.string ⟨#[]⟩) (.slice none 0 0) (.slice none 0 0) := box_bel hb (by unfold BoxIs; rw [e1]; exact heap_alloc_new W0 _)
    refine ⟨_, a5, a6, c5, c6, rfl, hbx, ?_⟩
    rintro wc rfl
    have hbb := bel_trans hbW hb
    have hlt := b0.lt
    have gs := set5_gb w' W0.heap.size (.int .i64 (allR oneR os x).1.kind) (.int .i64 (allR oneR os x).1.n) (.string ⟨(allR oneR os x).1.s.toArray⟩) (.slice a5 (allR oneR os x).1.keys.length c5) (.slice a6 (allR oneR os x).1.l.length c6)
    refine ⟨_, a5, a6, c5, c6, W0.heap.size, rfl, rfl, rfl, hbx.set _ _ _ _ _, (box_bel hbb b0).grown gs (by simp; omega), bel_set5 (bel_trans hb0 hbb) (by have := hb0.size; omega) _ _ _ _ _, (hr.grown gs (fun k hk e => ?_)).weak fun _ _ => trivial⟩
    rcases hk with hk | hk <;> omega

end Go.Proofs.YthaoelchpaofkacDoor

/- Some, and then the others: PatchParts. -/
set_option linter.unusedSimpArgs false
set_option linter.unusedVariables false
namespace Go.Proofs.YthaoelchpaofkacDoor
open Go.RowKit
attribute [local go_sem ↓] Go.wp_at_zero Go.wp_at_succ

set_option maxRecDepth 100000 in
set_option maxHeartbeats 40000000 in
theorem patchParts_walk (hS : SameJ) (w : World) (ok1 : Nat → Prop) (d1 : Nat) (t : V) (v : Value) (h1 : VIs w ok1 d1 t v) (os : List OpT) (ov : Value) (ho : OpsAre w (fun _ => True) os ov) (kk : Int) (hkk : I64 kk) (hM : GlobM w) :
    Calls Tryd.prog 6 #[v, ov, .int .i64 kk] w fun e w' => e = .returned (.bool true) ∧ Below w.heap.size w w' := by
  have h : In w (fun _ => True) t v := h1.is.weak fun _ _ => trivial
  have H := hidI h
  have HMM := hidI hM
  have HO := hidI ho
  have HS := hidI hS
  have olen := ho.1
  obtain ⟨l1, l2, l3⟩ := h.lens
  obtain ⟨a1, a2, c1, c2, rfl⟩ := h.form
  obtain ⟨oa, oc, rfl⟩ := ho.form
  clear h hM h1 ho hS
  by_cases h20 : 20 < os.length
  · have e0 : (20 : Int) < (os.length : Int) := by omega
    have B0 := hidI (bel_alloc w (.cells #[.int .i64 t.kind, .int .i64 t.n, .string ⟨t.s.toArray⟩, .slice a1 t.keys.length c1, .slice a2 t.l.length c2] 25))
    clear h20
    go_enter Tryd.func6, Tryd.ntmps6
    go_wp2_with fail
    refine (patches_at _ (by exact HMM.out.bel B0.out)).mono ?_
    rintro e wp ⟨rfl, hb7⟩
    have B7 := hidI (bel_trans B0.out hb7)
    clear hb7
    go_wp2_with fail
    go_ret
    exact ⟨rfl, B7.out⟩
  · have e0 : ¬ ((20 : Int) < (os.length : Int)) := by omega
    have hw0 : IntKind.i64.wrap ((os.length : Int) + 1) = ((os.length + 1 : Nat) : Int) := by rw [IntKind.wrap_i64]; omega
    go_enter Tryd.func6, Tryd.ntmps6
    go_wp2_with fail
    refine (pick_at _ kk (os.length + 1) hkk (by omega) (by omega)).mono ?_
    rintro e w0 ⟨j, hj, rfl, hw⟩
    subst hw
    have B0 := hidI (bel_alloc w (.cells #[.int .i64 t.kind, .int .i64 t.n, .string ⟨t.s.toArray⟩, .slice a1 t.keys.length c1, .slice a2 t.l.length c2] 25))
    have hparts : ∃ lv rv, OpsAre w (fun _ => True) (os.take j) lv ∧ OpsAre w (fun _ => True) (os.drop j) rv ∧ (oc = 0 ∧ os.length = 0 ∧ j = 0 ∧ lv = .slice oa 0 0 ∧ rv = .slice oa os.length 0 ∨ ∃ b off, oa = some ⟨b, off, none⟩ ∧ os.length ≤ oc ∧ oc ≤ 9223372036854775807 ∧ lv = .slice (some ⟨b, off, none⟩) j oc ∧ rv = .slice (if oc = j then some ⟨b, off, none⟩ else some ⟨b, off + j * 8, none⟩) (os.length - j) (oc - j)) := by
      have ho := HO.out
      rcases HO.out.2 with ⟨e, a, e2⟩ | ⟨b, off, c', e, q1, q2, -⟩
      · have h0 : os.length = 0 := by rw [e]; rfl
        have hj0 : j = 0 := by omega
        simp only [Value.slice.injEq] at e2
        obtain ⟨-, -, rfl⟩ := e2
        refine ⟨_, _, ?_, ?_, .inl ⟨rfl, h0, hj0, rfl, rfl⟩⟩
        · rw [e, List.take_nil]; exact ⟨by simp, .inl ⟨rfl, _, rfl⟩⟩
        · rw [h0, e, List.drop_nil]; exact ⟨by simp, .inl ⟨rfl, _, rfl⟩⟩
      · simp only [Value.slice.injEq] at e
        obtain ⟨rfl, -, rfl⟩ := e
        exact ⟨_, _, ops_take ho (by omega), ops_drop ho (by omega) q1, .inr ⟨b, off, rfl, q1, q2, rfl, rfl⟩⟩
    obtain ⟨lv, rv, hlv, hrv, hcase⟩ := hparts
    have RV := hidI hrv
    have P1 := part_con (w := w) (t := t) HS.out (heap_alloc_new w (.cells #[.int .i64 t.kind, .int .i64 t.n, .string ⟨t.s.toArray⟩, .slice a1 t.keys.length c1, .slice a2 t.l.length c2] 25)) B0.out (H.out.bel B0.out) (hlv.bel B0.out) (HMM.out.bel B0.out)
    have P1a := hidI P1.1
    have P1b := P1.2
    have hsz1 : (w.alloc (.cells #[.int .i64 t.kind, .int .i64 t.n, .string ⟨t.s.toArray⟩, .slice a1 t.keys.length c1, .slice a2 t.l.length c2] 25)).heap.size = w.heap.size + 1 := by simp
    rw [hsz1] at P1b
    replace P1b := hidI P1b
    clear P1 hlv hrv
    obtain ⟨r1, hr1⟩ : ∃ r1, allR oneR (os.take j) t = r1 := ⟨_, rfl⟩
    rw [hr1] at P1a P1b
    have R1 := hidI hr1
    clear hr1
    have j0 : (0 : Int) ≤ (j : Int) := by omega
    have j1 : (j : Int) ≤ (os.length : Int) := by omega
    have HC := hidI hcase
    clear hcase
    obtain ⟨g, hg⟩ : ∃ g, allR oneR os t = g := ⟨_, rfl⟩
    obtain ⟨z, ze⟩ := g
    have RZ := hidI hg
    clear hg
    have HL20 : Hid (os.length ≤ 20) := hidI (by omega)
    go_upto_region 4 with fail
    go_cut [7, 8] (fun p q wc => PaA w t r1 a1 a2 c1 c2 p q wc)
    case first =>
      rcases HC.out with ⟨rfl, e3, rfl, rfl, rfl⟩ | ⟨b, off, rfl, hc1, hc2, rfl, hv3⟩
      · have j6 : (os.length : Int) ≤ 0 := by omega
        clear HC RV RZ HO e3
        go_region_with (first
          | (go_at_call 13; refine (P1a.out _ (by rfl) (by rfl) (by rfl) (by rfl)).mono ?_; rintro e w1 ⟨y, a5, a6, c5, c6, rfl, hfin⟩; have FIN := hidI hfin; clear hfin)
          | (go_at_call 13; refine (P1b.out _ (by rfl) (by rfl) (by rfl) (by rfl)).mono ?_; rintro e w1 ⟨y, a5, a6, c5, c6, rfl, hbx, hfin⟩; obtain ⟨x0, x1, x2, x3, x4, y0, y1, y2', y3, y4⟩ := hbx.c; have FIN := hidI hfin; clear hfin hbx))
        all_goals
          go_wp2_with fail
          go_meet
          case rel => exact FIN.out _ rfl
      · have j5 : (j : Int) ≤ (oc : Int) := by omega
        have j6 : (os.length : Int) ≤ (oc : Int) := by omega
        clear HC hv3 RV RZ HO
        go_region_with (first
          | (go_at_call 13; refine (P1a.out _ (by rfl) (by rfl) (by rfl) (by rfl)).mono ?_; rintro e w1 ⟨y, a5, a6, c5, c6, rfl, hfin⟩; have FIN := hidI hfin; clear hfin)
          | (go_at_call 13; refine (P1b.out _ (by rfl) (by rfl) (by rfl) (by rfl)).mono ?_; rintro e w1 ⟨y, a5, a6, c5, c6, rfl, hbx, hfin⟩; obtain ⟨x0, x1, x2, x3, x4, y0, y1, y2', y3, y4⟩ := hbx.c; have FIN := hidI hfin; clear hfin hbx))
        all_goals
          go_wp2_with fail
          go_meet
          case rel => exact FIN.out _ rfl
    case rest =>
      obtain ⟨wa, hwa⟩ : ∃ wa, wa = wc := ⟨_, rfl⟩
      subst hwa
      obtain ⟨x, a7, a8, c7, c8, gx, hrx, rfl, rfl, k1, k2, k3, k4⟩ := hcut
      have P2 := part_con (w := w) (t := t) HS.out k2 k3 k4 (RV.out.bel k3) (HMM.out.bel k3)
      obtain ⟨r2, hr2⟩ : ∃ r2, allR oneR (os.drop j) x = r2 := ⟨_, rfl⟩
      rw [hr2] at P2
      have P2a := hidI P2.1
      have P2b := hidI P2.2
      have R2 := hidI hr2
      have RX := hidI hrx
      have PA := hidI (parts_all (f := oneR) (os := os) (t := t) (k := j) (x := r1.1) (e := r1.2) (y := r2.1) (g := r2.2) (z := z) (h := ze) HL20.out (by rw [R1.out]) (by rw [RX.out, R2.out]) RZ.out)
      obtain ⟨p0, p1, p2, p3, p4, -⟩ := k1.c
      have bx1 : ∀ o, BoxIs (wa.alloc o) gx (.int .i64 x.kind) (.int .i64 x.n) (.string ⟨x.s.toArray⟩) (.slice a7 x.keys.length c7) (.slice a8 x.l.length c8) := fun o => box_bel (bel_alloc _ o) k1
      have pa0 : ∀ o, (wa.alloc o).cell? ⟨gx, 0, none⟩ = some (.int .i64 x.kind) := fun o => (bx1 o).c.1
      have pa1 : ∀ o, (wa.alloc o).cell? ⟨gx, 1, none⟩ = some (.int .i64 x.n) := fun o => (bx1 o).c.2.1
      have pa2 : ∀ o, (wa.alloc o).cell? ⟨gx, 2, none⟩ = some (.string ⟨x.s.toArray⟩) := fun o => (bx1 o).c.2.2.1
      have pa3 : ∀ o, (wa.alloc o).cell? ⟨gx, 3, none⟩ = some (.slice a7 x.keys.length c7) := fun o => (bx1 o).c.2.2.2.1
      have pa4 : ∀ o, (wa.alloc o).cell? ⟨gx, 4, none⟩ = some (.slice a8 x.l.length c8) := fun o => (bx1 o).c.2.2.2.2.1
      clear P2 hr2 hrx k1 k2 k3 k4 bx1 P1a P1b
      go_upto_region 5 with fail
      go_cut [9, 10] (fun p q wc => PaA w t r2 a1 a2 c1 c2 p q wc)
      case first =>
        rcases HC.out with ⟨rfl, e3, rfl, rfl, rfl⟩ | ⟨b, off, rfl, hc1, hc2, rfl, hv3⟩
        · have j6 : (os.length : Int) ≤ 0 := by omega
          clear HC RV RZ HO PA e3
          go_region_with (first
            | (go_at_call 13; refine (P2a.out _ (by rfl) (by rfl) (by rfl) (by rfl)).mono ?_; rintro e w1 ⟨y, a5, a6, c5, c6, rfl, hfin⟩; have FIN := hidI hfin; clear hfin)
            | (go_at_call 13; refine (P2b.out _ (by rfl) (by rfl) (by rfl) (by rfl)).mono ?_; rintro e w1 ⟨y, a5, a6, c5, c6, rfl, hbx, hfin⟩; obtain ⟨x0, x1, x2, x3, x4, y0, y1, y2', y3, y4⟩ := hbx.c; have FIN := hidI hfin; clear hfin hbx))
          all_goals
            go_wp2_with fail
            go_meet
            case rel => exact FIN.out _ rfl
        · obtain ⟨a9, hifs⟩ : ∃ a9, (if oc = j then (some ⟨b, off, none⟩ : Option Addr) else some ⟨b, off + j * 8, none⟩) = a9 := ⟨_, rfl⟩
          rw [hifs] at hv3
          subst hv3
          have j5 : (j : Int) ≤ (oc : Int) := by omega
          have j6 : (os.length : Int) ≤ (oc : Int) := by omega
          clear HC RV RZ HO PA
          go_region_with (first
            | (go_at_call 13; refine (P2a.out _ (by rfl) (by rfl) (by rfl) (by rfl)).mono ?_; rintro e w1 ⟨y, a5, a6, c5, c6, rfl, hfin⟩; have FIN := hidI hfin; clear hfin)
            | (go_at_call 13; refine (P2b.out _ (by rfl) (by rfl) (by rfl) (by rfl)).mono ?_; rintro e w1 ⟨y, a5, a6, c5, c6, rfl, hbx, hfin⟩; obtain ⟨x0, x1, x2, x3, x4, y0, y1, y2', y3, y4⟩ := hbx.c; have FIN := hidI hfin; clear hfin hbx))
          all_goals
            go_wp2_with fail
            go_meet
            case rel => exact FIN.out _ rfl
      case rest =>
        obtain ⟨wb, hwb⟩ : ∃ wb, wb = wc := ⟨_, rfl⟩
        subst hwb
        obtain ⟨y, a5, a6, c5, c6, gy, hry, rfl, rfl, k1, k2, k3, k4⟩ := hcut
        have K2 : Hid (BoxIs wb gy (.int .i64 y.kind) (.int .i64 y.n) (.string ⟨y.s.toArray⟩) (.slice a5 y.keys.length c5) (.slice a6 y.l.length c6) ∧ BoxIs wb w.heap.size (.int .i64 t.kind) (.int .i64 t.n) (.string ⟨t.s.toArray⟩) (.slice a1 t.keys.length c1) (.slice a2 t.l.length c2) ∧ Below w.heap.size w wb ∧ In wb (fun _ => True) y (.agg #[.int .i64 y.kind, .int .i64 y.n, .string ⟨y.s.toArray⟩, .slice a5 y.keys.length c5, .slice a6 y.l.length c6])) := hidI ⟨k1, k2, k3, k4⟩
        have PB := PA.out
        rw [hry] at PB
        obtain ⟨q0, q1, q2, q3, q4, -⟩ := k2.c
        clear hry k1 k2 k3 k4 P2a P2b p0 p1 p2 p3 p4 pa0 pa1 pa2 pa3 pa4 PA R1 R2 RX RV HC
        obtain ⟨e1, he1⟩ : ∃ e1, r1.2 = e1 := ⟨_, rfl⟩
        obtain ⟨f1, hf1⟩ : ∃ f1, r2.2 = f1 := ⟨_, rfl⟩
        rw [he1, hf1] at PB
        rw [he1, hf1]
        clear he1 hf1
        by_cases h0 : e1 = 0
        · subst h0
          obtain ⟨hh, pb1, pb2⟩ := PB.2 rfl
          subst hh
          by_cases hf : ze = 0
          · subst hf
            have hyz := pb1 rfl
            subst hyz
            clear PB pb1 pb2
            go_wp2_with fail
            refine (all_is oneR _ (fun _ => True) t os _ _ (by exact H.out.bel K2.out.2.2.1) (by exact HO.out.bel K2.out.2.2.1) (by exact HMM.out.bel K2.out.2.2.1) (fun _ => all_ok HS.out os t)).mono ?_
            rintro e w3 ⟨r, rfl, hb3, hr⟩
            rw [RZ.out] at hr ⊢
            simp only at hr ⊢
            obtain ⟨a3, a4, c3, c4, rfl⟩ := hr.form
            have hbb := bel_trans hb3 (bel_alloc w3 (.cells #[.int .i64 y.kind, .int .i64 y.n, .string ⟨y.s.toArray⟩, .slice a3 y.keys.length c3, .slice a4 y.l.length c4] 25))
            have K3 : Hid (BoxIs (w3.alloc (.cells #[.int .i64 y.kind, .int .i64 y.n, .string ⟨y.s.toArray⟩, .slice a3 y.keys.length c3, .slice a4 y.l.length c4] 25)) gy (.int .i64 y.kind) (.int .i64 y.n) (.string ⟨y.s.toArray⟩) (.slice a5 y.keys.length c5) (.slice a6 y.l.length c6) ∧ BoxIs (w3.alloc (.cells #[.int .i64 y.kind, .int .i64 y.n, .string ⟨y.s.toArray⟩, .slice a3 y.keys.length c3, .slice a4 y.l.length c4] 25)) w.heap.size (.int .i64 t.kind) (.int .i64 t.n) (.string ⟨t.s.toArray⟩) (.slice a1 t.keys.length c1) (.slice a2 t.l.length c2) ∧ Below w.heap.size w (w3.alloc (.cells #[.int .i64 y.kind, .int .i64 y.n, .string ⟨y.s.toArray⟩, .slice a3 y.keys.length c3, .slice a4 y.l.length c4] 25)) ∧ In (w3.alloc (.cells #[.int .i64 y.kind, .int .i64 y.n, .string ⟨y.s.toArray⟩, .slice a3 y.keys.length c3, .slice a4 y.l.length c4] 25)) (fun _ => True) y (.agg #[.int .i64 y.kind, .int .i64 y.n, .string ⟨y.s.toArray⟩, .slice a5 y.keys.length c5, .slice a6 y.l.length c6]) ∧ BoxIs (w3.alloc (.cells #[.int .i64 y.kind, .int .i64 y.n, .string ⟨y.s.toArray⟩, .slice a3 y.keys.length c3, .slice a4 y.l.length c4] 25)) w3.heap.size (.int .i64 y.kind) (.int .i64 y.n) (.string ⟨y.s.toArray⟩) (.slice a3 y.keys.length c3) (.slice a4 y.l.length c4) ∧ In (w3.alloc (.cells #[.int .i64 y.kind, .int .i64 y.n, .string ⟨y.s.toArray⟩, .slice a3 y.keys.length c3, .slice a4 y.l.length c4] 25)) (fun _ => True) y (.agg #[.int .i64 y.kind, .int .i64 y.n, .string ⟨y.s.toArray⟩, .slice a3 y.keys.length c3, .slice a4 y.l.length c4])) := hidI ⟨box_bel hbb K2.out.1, box_bel hbb K2.out.2.1, bel_trans K2.out.2.2.1 hbb, K2.out.2.2.2.bel hbb, heap_alloc_new w3 _, (hr.bel (bel_alloc _ _)).weak fun _ _ => trivial⟩
            clear hr hb3 hbb q0 q1 q2 q3 q4
            obtain ⟨p0, p1, p2, p3, p4, -⟩ := K3.out.1.c
            obtain ⟨q0, q1, q2, q3, q4, -⟩ := K3.out.2.1.c
            obtain ⟨r0, r1', r2', r3, r4, -⟩ := K3.out.2.2.2.2.1.c
            go_wp2_with fail
            refine (same_is _ (fun _ => True) (fun _ => True) y _ _ (by exact K3.out.2.2.2.1) (by exact K3.out.2.2.2.2.2)).mono ?_
            rintro e ws ⟨rfl, hb9⟩
            have B9 := hidI (bel_trans K3.out.2.2.1 hb9)
            clear hb9 K3 p0 p1 p2 p3 p4 q0 q1 q2 q3 q4 r0 r1' r2' r3 r4
            go_wp2_with fail
            refine (patches_at _ (by exact HMM.out.bel B9.out)).mono ?_
            rintro e wp ⟨rfl, hb7⟩
            have B7 := hidI (bel_trans B9.out hb7)
            clear hb7
            go_wp2_with fail
            go_ret
            exact ⟨rfl, B7.out⟩
          · have e3 : (ze != 0) = true := by rw [bne_iff_ne]; exact hf
            have e4 : (ze == 0) = false := by rw [beq_eq_false_iff_ne]; exact hf
            have e5 : (ze == ze) = true := by simp
            have htz := (pb2 hf).symm
            subst htz
            clear PB pb1 pb2 hf
            go_wp2_with fail
            refine (all_is oneR _ (fun _ => True) t os _ _ (by exact H.out.bel K2.out.2.2.1) (by exact HO.out.bel K2.out.2.2.1) (by exact HMM.out.bel K2.out.2.2.1) (fun _ => all_ok HS.out os t)).mono ?_
            rintro e w3 ⟨r, rfl, hb3, hr⟩
            rw [RZ.out] at hr ⊢
            simp only at hr ⊢
            obtain ⟨a3, a4, c3, c4, rfl⟩ := hr.form
            have hbb := bel_trans hb3 (bel_alloc w3 (.cells #[.int .i64 t.kind, .int .i64 t.n, .string ⟨t.s.toArray⟩, .slice a3 t.keys.length c3, .slice a4 t.l.length c4] 25))
            have K3 : Hid (BoxIs (w3.alloc (.cells #[.int .i64 t.kind, .int .i64 t.n, .string ⟨t.s.toArray⟩, .slice a3 t.keys.length c3, .slice a4 t.l.length c4] 25)) gy (.int .i64 y.kind) (.int .i64 y.n) (.string ⟨y.s.toArray⟩) (.slice a5 y.keys.length c5) (.slice a6 y.l.length c6) ∧ BoxIs (w3.alloc (.cells #[.int .i64 t.kind, .int .i64 t.n, .string ⟨t.s.toArray⟩, .slice a3 t.keys.length c3, .slice a4 t.l.length c4] 25)) w.heap.size (.int .i64 t.kind) (.int .i64 t.n) (.string ⟨t.s.toArray⟩) (.slice a1 t.keys.length c1) (.slice a2 t.l.length c2) ∧ Below w.heap.size w (w3.alloc (.cells #[.int .i64 t.kind, .int .i64 t.n, .string ⟨t.s.toArray⟩, .slice a3 t.keys.length c3, .slice a4 t.l.length c4] 25)) ∧ In (w3.alloc (.cells #[.int .i64 t.kind, .int .i64 t.n, .string ⟨t.s.toArray⟩, .slice a3 t.keys.length c3, .slice a4 t.l.length c4] 25)) (fun _ => True) y (.agg #[.int .i64 y.kind, .int .i64 y.n, .string ⟨y.s.toArray⟩, .slice a5 y.keys.length c5, .slice a6 y.l.length c6]) ∧ BoxIs (w3.alloc (.cells #[.int .i64 t.kind, .int .i64 t.n, .string ⟨t.s.toArray⟩, .slice a3 t.keys.length c3, .slice a4 t.l.length c4] 25)) w3.heap.size (.int .i64 t.kind) (.int .i64 t.n) (.string ⟨t.s.toArray⟩) (.slice a3 t.keys.length c3) (.slice a4 t.l.length c4) ∧ In (w3.alloc (.cells #[.int .i64 t.kind, .int .i64 t.n, .string ⟨t.s.toArray⟩, .slice a3 t.keys.length c3, .slice a4 t.l.length c4] 25)) (fun _ => True) t (.agg #[.int .i64 t.kind, .int .i64 t.n, .string ⟨t.s.toArray⟩, .slice a3 t.keys.length c3, .slice a4 t.l.length c4])) := hidI ⟨box_bel hbb K2.out.1, box_bel hbb K2.out.2.1, bel_trans K2.out.2.2.1 hbb, K2.out.2.2.2.bel hbb, heap_alloc_new w3 _, (hr.bel (bel_alloc _ _)).weak fun _ _ => trivial⟩
            clear hr hb3 hbb q0 q1 q2 q3 q4
            obtain ⟨p0, p1, p2, p3, p4, -⟩ := K3.out.1.c
            obtain ⟨q0, q1, q2, q3, q4, -⟩ := K3.out.2.1.c
            obtain ⟨r0, r1', r2', r3, r4, -⟩ := K3.out.2.2.2.2.1.c
            go_wp2_with fail
            refine (same_is _ (fun _ => True) (fun _ => True) t _ _ (by exact K3.out.2.2.2.2.2) (by exact H.out.bel K3.out.2.2.1)).mono ?_
            rintro e ws ⟨rfl, hb9⟩
            have B9 := hidI (bel_trans K3.out.2.2.1 hb9)
            clear hb9 K3 p0 p1 p2 p3 p4 q0 q1 q2 q3 q4 r0 r1' r2' r3 r4
            go_wp2_with fail
            refine (patches_at _ (by exact HMM.out.bel B9.out)).mono ?_
            rintro e wp ⟨rfl, hb7⟩
            have B7 := hidI (bel_trans B9.out hb7)
            clear hb7
            go_wp2_with fail
            go_ret
            exact ⟨rfl, B7.out⟩
        · have e3 : (e1 != 0) = true := by rw [bne_iff_ne]; exact h0
          have e4 : (e1 == 0) = false := by rw [beq_eq_false_iff_ne]; exact h0
          obtain ⟨hh, hzt⟩ := PB.1 h0
          subst hh
          have htz := hzt.symm
          subst htz
          have e5 : (ze == ze) = true := by simp
          clear PB h0
          go_wp2_with fail
          refine (all_is oneR _ (fun _ => True) t os _ _ (by exact H.out.bel K2.out.2.2.1) (by exact HO.out.bel K2.out.2.2.1) (by exact HMM.out.bel K2.out.2.2.1) (fun _ => all_ok HS.out os t)).mono ?_
          rintro e w3 ⟨r, rfl, hb3, hr⟩
          rw [RZ.out] at hr ⊢
          simp only at hr ⊢
          obtain ⟨a3, a4, c3, c4, rfl⟩ := hr.form
          have hbb := bel_trans hb3 (bel_alloc w3 (.cells #[.int .i64 t.kind, .int .i64 t.n, .string ⟨t.s.toArray⟩, .slice a3 t.keys.length c3, .slice a4 t.l.length c4] 25))
          have K3 : Hid (BoxIs (w3.alloc (.cells #[.int .i64 t.kind, .int .i64 t.n, .string ⟨t.s.toArray⟩, .slice a3 t.keys.length c3, .slice a4 t.l.length c4] 25)) gy (.int .i64 y.kind) (.int .i64 y.n) (.string ⟨y.s.toArray⟩) (.slice a5 y.keys.length c5) (.slice a6 y.l.length c6) ∧ BoxIs (w3.alloc (.cells #[.int .i64 t.kind, .int .i64 t.n, .string ⟨t.s.toArray⟩, .slice a3 t.keys.length c3, .slice a4 t.l.length c4] 25)) w.heap.size (.int .i64 t.kind) (.int .i64 t.n) (.string ⟨t.s.toArray⟩) (.slice a1 t.keys.length c1) (.slice a2 t.l.length c2) ∧ Below w.heap.size w (w3.alloc (.cells #[.int .i64 t.kind, .int .i64 t.n, .string ⟨t.s.toArray⟩, .slice a3 t.keys.length c3, .slice a4 t.l.length c4] 25)) ∧ In (w3.alloc (.cells #[.int .i64 t.kind, .int .i64 t.n, .string ⟨t.s.toArray⟩, .slice a3 t.keys.length c3, .slice a4 t.l.length c4] 25)) (fun _ => True) y (.agg #[.int .i64 y.kind, .int .i64 y.n, .string ⟨y.s.toArray⟩, .slice a5 y.keys.length c5, .slice a6 y.l.length c6]) ∧ BoxIs (w3.alloc (.cells #[.int .i64 t.kind, .int .i64 t.n, .string ⟨t.s.toArray⟩, .slice a3 t.keys.length c3, .slice a4 t.l.length c4] 25)) w3.heap.size (.int .i64 t.kind) (.int .i64 t.n) (.string ⟨t.s.toArray⟩) (.slice a3 t.keys.length c3) (.slice a4 t.l.length c4) ∧ In (w3.alloc (.cells #[.int .i64 t.kind, .int .i64 t.n, .string ⟨t.s.toArray⟩, .slice a3 t.keys.length c3, .slice a4 t.l.length c4] 25)) (fun _ => True) t (.agg #[.int .i64 t.kind, .int .i64 t.n, .string ⟨t.s.toArray⟩, .slice a3 t.keys.length c3, .slice a4 t.l.length c4])) := hidI ⟨box_bel hbb K2.out.1, box_bel hbb K2.out.2.1, bel_trans K2.out.2.2.1 hbb, K2.out.2.2.2.bel hbb, heap_alloc_new w3 _, (hr.bel (bel_alloc _ _)).weak fun _ _ => trivial⟩
          clear hr hb3 hbb q0 q1 q2 q3 q4
          obtain ⟨p0, p1, p2, p3, p4, -⟩ := K3.out.1.c
          obtain ⟨q0, q1, q2, q3, q4, -⟩ := K3.out.2.1.c
          obtain ⟨r0, r1', r2', r3, r4, -⟩ := K3.out.2.2.2.2.1.c
          go_wp2_with fail
          refine (same_is _ (fun _ => True) (fun _ => True) t _ _ (by exact K3.out.2.2.2.2.2) (by exact H.out.bel K3.out.2.2.1)).mono ?_
          rintro e ws ⟨rfl, hb9⟩
          have B9 := hidI (bel_trans K3.out.2.2.1 hb9)
          clear hb9 K3 p0 p1 p2 p3 p4 q0 q1 q2 q3 q4 r0 r1' r2' r3 r4
          go_wp2_with fail
          refine (patches_at _ (by exact HMM.out.bel B9.out)).mono ?_
          rintro e wp ⟨rfl, hb7⟩
          have B7 := hidI (bel_trans B9.out hb7)
          clear hb7
          go_wp2_with fail
          go_ret
          exact ⟨rfl, B7.out⟩
end Go.Proofs.YthaoelchpaofkacDoor

/- What PatchParts stands on. -/

set_option linter.unusedSimpArgs false
set_option linter.unusedVariables false
namespace Go.Proofs.YthaoelchpaofkacDoor.patchParts
open Go.ChangeShapes Go.WideShapes Go.ChangeAt Go.RowKit
open Go.ChangeMaps (open_string shut_string)

set_option maxRecDepth 100000 in
theorem contract (H : Type) (enc : TypeId × Value → H) (W : World) (base : Nat) (args : Array Value) (ds gs : List (DataW H)) (before : List MemPlace)
    (hval : ∀ (j : Nat) t v, Tryd.f6.params[j]? = some t → args[j]? = some v → Value.okWide Tryd.prog W .any base t v)
    (hW : DataW.Whole enc Tryd.prog Tryd.f6.params.toList Rows.patchPartsSpec.vars false W args.toList ds gs before)
    (hZ : (DataW.weightsEach Tryd.prog (Tryd.f6.params.toList ++ (OpenSpec.ofChange Rows.patchPartsSpec).bare.plain.varTypes Tryd.prog) (ds ++ gs)).all (· ≤ reachBytes) = true) (hS : W.ShapedOpen Tryd.prog) :
    Calls Tryd.prog 6 args W fun e W' => ∃ v, e = .returned v ∧ Rows.patchPartsSpec.post enc Tryd.prog Tryd.f6 false true false false W args v W' := by
  have hW' := hW
  obtain ⟨p, q, hA0, hV, rfl, hfz, hnd⟩ := hW
  have hA : DataW.TrodAll enc Tryd.prog W 0 (fun _ => true) true Tryd.f6.params.toList args.toList ds p := hA0
  rw [Tryd.params6] at hA hval
  obtain ⟨v0, vs0, d0, ds0, p0, q0, hargs0, rfl, rfl, h0, r0⟩ := trodAll_cons hA
  obtain ⟨v1, vs1, d1, ds1, p1, q1, hargs1, rfl, rfl, h1, r1⟩ := trodAll_cons r0
  obtain ⟨v2, vs2, d2, ds2, p2, q2, hargs2, rfl, rfl, h2, r2⟩ := trodAll_cons r1
  obtain ⟨rfl, rfl, rfl⟩ := trodAll_nil r2
  subst hargs1
  subst hargs2
  have hargs : args = #[v0, v1, v2] := by
    obtain ⟨l⟩ := args
    exact congrArg Array.mk hargs0
  subst hargs
  obtain ⟨rfl, rfl⟩ := trodVars_none hV
  have k0 : Value.okWide Tryd.prog W .any base 25 v0 := hval 0 _ _ (by simp) (by simp)
  have k1 : Value.okWide Tryd.prog W .any base 26 v1 := hval 1 _ _ (by simp) (by simp)
  have k2 : Value.okWide Tryd.prog W .any base 3 v2 := hval 2 _ _ (by simp) (by simp)
  obtain ⟨f0, t0, hv0⟩ := arg_value k0 h0
  obtain ⟨os1, hv1⟩ := arg_ops k1 h1 (fun n hn => of_decide_eq_true (List.all_eq_true.1 hZ n (DataW.weights_mem_each (j := 1) (by rw [Tryd.params6]; rfl) rfl n hn)))
  obtain ⟨n2, rfl, rfl, rfl, wn2⟩ := open_int Tryd.underlying3 k2 h2
  clear hA0
  simp only [List.append_nil] at hW'
  have walk := patchParts_walk sameJ W (fun _ => True) f0 t0 v0 hv0 os1 v1 hv1 n2 (int_wf wn2) (glob_pt hS)
  refine walk.mono fun e W' ⟨he, hg⟩ => ?_
  subst he
  have ef : Rows.patchPartsSpec.fn H ([d0, d1, .lit (.int .i64 n2)] ++ []) = { results := [.lit (.bool true)], args := [d0, d1, .lit (.int .i64 n2)] } := rfl
  refine ⟨_, rfl, _, _, _, [], (p0 ++ (p1 ++ ([] ++ []))), [], hW', ?_, ?_, ?_, hg.frame _, fun h => by cases h⟩
  · rw [ef]; exact trodAll_mk1 (shut_bool Tryd.underlying4 _)
  · rw [ef, Tryd.params6]; exact trodAll_cons_mk (Below.trod laidOut readableV rowedV h0 hg (trod_old h0)) (trodAll_cons_mk (Below.trod laidOut readableO rowedO h1 hg (trod_old h1)) (trodAll_cons_mk (shut_int Tryd.underlying3 wn2) (trodAll_mk0)))
  · rw [ef]; rfl

set_option maxRecDepth 100000 in
theorem reads (os : Os) {H : Type} (enc : TypeId × Value → H) : ∃ places, DataW.whole enc Tryd.prog ((ptWorld os).forCall (fun _ _ => 0) ⟨#[], #[.agg #[.int .i64 0, .int .i64 0, .string ⟨#[]⟩, .slice none 0 0, .slice none 0 0], .slice none 0 0, .int .i64 0], []⟩).memory Tryd.f6.params.toList Rows.patchPartsSpec.vars false #[Value.agg #[.int .i64 0, .int .i64 0, .string ⟨#[]⟩, .slice none 0 0, .slice none 0 0], Value.slice none 0 0, Value.int .i64 0].toList 8 = some ([.agg [.lit (.int .i64 0), .lit (.int .i64 0), .lit (.string []), .nil, .nil], .nil, .lit (.int .i64 0)], [], places) :=
  ⟨[], by kernel_rfl⟩

set_option maxRecDepth 100000 in
theorem lifted (os : Os) (started : os.Started) (H : Type) (enc : TypeId × Value → H) (F : Stop.Interp) :
    ReturnsInHanded {} Tryd.checked os 6 .any ((OpenSpec.ofChange Rows.patchPartsSpec).preRow enc Tryd.prog Tryd.f6 Rows.patchPartsRow.domain false Rows.patchPartsRow.laid) (((OpenSpec.ofChange Rows.patchPartsSpec).at F).post enc Tryd.prog Tryd.f6 false true false false) := by
  obtain ⟨places, hx⟩ := reads os enc
  refine returnsInHanded_of_row (C := Tryd.checked) (s := OpenSpec.ofChange Rows.patchPartsSpec) own started (by kernel_rfl) Tryd.func6
    (witness_row_at (enc := enc) (C := Tryd.checked) false (ptWorld os) #[.agg #[.int .i64 0, .int .i64 0, .string ⟨#[]⟩, .slice none 0 0, .slice none 0 0], .slice none 0 0, .int .i64 0] rfl (by kernel_rfl) (by kernel_rfl) (by kernel_rfl)
      (OpenSpec.preRow_of_cond 8 hx (by kernel_rfl) (fun k hk => by cases hk) (by kernel_rfl) (pt_met os _))) ?_
  intro W base args ds gs before hval hW _ _ hZ hL hS _
  exact contract H enc W base args ds gs before hval hW hZ hS

theorem said : Rows.PatchPartsSaid :=
  OpenClaim.holds_of_cond 6 Tryd.f6 rfl rfl rfl rfl rfl rfl rfl ⟨rfl, rfl, rfl, rfl, rfl⟩ rfl rfl rfl rfl rfl (by kernel_rfl) Tryd.func6 (by kernel_rfl)
    (of_decide_eq_true (by kernel_rfl)) (by unfold Func.isWrapper; first | (rw [if_pos (by decide +kernel)]; kernel_rfl) | (rw [if_neg (by decide +kernel)]; exact ⟨rfl, rfl⟩))
    (fun os started H enc _ F => by rw [OpenClaim.pre_eq_preRow]; exact lifted os started H enc F)

theorem plain (f : FuncId) (fn : Func) (hf : Tryd.pinned.checked.prog.funcNamed "stairwell/stairwellkeep.PatchParts" = some f) (hfn : Tryd.pinned.checked.prog.funcs[f]? = some fn) :
    false = Tryd.pinned.checked.prog.looks [] ∧ ∀ (j : Nat) t, fn.params[j]? = some t → Tryd.pinned.checked.prog.wantsStandIn t = false := by
  obtain rfl : f = 6 := Option.some.inj ((show Tryd.prog.funcNamed "stairwell/stairwellkeep.PatchParts" = some 6 by kernel_rfl).symm.trans hf) |>.symm
  obtain rfl : fn = Tryd.f6 := (Option.some.inj (Tryd.func6.symm.trans hfn)).symm
  refine ⟨by kernel_rfl, fun j t ht => ?_⟩
  rw [Tryd.params6] at ht
  have hm := Array.mem_of_getElem? ht
  simp only [Array.mem_def, List.mem_cons, List.not_mem_nil, or_false] at hm
  rcases hm with rfl | rfl | rfl
  · exact (show Tryd.prog.wantsStandIn 25 = false by kernel_rfl)
  · exact (show Tryd.prog.wantsStandIn 26 = false by kernel_rfl)
  · exact (show Tryd.prog.wantsStandIn 3 = false by kernel_rfl)

theorem card : Rows.PatchPartsCardSaid :=
  Claim7.holds_tied_plain_at .later [] _ _ _ _ said (fun _ h => by cases h) (by kernel_rfl) (fun _ h => by cases h) patchParts_row_tie rfl ⟨rfl, rfl⟩ (by kernel_rfl) rfl plain (by kernel_rfl)
end Go.Proofs.YthaoelchpaofkacDoor.patchParts
