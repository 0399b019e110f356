/- What With of package json does where the key is not there. -/
import Derived.Test.YtkboplcffailoaaDoorCg
import Derived.Deep.DeepCutAuto
import Derived.Deep.CutBlock
import Derived.Deep.DrawnRows
set_option linter.unusedSimpArgs false
set_option linter.unusedVariables false
namespace Go.Proofs.YtkboplcffailoaaDoor
open Go.RowKit
attribute [local go_sem ↓] Go.wp_at_zero Go.wp_at_succ

/- Where a key belongs. -/
def insAt (key : List UInt8) (keys : List (List UInt8)) : Nat := (keys.takeWhile fun a => Op.bytesLess a key).length
theorem insAt_le (key : List UInt8) (keys : List (List UInt8)) : insAt key keys ≤ keys.length := (List.takeWhile_sublist _).length_le
theorem insAt_step {key a : List UInt8} {keys : List (List UInt8)} {k : Nat} (h : keys[k]? = some a) (hk : k ≤ insAt key keys) (hl : Op.bytesLess a key = true) : k < insAt key keys := by
  induction keys generalizing k with
  | nil => simp at h
  | cons b keys ih =>
    unfold insAt at hk ⊢
    rw [List.takeWhile_cons] at hk ⊢
    cases k with
    | zero => simp at h; subst h; simp [hl]
    | succ k =>
      split at hk
      · rename_i hb
        rw [if_pos hb]
        simp only [List.length_cons] at hk ⊢
        have := ih (k := k) (by simpa using h) (by unfold insAt; omega)
        unfold insAt at this; omega
      · simp at hk
theorem insAt_end {key a : List UInt8} {keys : List (List UInt8)} {k : Nat} (h : keys[k]? = some a) (hk : k ≤ insAt key keys) (hl : Op.bytesLess a key = false) : k = insAt key keys := by
  induction keys generalizing k with
  | nil => simp at h
  | cons b keys ih =>
    unfold insAt at hk ⊢
    rw [List.takeWhile_cons] at hk ⊢
    cases k with
    | zero => simp at h; subst h; simp [hl]
    | succ k =>
      split at hk
      · rename_i hb
        rw [if_pos hb]
        simp only [List.length_cons] at hk ⊢
        have := ih (k := k) (by simpa using h) (by unfold insAt; omega)
        unfold insAt at this; omega
      · simp at hk

/- Behind the keys' Concat. -/
def MidI (w w2 : World) (t x : V) (key : List UInt8) (at_ : Nat) (a2 a7 a8 : Option Addr) (c2 c7 c8 : Nat) (wc : World) : Prop :=
  ∃ g cap, BoxIs wc w.heap.size (.int .i64 t.kind) (.int .i64 t.n) (.string ⟨t.s.toArray⟩) (.slice (some ⟨g, 0, none⟩) (t.keys.length + 1) cap) (.slice a2 t.l.length c2) ∧
    BoxIs wc (w.heap.size + 1) (.int .i64 x.kind) (.int .i64 x.n) (.string ⟨x.s.toArray⟩) (.slice a7 x.keys.length c7) (.slice a8 x.l.length c8) ∧
    BoxIs wc (w.heap.size + 2) (.int .i64 0) (.int .i64 0) (.string ⟨#[]⟩) (.slice none 0 0) (.slice none 0 0) ∧
    wc.ownsRow w2.heap.size 9 1 (.slice (some ⟨g, 0, none⟩) (t.keys.length + 1) cap) (t.keys.length + 1) ((t.keys.take at_).map str ++ [str key] ++ (t.keys.drop at_).map str) ∧
    Below w.heap.size w wc ∧ w2.heap.size ≤ wc.heap.size

theorem own_bel {w w' : World} {B : Nat} {e : TypeId} {size : Nat} {v : Value} {n : Nat} {xs : List Value} (h : w.ownsRow B e size v n xs) (hb : Below w.heap.size w w') : w'.ownsRow B e size v n xs := h.kept (gb_below (r := none) hb) (by cases v.ownBlock <;> simp)
theorem StrsAre.mem {w : World} {ok : Nat → Prop} {xs : List (List UInt8)} {v : Value} (h : StrsAre w ok xs v) (y : List UInt8) (hy : y ∈ xs) : y.length ≤ maxLen := by
  rcases h.2 with ⟨e, _⟩ | ⟨b, off, c, e, h1, h2, h3⟩
  · rw [e] at hy; simp at hy
  · obtain ⟨i, hi⟩ := List.getElem?_of_mem hy
    exact (h3 i y hi).1
theorem box_set3 {w : World} {g : Nat} {c0 c1 c2 c3 c4 : Value} (h : BoxIs w g c0 c1 c2 c3 c4) (v : Value) : BoxIs (w.setCell ⟨g, 3, none⟩ v) g c0 c1 c2 v c4 := heap_set h 3 v
theorem box_set4 {w : World} {g : Nat} {c0 c1 c2 c3 c4 : Value} (h : BoxIs w g c0 c1 c2 c3 c4) (v : Value) : BoxIs (w.setCell ⟨g, 4, none⟩ v) g c0 c1 c2 c3 v := heap_set h 4 v

set_option maxRecDepth 100000 in
set_option maxHeartbeats 40000000 in
theorem with_new (w : World) (ok : Nat → Prop) (d : Nat) (t x : V) (v xv : Value) (key : List UInt8) (h : VIs w ok (d + 1) t v) (hx : VIs w ok d x xv) (hf : findV t key = none) (hp : pairedV t = true) (hsz : t.l.length ≤ 100000) (hkey : key.length ≤ maxLen) :
    Calls Tryd.prog 53 #[v, str key, xv] w fun e w' => ∃ r, e = .returned r ∧ VIs w' (okN ok w.heap.size) (d + 1) { t with keys := t.keys.take (insAt key t.keys) ++ key :: t.keys.drop (insAt key t.keys), l := t.l.take (insAt key t.keys) ++ x :: t.l.drop (insAt key t.keys) } r ∧ Below w.heap.size w w' := by
  have H := hidI h
  have HX := hidI hx
  obtain ⟨ks, ls, rfl, h1, h2, h3, h4, h5⟩ := h
  have KK : Hid (I64 t.kind ∧ I64 t.n ∧ t.s.length ≤ maxLen ∧ StrsAre w ok t.keys ks ∧ ValsAre w ok (VIs w ok d) t.l ls) := ⟨h1, h2, h3, h4, h5⟩
  obtain ⟨a1, c1, rfl⟩ := h4.form
  obtain ⟨a2, c2, rfl⟩ := h5.form
  have l1 := h4.1
  have l2 := h5.1
  have F := hidI hf
  have FP := hidI hp
  have hkl : t.keys.length = t.l.length := by
    simp only [pairedV, Bool.and_eq_true, decide_eq_true_eq] at hp; exact hp.2
  have HKL := hidI hkl
  have hkl1 : t.keys.length ≤ t.l.length := by omega
  have hkl2 : t.l.length ≤ t.keys.length := by omega
  clear hf hp hkl
  obtain ⟨xk, xl, hxv⟩ : ∃ xk xl, xv = .agg #[.int .i64 x.kind, .int .i64 x.n, str x.s, xk, xl] := by
    match d, hx with
    | d + 1, hx => obtain ⟨ks, ls, e, _⟩ := hx; exact ⟨ks, ls, e⟩
  subst hxv
  obtain ⟨-, -, -, ⟨a7, c7, rfl⟩, ⟨a8, c8, rfl⟩⟩ := hx.agg
  unfold maxLen at l1 h3 l2
  unfold str
  clear h4 h5 h1 h2 hx
  go_enter Tryd.func53, Tryd.ntmps53
  go_wp2_with fail
  refine (paired_at _ ok _ t _ (by exact H.out.bel (bel_trans (bel_trans (bel_alloc _ _) (bel_alloc _ _)) (bel_alloc _ _)))).mono ?_
  rintro e w1 ⟨rfl, hb1⟩
  rw [FP.out]
  have bx : Hid (BoxIs w1 w.heap.size (.int .i64 t.kind) (.int .i64 t.n) (.string ⟨t.s.toArray⟩) (.slice a1 t.keys.length c1) (.slice a2 t.l.length c2) ∧ BoxIs w1 (w.heap.size + 1) (.int .i64 x.kind) (.int .i64 x.n) (.string ⟨x.s.toArray⟩) (.slice a7 x.keys.length c7) (.slice a8 x.l.length c8) ∧ BoxIs w1 (w.heap.size + 2) (.int .i64 0) (.int .i64 0) (.string ⟨#[]⟩) (.slice none 0 0) (.slice none 0 0)) := ⟨box_bel hb1 (h3a w _ _ _), box_bel hb1 (h3b w _ _ _), box_bel hb1 (h3c w _ _ _)⟩
  obtain ⟨p0, p1, p2, p3, p4, -, -, -, p9, p10⟩ := bx.out.1.c
  have B1 : Hid (Below w.heap.size w w1) := bel_trans (bel_trans (bel_trans (bel_alloc _ _) (bel_alloc _ _)) (bel_alloc _ _)) hb1
  clear hb1
  go_wp2_with fail
  refine (find_at _ ok _ t _ key (by exact H.out.bel B1.out)).mono ?_
  rintro e w2 ⟨rfl, hb2⟩
  rw [F.out]
  have bx2 : Hid (BoxIs w2 w.heap.size (.int .i64 t.kind) (.int .i64 t.n) (.string ⟨t.s.toArray⟩) (.slice a1 t.keys.length c1) (.slice a2 t.l.length c2) ∧ BoxIs w2 (w.heap.size + 1) (.int .i64 x.kind) (.int .i64 x.n) (.string ⟨x.s.toArray⟩) (.slice a7 x.keys.length c7) (.slice a8 x.l.length c8) ∧ BoxIs w2 (w.heap.size + 2) (.int .i64 0) (.int .i64 0) (.string ⟨#[]⟩) (.slice none 0 0) (.slice none 0 0)) := ⟨box_bel hb2 bx.out.1, box_bel hb2 bx.out.2.1, box_bel hb2 bx.out.2.2⟩
  have B2 : Hid (Below w.heap.size w w2) := bel_trans B1.out hb2
  have hsz2 : w.heap.size + 2 < w2.heap.size := bx2.out.2.2.lt
  clear hb2 p0 p1 p2 p3 p4 p9 p10 bx B1
  unfold optI
  obtain ⟨p0, p1, p2, p3, p4, -, -, -, p9, p10⟩ := bx2.out.1.c
  obtain ⟨q0, q1, q2, q3, q4, -⟩ := bx2.out.2.1.c
  go_upto_block 0 with fail
  go_cut [8] (fun i wc => i = .int .i64 (insAt key t.keys : Nat) ∧ wc = w2)
  case first =>
    go_wp2_with fail
    go_loopg [8] t.keys.length (fun g i wr => ∃ k : Nat, k ≤ insAt key t.keys ∧ g = t.keys.length - k ∧ i = .int .i64 k ∧ wr = w2)
    case atStart => exact ⟨0, Nat.zero_le _, rfl, rfl, rfl⟩
    case round =>
      obtain ⟨k, hk, hgk, rfl, rfl⟩ := hrel
      have GK := hidI hgk
      have hia := insAt_le key t.keys
      clear hgk
      by_cases hlt : k < t.keys.length
      · obtain ⟨_, K4⟩ := KK.out.2.2.2.1
        rcases K4 with ⟨e, _⟩ | ⟨kb, ko, kc, hks, hc1, hc2, hcs⟩
        · rw [e] at hlt; simp at hlt
        simp only [Value.slice.injEq] at hks
        obtain ⟨rfl, -, rfl⟩ := hks
        have hc := cell_bel B2.out (hcs k t.keys[k] (List.getElem?_eq_getElem hlt)).2.2
        clear hcs
        unfold str at hc
        cases hless : Op.bytesLess t.keys[k] key with
        | true =>
          have hk1 : k < insAt key t.keys := insAt_step (List.getElem?_eq_getElem hlt) hk hless
          go_wp2_with fail
          go_roundg (t.keys.length - (k + 1))
          case measure => rw [GK.out]; omega
          case rel => exact ⟨k + 1, hk1, rfl, by go_num, rfl⟩
        | false =>
          have hk1 : k = insAt key t.keys := insAt_end (List.getElem?_eq_getElem hlt) hk hless
          have HK1 := hidI hk1
          clear hk1
          go_wp2_with fail
          go_meet
          case rel => exact ⟨by rw [← HK1.out], rfl⟩
      · have hk1 : k = insAt key t.keys := by omega
        have HK1 := hidI hk1
        clear hk1
        go_wp2_with fail
        go_meet
        case rel => exact ⟨by rw [← HK1.out], rfl⟩
  case rest =>
    obtain ⟨rfl, hw⟩ := hcut
    have hw' := hw.symm
    clear hw
    subst hw'
    have hia := insAt_le key t.keys
    obtain ⟨at_, hat⟩ : ∃ a, insAt key t.keys = a := ⟨_, rfl⟩
    rw [hat] at hia ⊢
    have HAT := hidI hat
    clear hat
    have j0 : (0 : Int) ≤ (at_ : Int) := by omega
    have j1 : (at_ : Int) ≤ (t.keys.length : Int) := by omega
    have j2 : (at_ : Int) ≤ (t.l.length : Int) := by omega
    have fin10 : Hid (∀ w3 g cap, w3.ownsRow w2.heap.size 9 1 (.slice (some ⟨g, 0, none⟩) (t.keys.length + 1) cap) (t.keys.length + 1) ((t.keys.take at_).map str ++ [.string ⟨key.toArray⟩] ++ (t.keys.drop at_).map str) → Below w2.heap.size w2 w3 →
        MidI w w2 t x key at_ a2 a7 a8 c2 c7 c8 (w3.setCell ⟨w.heap.size, 3, none⟩ (.slice (some ⟨g, 0, none⟩) (t.keys.length + 1) cap))) := by
      intro w3 g cap ho hb
      have g1 : w3.grownBy (w3.setCell ⟨w.heap.size, 3, none⟩ (.slice (some ⟨g, 0, none⟩) (t.keys.length + 1) cap)) (some w.heap.size) := gb_set (gb_refl _ _) _ _
      refine ⟨g, cap, box_set3 (box_bel hb bx2.out.1) _, (box_bel hb bx2.out.2.1).grown g1 (by simp), (box_bel hb bx2.out.2.2).grown g1 (by simp), own_kept' ho g1 (by omega), ?_, Nat.le_trans hb.size g1.size⟩
      exact gb_none (gb_setA (gb_below (bel_trans B2.out hb)) (Nat.le_refl _) _ _)
    go_upto_region 10 with fail
    go_cut [8] (fun i wc' => i = .int .i64 (at_ : Nat) ∧ MidI w w2 t x key at_ a2 a7 a8 c2 c7 c8 wc')
    case first =>
      have k3 : ∀ o, (w2.alloc o).cell? ⟨w.heap.size, 3, none⟩ = some (.slice a1 t.keys.length c1) := fun o => (box_bel (bel_alloc w2 o) bx2.out.1).c.2.2.2.1
      obtain ⟨_, K4⟩ := KK.out.2.2.2.1
      rcases K4 with ⟨e, e2⟩ | ⟨kb, ko, kc, hks, hc1, hc2, hcs⟩
      · obtain ⟨a0, e2⟩ := e2
        simp only [Value.slice.injEq] at e2
        obtain ⟨-, e3, e6⟩ := e2
        subst e6
        have E3 : Hid (t.keys.length = 0 ∧ t.keys = []) := ⟨e3, e⟩
        have j4 : (t.keys.length : Int) ≤ 0 := by omega
        have e7 : at_ = 0 := by omega
        clear e e3
        subst e7
        have con : Hid (∀ W, W.heap = ((w2.alloc (.cells #[.string ⟨key.toArray⟩] 9)).alloc (.cells #[.slice a1 0 0, .slice (some ⟨w2.heap.size, 0, none⟩) 1 1, .slice a1 t.keys.length 0] 22)).heap → W.os = w2.os → W.tape = w2.tape → W.output = w2.output →
            Calls Tryd.prog 68 #[.slice (some ⟨w2.heap.size + 1, 0, none⟩) 3 3] W fun e w' => ∃ g cap, e = .returned (.slice (some ⟨g, 0, none⟩) (t.keys.length + 1) cap) ∧ w'.ownsRow w2.heap.size 9 1 (.slice (some ⟨g, 0, none⟩) (t.keys.length + 1) cap) (t.keys.length + 1) ((t.keys.take 0).map str ++ [.string ⟨key.toArray⟩] ++ (t.keys.drop 0).map str) ∧ Below w2.heap.size w2 w') := by
          intro W e1 e2 e4 e5
          obtain ⟨q1, q2⟩ := E3.out
          rw [q1] at e1
          rw [q2]
          simp only [List.take_nil, List.drop_nil, List.map_nil, List.length_nil]
          exact conS3 ⟨key.toArray⟩ (slnil w2 1 a1) (slnil w2 1 a1) rfl (by simp) W e1 e2 e4 e5
        go_region_with ((go_at_call 68; refine (con.out _ (by rfl) (by rfl) (by rfl) (by rfl)).mono ?_; rintro e w3 ⟨g, cap, rfl, ho3, hb3⟩; obtain ⟨p0, p1, p2, p3, p4, -, -, -, p9, p10⟩ := (box_bel hb3 bx2.out.1).c; have O3 := hidI ho3; have HB3 := hidI hb3; clear ho3 hb3))
        all_goals
          go_wp2_with fail
          go_meet
          case rel => exact ⟨rfl, fin10.out _ _ _ O3.out HB3.out⟩
      · simp only [Value.slice.injEq] at hks
        obtain ⟨rfl, -, rfl⟩ := hks
        clear hcs
        unfold maxLen at hc2
        have j3 : (at_ : Int) ≤ (c1 : Int) := by omega
        have j4 : (t.keys.length : Int) ≤ (c1 : Int) := by omega
        obtain ⟨s1, s2⟩ := ss_parts KK.out.2.2.2.1 at_ at_ (Nat.le_refl _) hia (by omega)
        obtain ⟨a3, hifs⟩ : ∃ a3, (if c1 = at_ then (some ⟨kb, ko, none⟩ : Option Addr) else some ⟨kb, ko + at_, none⟩) = a3 := ⟨_, rfl⟩
        rw [Nat.mul_one, hifs] at s2
        have con : Hid (∀ W, W.heap = ((w2.alloc (.cells #[.string ⟨key.toArray⟩] 9)).alloc (.cells #[.slice (some ⟨kb, ko, none⟩) at_ c1, .slice (some ⟨w2.heap.size, 0, none⟩) 1 1, .slice a3 (t.keys.length - at_) (c1 - at_)] 22)).heap → W.os = w2.os → W.tape = w2.tape → W.output = w2.output →
            Calls Tryd.prog 68 #[.slice (some ⟨w2.heap.size + 1, 0, none⟩) 3 3] W fun e w' => ∃ g cap, e = .returned (.slice (some ⟨g, 0, none⟩) (t.keys.length + 1) cap) ∧ w'.ownsRow w2.heap.size 9 1 (.slice (some ⟨g, 0, none⟩) (t.keys.length + 1) cap) (t.keys.length + 1) ((t.keys.take at_).map str ++ [.string ⟨key.toArray⟩] ++ (t.keys.drop at_).map str) ∧ Below w2.heap.size w2 w') := by
          intro W e1 e2 e4 e5
          exact conS3 ⟨key.toArray⟩ (s1.bel B2.out) (s2.bel B2.out) (by omega) (by omega) W e1 e2 e4 e5
        clear s1 s2
        go_region_with ((go_at_call 68; refine (con.out _ (by rfl) (by rfl) (by rfl) (by rfl)).mono ?_; rintro e w3 ⟨g, cap, rfl, ho3, hb3⟩; obtain ⟨p0, p1, p2, p3, p4, -, -, -, p9, p10⟩ := (box_bel hb3 bx2.out.1).c; have O3 := hidI ho3; have HB3 := hidI hb3; clear ho3 hb3))
        all_goals
          go_wp2_with fail
          go_meet
          case rel => exact ⟨rfl, fin10.out _ _ _ O3.out HB3.out⟩
    case rest =>
      obtain ⟨rfl, gk, kcap, hm1, hm2, hm3, hm4, hm5, hm6⟩ := hcut
      have M : Hid (BoxIs wc w.heap.size (.int .i64 t.kind) (.int .i64 t.n) (.string ⟨t.s.toArray⟩) (.slice (some ⟨gk, 0, none⟩) (t.keys.length + 1) kcap) (.slice a2 t.l.length c2) ∧ BoxIs wc (w.heap.size + 1) (.int .i64 x.kind) (.int .i64 x.n) (.string ⟨x.s.toArray⟩) (.slice a7 x.keys.length c7) (.slice a8 x.l.length c8) ∧ BoxIs wc (w.heap.size + 2) (.int .i64 0) (.int .i64 0) (.string ⟨#[]⟩) (.slice none 0 0) (.slice none 0 0) ∧ wc.ownsRow w2.heap.size 9 1 (.slice (some ⟨gk, 0, none⟩) (t.keys.length + 1) kcap) (t.keys.length + 1) ((t.keys.take at_).map str ++ [str key] ++ (t.keys.drop at_).map str) ∧ Below w.heap.size w wc ∧ w2.heap.size ≤ wc.heap.size) := ⟨hm1, hm2, hm3, hm4, hm5, hm6⟩
      clear hm1 hm2 hm3 hm4 hm5 fin10 p0 p1 p2 p3 p4 p9 p10 q0 q1 q2 q3 q4
      obtain ⟨p0, p1, p2, p3, p4, -, -, -, p9, p10⟩ := M.out.1.c
      obtain ⟨q0, q1, q2, q3, q4, -⟩ := M.out.2.1.c
      have k4 : ∀ o, (wc.alloc o).cell? ⟨w.heap.size, 4, none⟩ = some (.slice a2 t.l.length c2) := fun o => (box_bel (bel_alloc wc o) M.out.1).c.2.2.2.2.1
      have m0 : ∀ o, (wc.alloc o).cell? ⟨w.heap.size + 1, 0, none⟩ = some (.int .i64 x.kind) := fun o => (box_bel (bel_alloc wc o) M.out.2.1).c.1
      have m1 : ∀ o, (wc.alloc o).cell? ⟨w.heap.size + 1, 1, none⟩ = some (.int .i64 x.n) := fun o => (box_bel (bel_alloc wc o) M.out.2.1).c.2.1
      have m2 : ∀ o, (wc.alloc o).cell? ⟨w.heap.size + 1, 2, none⟩ = some (.string ⟨x.s.toArray⟩) := fun o => (box_bel (bel_alloc wc o) M.out.2.1).c.2.2.1
      have m3 : ∀ o, (wc.alloc o).cell? ⟨w.heap.size + 1, 3, none⟩ = some (.slice a7 x.keys.length c7) := fun o => (box_bel (bel_alloc wc o) M.out.2.1).c.2.2.2.1
      have m4 : ∀ o, (wc.alloc o).cell? ⟨w.heap.size + 1, 4, none⟩ = some (.slice a8 x.l.length c8) := fun o => (box_bel (bel_alloc wc o) M.out.2.1).c.2.2.2.2.1
      have hrows : ∃ cs1 cs2 v1 v3, RowV (VIs w ok d) (t.l.take at_) cs1 ∧ RowV (VIs w ok d) (t.l.drop at_) cs2 ∧ SlIs w 5 v1 at_ cs1 ∧ SlIs w 5 v3 (t.l.length - at_) cs2 ∧ (c2 = 0 ∧ t.l.length = 0 ∧ v1 = .slice a2 0 0 ∧ v3 = .slice a2 t.l.length 0 ∨ ∃ b off, a2 = some ⟨b, off, none⟩ ∧ t.l.length ≤ c2 ∧ c2 ≤ maxLen ∧ v1 = .slice (some ⟨b, off, none⟩) at_ c2 ∧ v3 = .slice (if c2 = at_ then some ⟨b, off, none⟩ else some ⟨b, off + at_ * 5, none⟩) (t.l.length - at_) (c2 - at_)) := by
        obtain ⟨_, K5⟩ := KK.out.2.2.2.2
        rcases K5 with ⟨e, e2⟩ | ⟨b, off, c, hls, hc1, hc2, hcs⟩
        · obtain ⟨a0, e2⟩ := e2
          simp only [Value.slice.injEq] at e2
          obtain ⟨-, e3, e6⟩ := e2
          subst e6
          have e4 : at_ = 0 := by omega
          refine ⟨[], [], _, _, ?_, ?_, ?_, ?_, .inl ⟨rfl, e3, rfl, rfl⟩⟩
          · rw [e, List.take_nil]; rfl
          · rw [e, List.drop_nil]; rfl
          · rw [e4]; exact slnil w 5 a2
          · rw [e3, e4]; exact slnil w 5 a2
        · simp only [Value.slice.injEq] at hls
          obtain ⟨rfl, -, rfl⟩ := hls
          obtain ⟨cs1, cs2, r1, s1, r2, s2⟩ := sl_parts KK.out.2.2.2.2 at_ at_ (Nat.le_refl _) (by omega) (by omega)
          exact ⟨cs1, cs2, _, _, r1, r2, s1, s2, .inr ⟨b, off, rfl, hc1, hc2, rfl, rfl⟩⟩
      obtain ⟨cs1, cs2, v1, v3, r1, r2, s1, s3, hcase⟩ := hrows
      have con : Hid (∀ W, W.heap = ((wc.alloc (.cells #[.int .i64 x.kind, .int .i64 x.n, .string ⟨x.s.toArray⟩, .slice a7 x.keys.length c7, .slice a8 x.l.length c8] 25)).alloc (.cells #[v1, .slice (some ⟨wc.heap.size, 0, none⟩) 1 1, v3] 23)).heap → W.os = wc.os → W.tape = wc.tape → W.output = wc.output →
            Calls Tryd.prog 67 #[.slice (some ⟨wc.heap.size + 1, 0, none⟩) 3 3] W fun e w' => ∃ g cap, e = .returned (.slice (some ⟨g, 0, none⟩) (t.l.length + 1) cap) ∧ w'.ownsRow wc.heap.size 25 5 (.slice (some ⟨g, 0, none⟩) (t.l.length + 1) cap) (t.l.length + 1) (cs1 ++ [.int .i64 x.kind, .int .i64 x.n, .string ⟨x.s.toArray⟩, .slice a7 x.keys.length c7, .slice a8 x.l.length c8] ++ cs2) ∧ Below wc.heap.size wc w') := by
        intro W e1 e2 e4 e5
        exact conV3 _ _ _ _ _ _ _ _ _ (s1.bel M.out.2.2.2.2.1) (s3.bel M.out.2.2.2.2.1) (by omega) (by omega) W e1 e2 e4 e5
      have fin : Hid (∀ w3 g cap, w3.ownsRow wc.heap.size 25 5 (.slice (some ⟨g, 0, none⟩) (t.l.length + 1) cap) (t.l.length + 1) (cs1 ++ [.int .i64 x.kind, .int .i64 x.n, .string ⟨x.s.toArray⟩, .slice a7 x.keys.length c7, .slice a8 x.l.length c8] ++ cs2) → Below wc.heap.size wc w3 →
          VIs (set5 (w3.setCell ⟨w.heap.size, 4, none⟩ (.slice (some ⟨g, 0, none⟩) (t.l.length + 1) cap)) (w.heap.size + 2) (.int .i64 t.kind) (.int .i64 t.n) (.string ⟨t.s.toArray⟩) (.slice (some ⟨gk, 0, none⟩) (t.keys.length + 1) kcap) (.slice (some ⟨g, 0, none⟩) (t.l.length + 1) cap)) (okN ok w.heap.size) (d + 1) { t with keys := t.keys.take at_ ++ key :: t.keys.drop at_, l := t.l.take at_ ++ x :: t.l.drop at_ } (.agg #[.int .i64 t.kind, .int .i64 t.n, .string ⟨t.s.toArray⟩, .slice (some ⟨gk, 0, none⟩) (t.keys.length + 1) kcap, .slice (some ⟨g, 0, none⟩) (t.l.length + 1) cap]) ∧
          Below w.heap.size w (set5 (w3.setCell ⟨w.heap.size, 4, none⟩ (.slice (some ⟨g, 0, none⟩) (t.l.length + 1) cap)) (w.heap.size + 2) (.int .i64 t.kind) (.int .i64 t.n) (.string ⟨t.s.toArray⟩) (.slice (some ⟨gk, 0, none⟩) (t.keys.length + 1) kcap) (.slice (some ⟨g, 0, none⟩) (t.l.length + 1) cap)) ∧ BoxIs (set5 (w3.setCell ⟨w.heap.size, 4, none⟩ (.slice (some ⟨g, 0, none⟩) (t.l.length + 1) cap)) (w.heap.size + 2) (.int .i64 t.kind) (.int .i64 t.n) (.string ⟨t.s.toArray⟩) (.slice (some ⟨gk, 0, none⟩) (t.keys.length + 1) kcap) (.slice (some ⟨g, 0, none⟩) (t.l.length + 1) cap)) (w.heap.size + 2) (.int .i64 t.kind) (.int .i64 t.n) (.string ⟨t.s.toArray⟩) (.slice (some ⟨gk, 0, none⟩) (t.keys.length + 1) kcap) (.slice (some ⟨g, 0, none⟩) (t.l.length + 1) cap)) := by
        intro w3 g cap ho hb
        have g1 : w3.grownBy (w3.setCell ⟨w.heap.size, 4, none⟩ (.slice (some ⟨g, 0, none⟩) (t.l.length + 1) cap)) (some w.heap.size) := gb_set (gb_refl _ _) _ _
        have g2 := set5_gb (w3.setCell ⟨w.heap.size, 4, none⟩ (.slice (some ⟨g, 0, none⟩) (t.l.length + 1) cap)) (w.heap.size + 2) (.int .i64 t.kind) (.int .i64 t.n) (.string ⟨t.s.toArray⟩) (.slice (some ⟨gk, 0, none⟩) (t.keys.length + 1) kcap) (.slice (some ⟨g, 0, none⟩) (t.l.length + 1) cap)
        have hbx := ((box_bel hb M.out.2.2.1).grown g1 (by simp)).set (.int .i64 t.kind) (.int .i64 t.n) (.string ⟨t.s.toArray⟩) (.slice (some ⟨gk, 0, none⟩) (t.keys.length + 1) kcap) (.slice (some ⟨g, 0, none⟩) (t.l.length + 1) cap)
        have hbw : Below w.heap.size w w3 := bel_trans M.out.2.2.2.2.1 hb
        have hb9 : Below w.heap.size w (set5 (w3.setCell ⟨w.heap.size, 4, none⟩ (.slice (some ⟨g, 0, none⟩) (t.l.length + 1) cap)) (w.heap.size + 2) (.int .i64 t.kind) (.int .i64 t.n) (.string ⟨t.s.toArray⟩) (.slice (some ⟨gk, 0, none⟩) (t.keys.length + 1) kcap) (.slice (some ⟨g, 0, none⟩) (t.l.length + 1) cap)) := gb_none (gb_set5 (gb_setA (gb_below hbw) (Nat.le_refl _) _ _) (by omega) _ _ _ _ _)
        have hsz3 : w.heap.size + 2 < w2.heap.size := hsz2
        refine ⟨⟨_, _, rfl, KK.out.1, KK.out.2.1, KK.out.2.2.1, ?_, ?_⟩, hb9, hbx⟩
        · have hk3 := own_kept' (own_kept' (own_bel M.out.2.2.2.1 hb) g1 (by omega)) g2 (by omega)
          have hlen : t.keys.length + 1 = (t.keys.take at_ ++ key :: t.keys.drop at_).length := by simp; omega
          refine own_strs (B := w2.heap.size) hlen ?_ ?_ (fun k hk => .inr (by omega)) (by rw [← hlen]; unfold maxLen; omega)
          · have e9 : (t.keys.take at_ ++ key :: t.keys.drop at_).map str = (t.keys.take at_).map str ++ [str key] ++ (t.keys.drop at_).map str := by simp
            rw [e9]; exact hk3
          · intro y hy
            simp only [List.mem_append, List.mem_cons] at hy
            rcases hy with hy | rfl | hy
            · exact KK.out.2.2.2.1.mem y (List.mem_of_mem_take hy)
            · exact hkey
            · exact KK.out.2.2.2.1.mem y (List.mem_of_mem_drop hy)
        · have ho9 := own_kept' (own_kept' ho g1 (by omega)) g2 (by omega)
          have hlen : t.l.length + 1 = (t.l.take at_ ++ x :: t.l.drop at_).length := by simp; omega
          refine own_vals hlen ho9 ?_ (fun k hk => .inr (by omega)) (by rw [← hlen]; unfold maxLen; omega)
          have rx : RowV (VIs _ (okN ok w.heap.size) d) [x] [.int .i64 x.kind, .int .i64 x.n, .string ⟨x.s.toArray⟩, .slice a7 x.keys.length c7, .slice a8 x.l.length c8] := ⟨_, _, _, _, _, [], rfl, (HX.out.bel hb9).toN, rfl⟩
          have := ((r2.bel (B := w.heap.size) hb9).append rx).append (r1.bel (B := w.heap.size) hb9)
          rw [List.append_assoc]
          exact this
      clear r1 r2 s1 s3
      have hfinish : Hid True := trivial
      rcases hcase with ⟨rfl, e3, rfl, rfl⟩ | ⟨b, off, rfl, hc1, hc2, rfl, hv3⟩
      · have j6 : (t.l.length : Int) ≤ 0 := by omega
        have E3 := hidI e3
        have e7 : at_ = 0 := by omega
        clear e3
        subst e7
        go_upto_region 11 with fail
        go_region_with ((go_at_call 67; refine (con.out _ (by rfl) (by rfl) (by rfl) (by rfl)).mono ?_; rintro e w3 ⟨g, cap, rfl, ho3, hb3⟩; obtain ⟨p0, p1, p2, p3, p4, -, -, -, p9, p10⟩ := (box_bel hb3 M.out.1).c; obtain ⟨x0, x1, x2, x3, x4, y0, y1, y2, y3, y4⟩ := (box_bel hb3 M.out.2.2.1).c; have O3 := hidI ho3; have HB3 := hidI hb3; clear ho3 hb3))
        all_goals
          go_wp2_with fail
          obtain ⟨f1, f2, f3⟩ := fin.out _ g cap O3.out HB3.out
          obtain ⟨z0, z1, z2, z3, z4, -⟩ := f3.c
          refine bodyPost_ret (v := .agg #[.int .i64 t.kind, .int .i64 t.n, .string ⟨t.s.toArray⟩, .slice (some ⟨gk, 0, none⟩) (t.keys.length + 1) kcap, .slice (some ⟨g, 0, none⟩) (t.l.length + 1) cap]) ?_ rfl ?_
          · simp only [set5] at z0 z1 z2 z3 z4
            simp [results, Tryd.results53, go_sem, z0, z1, z2, z3, z4]
          · rw [HAT.out]
            exact ⟨_, rfl, f1, f2⟩
      · obtain ⟨a3, hifs⟩ : ∃ a3, (if c2 = at_ then (some ⟨b, off, none⟩ : Option Addr) else some ⟨b, off + at_ * 5, none⟩) = a3 := ⟨_, rfl⟩
        rw [hifs] at hv3
        subst hv3
        unfold maxLen at hc2
        have j5 : (at_ : Int) ≤ (c2 : Int) := by omega
        have j6 : (t.l.length : Int) ≤ (c2 : Int) := by omega
        go_upto_region 11 with fail
        go_region_with ((go_at_call 67; refine (con.out _ (by rfl) (by rfl) (by rfl) (by rfl)).mono ?_; rintro e w3 ⟨g, cap, rfl, ho3, hb3⟩; obtain ⟨p0, p1, p2, p3, p4, -, -, -, p9, p10⟩ := (box_bel hb3 M.out.1).c; obtain ⟨x0, x1, x2, x3, x4, y0, y1, y2, y3, y4⟩ := (box_bel hb3 M.out.2.2.1).c; have O3 := hidI ho3; have HB3 := hidI hb3; clear ho3 hb3))
        all_goals
          go_wp2_with fail
          obtain ⟨f1, f2, f3⟩ := fin.out _ g cap O3.out HB3.out
          obtain ⟨z0, z1, z2, z3, z4, -⟩ := f3.c
          refine bodyPost_ret (v := .agg #[.int .i64 t.kind, .int .i64 t.n, .string ⟨t.s.toArray⟩, .slice (some ⟨gk, 0, none⟩) (t.keys.length + 1) kcap, .slice (some ⟨g, 0, none⟩) (t.l.length + 1) cap]) ?_ rfl ?_
          · simp only [set5] at z0 z1 z2 z3 z4
            simp [results, Tryd.results53, go_sem, z0, z1, z2, z3, z4]
          · have hat := HAT.out
            subst hat
            exact ⟨_, rfl, f1, f2⟩
end Go.Proofs.YtkboplcffailoaaDoor
