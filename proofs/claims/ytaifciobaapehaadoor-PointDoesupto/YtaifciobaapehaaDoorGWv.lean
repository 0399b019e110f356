/- The walk of the law PointDoes. -/
import Derived.Test.YtaifciobaapehaaDoorGWs
import Derived.Test.YtaifciobaapehaaDoorXm
import Derived.Test.YtaifciobaapehaaDoorXn
import Derived.Test.YtaifciobaapehaaDoorGFg
import Derived.Test.YtaifciobaapehaaDoorXz
import Derived.Test.YtaifciobaapehaaDoorTp
import Derived.Test.YtaifciobaapehaaDoorXa
/- What alter of package stairwellref does: a list that shrinks; all. -/
set_option linter.unusedSimpArgs false
set_option linter.unusedVariables false
namespace Go.Proofs.YtaifciobaapehaaDoor
open Go.RowKit

theorem erase_at {l : List V} {k : Nat} (h : k < l.length) : (l.take (k + 1)).eraseIdx k = (l.take k).eraseIdx k := by
  rw [List.take_succ_eq_append_getElem h, List.eraseIdx_append_of_length_le (by simp; omega), List.eraseIdx_of_length_le (l := l.take k) (by simp; omega)]
  simp [show k - min k l.length = 0 by omega]
theorem erase_far {l : List V} {k i : Nat} (h : k < l.length) (hne : k ≠ i) : (l.take (k + 1)).eraseIdx i = (l.take k).eraseIdx i ++ [l[k]] := by
  rw [List.take_succ_eq_append_getElem h]
  by_cases hik : i < k
  · rw [List.eraseIdx_append_of_lt_length (by simp; omega)]
  · rw [List.eraseIdx_append_of_length_le (by simp; omega), List.eraseIdx_of_length_le (l := l.take k) (by simp; omega), List.eraseIdx_of_length_le (l := [l[k]]) (by simp; omega)]
theorem at_kind {t : V} {s : List UInt8} {i : Nat} (h : atV t s = some i) : t.kind = 5 ∨ t.kind = 4 := by
  unfold atV at h
  split at h
  · rename_i e; exact .inr e
  · unfold findV at h
    split at h
    · rename_i e; simp only [pairedV, Bool.and_eq_true, decide_eq_true_eq] at e; exact .inl e.1
    · cases h
set_option maxRecDepth 100000 in
set_option maxHeartbeats 40000000 in
theorem alter2_list (w : World) (ok oks : Nat → Prop) (t x : V) (v xv nv : Value) (s : List UInt8) (h : In w ok t v) (hx : In w ok x xv) (hn : Nice t) (hnv : StrsAre w oks [s] nv) (i : Nat) (ha : atV t s = some i) (h4 : t.kind = 4) :
    Calls Tryd.prog 31 #[.int .i64 2, v, nv, xv] w fun e w' => ∃ r, e = .returned (.tuple #[r, .int .i64 0]) ∧ Below w.heap.size w w' ∧ In w' (okN ok w.heap.size) ({ t with l := t.l.take i ++ t.l.drop (i + 1) }) r := by
  obtain ⟨nb, no, nc, rfl, n1, n2, n3, n4⟩ := strs_head hnv
  simp only [List.length_nil, Nat.zero_add] at n1 ⊢
  have H := hidI h.low
  have HX := hidI hx.low
  have HN := hidI hn
  obtain ⟨l1, l2, l3⟩ := h.lens
  obtain ⟨a1, a2, c1, c2, rfl⟩ := h.form
  obtain ⟨a7, a8, c7, c8, rfl⟩ := hx.form
  have hsz := nice_len hn
  have g0 : ∀ o1 o2 o3, (((w.alloc o1).alloc o2).alloc o3).cell? ⟨nb, no, none⟩ = some (.string ⟨s.toArray⟩) := fun o1 o2 o3 => cell_bel (bel_trans (bel_trans (bel_alloc _ _) (bel_alloc _ _)) (bel_alloc _ o3)) n4
  have con1 : Hid (∀ W, W.heap = (((w.alloc (.cells #[.int .i64 t.kind, .int .i64 t.n, .string ⟨t.s.toArray⟩, .slice a1 t.keys.length c1, .slice a2 t.l.length c2] 25)).alloc (.cells #[.int .i64 x.kind, .int .i64 x.n, .string ⟨x.s.toArray⟩, .slice a7 x.keys.length c7, .slice a8 x.l.length c8] 25)).alloc (.cells #[.int .i64 0, .int .i64 0, .string ⟨#[]⟩, .slice none 0 0, .slice none 0 0] 25)).heap → W.os = w.os → W.tape = w.tape → W.output = w.output → Calls Tryd.prog 28 #[.agg #[.int .i64 t.kind, .int .i64 t.n, .string ⟨t.s.toArray⟩, .slice a1 t.keys.length c1, .slice a2 t.l.length c2], .string ⟨s.toArray⟩] W fun e w' => e = .returned (.int .i64 (optI (atV t s))) ∧ KA w t x a1 a2 a7 a8 c1 c2 c7 c8 w') := by
    intro W e1 e2 e3 e4
    have hbW := bel_of3 e1 e2 e3 e4
    refine (rkid_is W (fun k => ok k ∧ k < w.heap.size) t _ s (H.out.bel hbW) (fun h5 => by have := nice_paired HN.out h5; simp only [pairedV, Bool.and_eq_true, decide_eq_true_eq] at this; omega)).mono ?_
    rintro e w1 ⟨rfl, hb1⟩
    exact ⟨rfl, box_bel hb1 (by unfold BoxIs; rw [e1]; exact h3a w _ _ _), box_bel hb1 (by unfold BoxIs; rw [e1]; exact h3b w _ _ _), box_bel hb1 (by unfold BoxIs; rw [e1]; exact h3c w _ _ _), bel_trans hbW hb1⟩
  have N4 := hidI n4
  have AT := hidI ha
  have hi : i < t.l.length := at_lt ha
  have qa : (t.kind == 5) = false := by simp [h4]
  have qb : (t.kind == 4) = true := by simp [h4]
  obtain ⟨d, hd, -⟩ := h.low.two hx.low
  obtain ⟨ks, ls, e9, -, -, -, -, h5⟩ := hd
  simp only [Value.agg.injEq, Array.mk.injEq, List.cons.injEq, and_true] at e9
  obtain ⟨-, -, -, -, rfl⟩ := e9
  have V5 := hidI h5
  have LI : Hid ({ t with l := t.l.take i ++ t.l.drop (i + 1) } = (⟨4, 0, [], [], t.l.eraseIdx i⟩ : V)) := hidI (by rw [list_is hn h4, List.eraseIdx_eq_take_drop_succ])
  clear ha h5 h4
  clear h hx hn n4 hnv
  have e11 : ¬ (1 : Int) < 1 := by omega
  go_enter Tryd.func31, Tryd.ntmps31
  go_upto_region 1 with fail
  go_cut [10] (fun p wc => p = .int .i64 (optI (atV t s)) ∧ KA w t x a1 a2 a7 a8 c1 c2 c7 c8 wc)
  case first =>
    go_region_with ((go_at_call 28; refine (con1.out _ (by rfl) (by rfl) (by rfl) (by rfl)).mono ?_; rintro e w1 ⟨rfl, hfin⟩; have FIN := hidI hfin; clear hfin))
    all_goals
      go_wp2_with fail
      go_meet
      case rel => exact ⟨rfl, FIN.out⟩
  case rest =>
    obtain ⟨wa, hwa⟩ : ∃ wa, wa = wc := ⟨_, rfl⟩
    subst hwa
    obtain ⟨rfl, k0⟩ := hcut
    have K := hidI k0
    clear con1 g0 k0
    have hk3 := K.out.big
    obtain ⟨p0, p1, p2, p3, p4, -⟩ := K.out.1.c
    obtain ⟨q0, q1, q2, q3, q4, -⟩ := K.out.2.1.c
    obtain ⟨x0, x1, x2, x3, x4, y0, y1, y2, y3, y4⟩ := K.out.2.2.1.c
    have eo : optI (some i) = (i : Int) := rfl
    rw [AT.out, eo]
    clear eo
    have v1 : ¬ (i : Int) < 0 := by omega
    have A0 : Hid (AL w t x a1 a2 a7 a8 c1 c2 c7 c8 wa.heap.size none 0 0 [] (wa.alloc (.cells #[.int .i64 4, .int .i64 0, .string ⟨#[]⟩, .slice none 0 0, .slice none 0 0] 25))) := hidI ⟨⟨K.out.bel (bel_alloc _ _), heap_alloc_new wa _, by omega⟩, World.ownsRow_nil _ _ _ _⟩
    go_upto_region 27 with fail
    clear p0 p1 p2 p3 p4 q0 q1 q2 q3 q4 x0 x1 x2 x3 x4 y0 y1 y2 y3 y4
    obtain ⟨p0, p1, p2, p3, p4, -⟩ := A0.out.1.1.1.c
    go_wp2_with fail
    clear p0 p1 p2 p3 p4
    go_loopg [16, 17, 134] t.l.length (fun gk _ _ idx wr => ∃ (k : Nat) (la : Option Addr) (n lc : Nat) (cs : List Value), k ≤ t.l.length ∧ Hid (gk = t.l.length - k) ∧ idx = .int .i64 k ∧ Hid (AL w t x a1 a2 a7 a8 c1 c2 c7 c8 wa.heap.size la n lc cs wr ∧ RowV (VIs w (fun k => ok k ∧ k < w.heap.size) d) ((t.l.take k).eraseIdx i) cs ∧ n = ((t.l.take k).eraseIdx i).length))
    case atStart => exact ⟨0, none, 0, 0, [], Nat.zero_le _, hidI rfl, rfl, hidI ⟨A0.out, by simp [RowV], by simp⟩⟩
    case round =>
      obtain ⟨k, la, n, lc, cs, hk, GK, rfl, A1⟩ := hrel
      by_cases hlt : k < t.l.length
      · obtain ⟨xb, xo, rfl, z1, z2, a5, c5, a6, c6, g0, g1, g2, g3, g4, g5⟩ := vals_at V5.out hlt
        unfold maxLen at z2
        have hbw := A1.out.1.1.1.2.2.2
        replace g0 := cell_bel hbw g0
        replace g1 := cell_bel hbw g1
        replace g2 := cell_bel hbw g2
        replace g3 := cell_bel hbw g3
        replace g4 := cell_bel hbw g4
        clear hbw
        have V6 := hidI g5
        clear g5
        have w1 : (0 : Int) ≤ (k : Int) := by omega
        have w2 : (k : Int) < (t.l.length : Int) := by omega
        have hn9 : n ≤ 1000 := by have := A1.out.2.2; have h9 := List.length_eraseIdx_le (t.l.take k) i; simp at h9; omega
        have A2 := hidI (A1.out.1.bel (bel_alloc wr (.cells #[.int .i64 t.l[k].kind, .int .i64 t.l[k].n, .string ⟨t.l[k].s.toArray⟩, .slice a5 t.l[k].keys.length c5, .slice a6 t.l[k].l.length c6] 25)))
        by_cases hki : k = i
        · have e5 : ((k : Int) != (i : Int)) = false := by simp [hki]
          have E6 : Hid ((t.l.take (k + 1)).eraseIdx i = (t.l.take k).eraseIdx i) := hidI (by rw [← hki]; exact erase_at hlt)
          clear hki
          go_wp2_with fail
          go_roundg (t.l.length - (k + 1))
          case measure => rw [GK.out]; omega
          case rel => exact ⟨k + 1, la, n, lc, cs, hlt, hidI rfl, by go_num, hidI ⟨A2.out, by rw [E6.out]; exact A1.out.2.1, by rw [E6.out]; exact A1.out.2.2⟩⟩
        · have e5 : ((k : Int) != (i : Int)) = true := by rw [bne_iff_ne]; omega
          have E6 : Hid ((t.l.take (k + 1)).eraseIdx i = (t.l.take k).eraseIdx i ++ [t.l[k]]) := hidI (erase_far hlt hki)
          clear hki
          have Y1 : Hid (BoxIs (wr.alloc (.cells #[.int .i64 t.l[k].kind, .int .i64 t.l[k].n, .string ⟨t.l[k].s.toArray⟩, .slice a5 t.l[k].keys.length c5, .slice a6 t.l[k].l.length c6] 25)) wr.heap.size (.int .i64 t.l[k].kind) (.int .i64 t.l[k].n) (.string ⟨t.l[k].s.toArray⟩) (.slice a5 t.l[k].keys.length c5) (.slice a6 t.l[k].l.length c6)) := hidI (heap_alloc_new wr _)
          obtain ⟨gg, cap, W17, hR17, ho17, hg17, -⟩ := run_pushV (A2.out.2.alloc (.cells #[.int .i64 t.l[k].kind, .int .i64 t.l[k].n, .string ⟨t.l[k].s.toArray⟩, .slice a5 t.l[k].keys.length c5, .slice a6 t.l[k].l.length c6] 25)) (heap_alloc_new (wr.alloc (.cells #[.int .i64 t.l[k].kind, .int .i64 t.l[k].n, .string ⟨t.l[k].s.toArray⟩, .slice a5 t.l[k].keys.length c5, .slice a6 t.l[k].l.length c6] 25)) _) (by omega) (by have := A2.out.lt; simp at this ⊢; omega) 23
          have e9 : (wr.alloc (.cells #[.int .i64 t.l[k].kind, .int .i64 t.l[k].n, .string ⟨t.l[k].s.toArray⟩, .slice a5 t.l[k].keys.length c5, .slice a6 t.l[k].l.length c6] 25)).heap.size = wr.heap.size + 1 := by simp
          rw [e9] at hR17
          clear e9
          have B17 := hidI (A2.out.1.grown (gb_trans (World.grownBy_alloc (wr.alloc (.cells #[.int .i64 t.l[k].kind, .int .i64 t.l[k].n, .string ⟨t.l[k].s.toArray⟩, .slice a5 t.l[k].keys.length c5, .slice a6 t.l[k].l.length c6] 25)) _ _) hg17) (fun k e => (A2.out.2.lt k e).1))
          have A17 := hidI (A2.out.push ho17 (gb_trans (World.grownBy_alloc (wr.alloc (.cells #[.int .i64 t.l[k].kind, .int .i64 t.l[k].n, .string ⟨t.l[k].s.toArray⟩, .slice a5 t.l[k].keys.length c5, .slice a6 t.l[k].l.length c6] 25)) _ _) hg17))
          obtain ⟨u0, u1, u2, u3, u4, -⟩ := Y1.out.c
          obtain ⟨v0, v1, v2, v3, v4, -⟩ := A2.out.1.2.1.c
          obtain ⟨o0, o1, o2, o3, o4, f0, f1, f2, f3, f4⟩ := B17.out.2.1.c
          clear ho17 hg17 B17
          go_wp2_with (at_builtin; go_must (refine Lib.wpList_append_run _ rfl _ _ _ _ rfl (.slice la n lc) (.slice (some ⟨wr.heap.size + 1, 0, none⟩) 1 1) rfl rfl _ _ hR17 ?_))
          go_roundg (t.l.length - (k + 1))
          case measure => rw [GK.out]; omega
          case rel => exact ⟨k + 1, some ⟨gg, 0, none⟩, n + 1, cap, _, hlt, hidI rfl, by go_num, hidI ⟨A17.out, by rw [E6.out]; exact RowV.append (show RowV (VIs w (fun k => ok k ∧ k < w.heap.size) d) [t.l[k]] [.int .i64 t.l[k].kind, .int .i64 t.l[k].n, .string ⟨t.l[k].s.toArray⟩, .slice a5 t.l[k].keys.length c5, .slice a6 t.l[k].l.length c6] from ⟨_, _, _, _, _, [], rfl, V6.out, rfl⟩) A1.out.2.1, by rw [E6.out, A1.out.2.2]; simp⟩⟩
      · have dd : ¬ (k : Int) < (t.l.length : Int) := by omega
        have E6 : Hid ((t.l.take k).eraseIdx i = t.l.eraseIdx i) := hidI (by rw [List.take_of_length_le (by omega)])
        have R := hidI (A1.out.1.fin (ok := ok) A1.out.2.1 A1.out.2.2 (by have h9 := List.length_eraseIdx_le (t.l.take k) i; simp at h9; omega))
        obtain ⟨u0, u1, u2, u3, u4, -⟩ := A1.out.1.1.2.1.c
        obtain ⟨o0, o1, o2, o3, o4, f0, f1, f2, f3, f4⟩ := A1.out.1.1.1.2.2.1.c
        go_wp2_with fail
        obtain ⟨r1, r2, r3⟩ := R.out
        obtain ⟨z0, z1, z2, z3, z4, -⟩ := r3.c
        refine bodyPost_ret (v := .tuple #[.agg #[.int .i64 4, .int .i64 0, .string ⟨#[]⟩, .slice none 0 0, .slice la n lc], .int .i64 0]) ?_ rfl ?_
        · simp only [set5] at z0 z1 z2 z3 z4
          simp [results, Tryd.results31, go_sem, z0, z1, z2, z3, z4]
        · exact ⟨_, rfl, r1, by rw [LI.out, ← E6.out]; exact r2⟩

theorem removed_atA (t : V) (s : List UInt8) : removedV t s = (atV t s).map fun i => if t.kind = 5 then withoutV t s else { t with l := t.l.take i ++ t.l.drop (i + 1) } := by
  unfold removedV
  rw [meant_at]
  cases ha : atV t s with
  | none => rfl
  | some i =>
    have hi := at_lt ha
    simp only [Option.bind_some, List.getElem?_eq_getElem hi, Option.map_some]
    split
    · rfl
    · rename_i h5
      have h4 : t.kind = 4 := (at_kind ha).resolve_left h5
      rw [atV, if_pos h4] at ha
      obtain ⟨j, hj, hj2⟩ := Option.bind_eq_some_iff.1 ha
      split at hj2
      · cases hj2; rw [hj]; rfl
      · cases hj2
theorem alter_one (kind : Int) (hk : kind = 1 ∨ kind = 2 ∨ kind = 3) (s : List UInt8) : AltC kind [s] := by
  intro w ok oks t x v xv nv h hx hn hnv
  rcases hk with rfl | rfl | rfl
  · rw [show downV (altV 1 x) [s] t = addedV x t s from rfl]
    by_cases h5 : t.kind = 5
    · rw [addedV, if_pos h5]
      exact alter1_object w ok oks t x v xv nv s h hx hn hnv h5
    · rw [addedV, if_neg h5]
      by_cases h4 : t.kind = 4
      · rw [if_pos h4]
        cases hp : placeP t.l.length s with
        | none => exact alter1_place w ok oks t x v xv nv s h hx hn hnv h4 hp
        | some i => exact alter1_list w ok oks t x v xv nv s h hx hn hnv i h4 hp
      · rw [if_neg h4]
        exact alter1_other w ok oks t x v xv nv s h hx hn hnv h5 h4
  · rw [show downV (altV 2 x) [s] t = removedV t s from rfl, removed_atA]
    cases ha : atV t s with
    | none => exact alter2_none w ok oks t x v xv nv s h hx hn hnv ha
    | some i =>
      by_cases h5 : t.kind = 5
      · simp only [Option.map_some, if_pos h5]
        exact alter2_object w ok oks t x v xv nv s h hx hn hnv i ha h5
      · simp only [Option.map_some, if_neg h5]
        exact alter2_list w ok oks t x v xv nv s h hx hn hnv i ha ((at_kind ha).resolve_left h5)
  · rw [show downV (altV 3 x) [s] t = replacedV x t s from rfl, replaced_at]
    cases ha : atV t s with
    | none => exact alter3_none w ok oks t x v xv nv s h hx hn hnv ha
    | some i => exact alter3_some w ok oks t x v xv nv s h hx hn hnv i ha
theorem alter_all (kind : Int) (hk : kind = 1 ∨ kind = 2 ∨ kind = 3) : ∀ (rs : List (List UInt8)) (s : List UInt8), AltC kind (s :: rs)
  | [], s => alter_one kind hk s
  | r :: rs, s => alter_more kind s r rs (alter_all kind hk rs r)
end Go.Proofs.YtaifciobaapehaaDoor

/- What Alter of package stairwellref does. -/
set_option linter.unusedSimpArgs false
set_option linter.unusedVariables false
namespace Go.Proofs.YtaifciobaapehaaDoor
open Go.RowKit

/- What Alter answers. -/
def altR (kind : Int) (p : List UInt8) (t x : V) : V × Int := if kind = 1 then layR addedV p (splitP p) t x else if kind = 3 then layR replacedV p (splitP p) t x else changeR removedV (splitP p) t
theorem cnts_app (a b : List V) : cnts (a ++ b) = cnts a + cnts b := by simp [cnts]
theorem cnts_swap {l : List V} {i : Nat} (h : i < l.length) (y : V) : cnts (l.take i ++ y :: l.drop (i + 1)) + cnt l[i] = cnts l + cnt y := by
  have e : cnts l = cnts (l.take i ++ l[i] :: l.drop (i + 1)) := by rw [← List.drop_eq_getElem_cons h, List.take_append_drop]
  rw [e, cnts_app, cnts_app, cnts_cons, cnts_cons]
  omega
theorem cnts_ins (l : List V) (i : Nat) (y : V) : cnts (l.take i ++ y :: l.drop i) = cnts l + cnt y := by
  have e : cnts l = cnts (l.take i ++ l.drop i) := by rw [List.take_append_drop]
  rw [e, cnts_app, cnts_app, cnts_cons]
  omega
theorem cnts_out (l : List V) (i : Nat) : cnts (l.take i ++ l.drop (i + 1)) ≤ cnts l := by
  by_cases h : i < l.length
  · have e : cnts l = cnts (l.take i ++ l[i] :: l.drop (i + 1)) := by rw [← List.drop_eq_getElem_cons h, List.take_append_drop]
    rw [e, cnts_app, cnts_app, cnts_cons]
    omega
  · rw [List.take_of_length_le (by omega), List.drop_eq_nil_of_le (by omega)]
    simp
theorem cnt_withA (t x : V) (s : List UInt8) : cnt (withV t s x) ≤ cnt t + cnt x := by
  unfold withV
  split
  · split
    · rename_i i hi
      rw [cnt_eq, cnt_eq t]
      simp only
      by_cases h : i < t.l.length
      · have := cnts_swap h x; omega
      · rw [List.take_of_length_le (by omega), List.drop_eq_nil_of_le (by omega), cnts_app, cnts_cons]
        simp [cnts]; omega
    · rw [cnt_eq, cnt_eq t]
      simp only
      have := cnts_ins t.l ((t.keys.takeWhile fun k => Op.bytesLess k s).length) x
      first | omega | (rw [cnts_ins]; omega)
  · omega
theorem cnt_without (t : V) (s : List UInt8) : cnt (withoutV t s) ≤ cnt t := by
  unfold withoutV
  split
  · rename_i i hi
    rw [cnt_eq, cnt_eq t]
    simp only
    have := cnts_out t.l i
    omega
  · omega
theorem cnt_swap {t y : V} {i : Nat} (h : i < t.l.length) : cnt { t with l := t.l.take i ++ y :: t.l.drop (i + 1) } + cnt t.l[i] = cnt t + cnt y := by
  rw [cnt_eq, cnt_eq t]
  simp only
  have := cnts_swap h y
  omega
theorem cnt_alt {kind : Int} {x t z : V} {s : List UInt8} (h : altV kind x t s = some z) : cnt z ≤ cnt t + cnt x := by
  unfold altV at h
  split at h
  · unfold addedV at h
    split at h
    · cases h; exact cnt_withA t x s
    · split at h
      · obtain ⟨i, -, rfl⟩ := Option.map_eq_some_iff.1 h
        rw [cnt_eq, cnt_eq t]
        simp only
        rw [cnts_ins]
        omega
      · cases h
  · split at h
    · rw [replaced_at] at h
      obtain ⟨i, hi, rfl⟩ := Option.map_eq_some_iff.1 h
      have := cnt_swap (y := x) (at_lt hi)
      omega
    · rw [removed_atA] at h
      obtain ⟨i, hi, rfl⟩ := Option.map_eq_some_iff.1 h
      split
      · have := cnt_without t s; omega
      · rw [cnt_eq, cnt_eq t]
        simp only
        have := cnts_out t.l i
        omega
theorem cnt_down {kind : Int} {x : V} : ∀ (rs : List (List UInt8)) (s : List UInt8) (t z : V), downV (altV kind x) (s :: rs) t = some z → cnt z ≤ cnt t + cnt x
  | [], s, t, z, h => cnt_alt (s := s) h
  | r :: rs, s, t, z, h => by
    rw [downV, meant_at] at h
    obtain ⟨y, hy, h⟩ := Option.bind_eq_some_iff.1 h
    obtain ⟨i, hi, hyi⟩ := Option.bind_eq_some_iff.1 hy
    obtain ⟨y', hy', h3⟩ := Option.bind_eq_some_iff.1 h
    have hil := at_lt hi
    rw [List.getElem?_eq_getElem hil] at hyi
    cases hyi
    have ih := cnt_down rs r _ y' hy'
    rw [replaced_at, hi] at h3
    cases h3
    have := cnt_swap (y := y') hil
    show cnt { t with l := t.l.take i ++ y' :: t.l.drop (i + 1) } ≤ _
    omega
theorem split_empty {p : List UInt8} (h : (splitP p).2 = 0) (h2 : (splitP p).1 = []) : p = [] := by
  cases p with
  | nil => rfl
  | cons c r =>
    unfold splitP at h h2
    simp only at h h2
    split at h
    · cases h
    · rename_i h4
      rw [if_neg h4] at h2
      simp only [List.map_eq_nil_iff] at h2
      exact absurd h2 (split_ne _ _)
set_option maxRecDepth 100000 in
set_option maxHeartbeats 40000000 in
theorem ralter1_is (w : World) (ok : Nat → Prop) (t x : V) (v xv : Value) (p : List UInt8) (h : In w ok t v) (hx : In w ok x xv) (hp : p.length ≤ 140737488351232) (hN : cnt t ≤ 1000000000000) (hM : cnt x ≤ 1000000000000) :
    Calls Tryd.prog 11 #[.int .i64 1, v, str p, xv] w fun e w' => ∃ r, e = .returned (.tuple #[r, .int .i64 (layR addedV p (splitP p) t x).2]) ∧ Below w.heap.size w w' ∧ In w' (okN ok w.heap.size) (layR addedV p (splitP p) t x).1 r := by
  have H := hidI h.low
  have HX := hidI hx.low
  have HN := hidI hN
  have HM := hidI hM
  have HN2 := hidI (show cnt t ≤ 1000000000000000 by omega)
  have HM2 := hidI (show cnt x ≤ 1000000000000000 by omega)
  obtain ⟨a1, a2, c1, c2, rfl⟩ := h.form
  obtain ⟨a7, a8, c7, c8, rfl⟩ := hx.form
  have K0 : Hid (KA w t x a1 a2 a7 a8 c1 c2 c7 c8 (((w.alloc (.cells #[.int .i64 t.kind, .int .i64 t.n, .string ⟨t.s.toArray⟩, .slice a1 t.keys.length c1, .slice a2 t.l.length c2] 25)).alloc (.cells #[.int .i64 x.kind, .int .i64 x.n, .string ⟨x.s.toArray⟩, .slice a7 x.keys.length c7, .slice a8 x.l.length c8] 25)).alloc (.cells #[.int .i64 0, .int .i64 0, .string ⟨#[]⟩, .slice none 0 0, .slice none 0 0] 25))) := hidI ⟨h3a w _ _ _, h3b w _ _ _, h3c w _ _ _, bel_trans (bel_trans (bel_alloc _ _) (bel_alloc _ _)) (bel_alloc _ _)⟩
  clear h hx hN hM
  go_enter Tryd.func11, Tryd.ntmps11
  go_wp2_with fail
  refine (rgood_is _ (fun k => ok k ∧ k < w.heap.size) x _ (by exact HX.out.bel K0.out.2.2.2) HM2.out).mono ?_
  rintro e w1 ⟨rfl, hb1⟩
  have KC := hidI (K0.out.bel hb1)
  have hbig := KC.out.big
  clear hb1
  obtain ⟨p0, p1, p2, p3, p4, -⟩ := KC.out.1.c
  obtain ⟨q0, q1, q2, q3, q4, -⟩ := KC.out.2.1.c
  cases hgx : goodV x with
  | false =>
    have HA : Hid (layR addedV p (splitP p) t x = (t, 1)) := hidI (by unfold layR; rw [if_pos hgx])
    clear hgx
    obtain ⟨x0, x1, x2, x3, x4, y0, y1, y2, y3, y4⟩ := KC.out.2.2.1.c
    have Z : Hid (_ ∧ _) := hidI (set_out (C := w1.heap.size) (g := w.heap.size + 2) ((H.out.bel KC.out.2.2.2).weak (lowN_low (C := w1.heap.size))) KC.out.2.2.2 (by omega) KC.out.2.2.1.lt)
    have ZB : Hid _ := hidI (KC.out.2.2.1.set (.int .i64 t.kind) (.int .i64 t.n) (.string ⟨t.s.toArray⟩) (.slice a1 t.keys.length c1) (.slice a2 t.l.length c2))
    go_wp2_with fail
    obtain ⟨z0, z1, z2, z3, z4, -⟩ := ZB.out.c
    refine bodyPost_ret (v := .tuple #[.agg #[.int .i64 t.kind, .int .i64 t.n, .string ⟨t.s.toArray⟩, .slice a1 t.keys.length c1, .slice a2 t.l.length c2], .int .i64 1]) ?_ rfl ?_
    · simp only [set5] at z0 z1 z2 z3 z4
      simp [results, Tryd.results11, go_sem, z0, z1, z2, z3, z4]
    · exact ⟨_, by rw [HA.out], Z.out.1, by rw [HA.out]; exact Z.out.2⟩
  | true =>
    have GX := hidI hgx
    clear hgx
    go_wp2_with fail
    refine (rsplit_is _ p hp).mono ?_
    rintro e w2 ⟨nv, rfl, hb1, hns⟩
    obtain ⟨ns, hn1⟩ : ∃ ns, (splitP p).1 = ns := ⟨_, rfl⟩
    obtain ⟨ee, hn2⟩ : ∃ ee, (splitP p).2 = ee := ⟨_, rfl⟩
    have SC := hidI (split_code p)
    have SE : Hid ((splitP p).2 = 0 → (splitP p).1 = [] → p = []) := hidI (fun a b => split_empty (p := p) a b)
    rw [hn2] at SC ⊢
    rw [hn1, hn2] at SE
    rw [hn1] at hns
    have hsp : splitP p = (ns, ee) := by rw [← hn1, ← hn2]
    clear hn1 hn2
    obtain ⟨na, nc, rfl⟩ := hns.form
    have SP := hidI hsp
    have nlen := hns.1
    unfold maxLen at nlen
    have K2 := hidI (KC.out.bel hb1)
    have NS := hidI hns
    have hbig2 := K2.out.big
    clear p0 p1 p2 p3 p4 q0 q1 q2 q3 q4
    obtain ⟨p0, p1, p2, p3, p4, -⟩ := K2.out.1.c
    obtain ⟨q0, q1, q2, q3, q4, -⟩ := K2.out.2.1.c
    clear hb1 hns hsp hbig
    by_cases he : ee = 0
    · subst he
      go_wp2_with fail
      refine (rgood_is _ (fun k => ok k ∧ k < w.heap.size) t _ (by exact H.out.bel K2.out.2.2.2) HN2.out).mono ?_
      rintro e w3 ⟨rfl, hb1⟩
      have K3 := hidI (K2.out.bel hb1)
      have NS3 := hidI (NS.out.bel hb1)
      have hbig3 := K3.out.big
      clear hb1 hbig2
      clear p0 p1 p2 p3 p4 q0 q1 q2 q3 q4
      obtain ⟨p0, p1, p2, p3, p4, -⟩ := K3.out.1.c
      obtain ⟨q0, q1, q2, q3, q4, -⟩ := K3.out.2.1.c
      cases hg : goodV t with
      | false =>
        have HA : Hid (layR addedV p (splitP p) t x = (t, 1)) := hidI (by unfold layR; rw [if_neg (by simp [GX.out]), if_neg (by simp [hg])]; unfold changeR; rw [SP.out, if_neg (by simp), if_pos (.inr hg)])
        clear hg
        obtain ⟨x0, x1, x2, x3, x4, y0, y1, y2, y3, y4⟩ := K3.out.2.2.1.c
        have Z : Hid (_ ∧ _) := hidI (set_out (C := w3.heap.size) (g := w.heap.size + 2) ((H.out.bel K3.out.2.2.2).weak (lowN_low (C := w3.heap.size))) K3.out.2.2.2 (by omega) K3.out.2.2.1.lt)
        have ZB : Hid _ := hidI (K3.out.2.2.1.set (.int .i64 t.kind) (.int .i64 t.n) (.string ⟨t.s.toArray⟩) (.slice a1 t.keys.length c1) (.slice a2 t.l.length c2))
        go_wp2_with fail
        obtain ⟨z0, z1, z2, z3, z4, -⟩ := ZB.out.c
        refine bodyPost_ret (v := .tuple #[.agg #[.int .i64 t.kind, .int .i64 t.n, .string ⟨t.s.toArray⟩, .slice a1 t.keys.length c1, .slice a2 t.l.length c2], .int .i64 1]) ?_ rfl ?_
        · simp only [set5] at z0 z1 z2 z3 z4
          simp [results, Tryd.results11, go_sem, z0, z1, z2, z3, z4]
        · exact ⟨_, by rw [HA.out], Z.out.1, by rw [HA.out]; exact Z.out.2⟩
      | true =>
        have NT := hidI (nice_of hg)
        have HG := hidI hg
        clear hg
        cases hns : ns with
        | nil =>
          subst hns
          have EP := hidI (SE.out (by trivial) (by trivial))
          have HA : Hid (layR addedV p (splitP p) t x = (x, 0)) := hidI (by unfold layR; rw [if_neg (by simp [GX.out]), if_pos ⟨EP.out, HG.out⟩])
          obtain ⟨x0, x1, x2, x3, x4, y0, y1, y2, y3, y4⟩ := K3.out.2.2.1.c
          have Z : Hid (_ ∧ _) := hidI (set_out (C := w3.heap.size) (g := w.heap.size + 2) ((HX.out.bel K3.out.2.2.2).weak (lowN_low (C := w3.heap.size))) K3.out.2.2.2 (by omega) K3.out.2.2.1.lt)
          have ZB : Hid _ := hidI (K3.out.2.2.1.set (.int .i64 x.kind) (.int .i64 x.n) (.string ⟨x.s.toArray⟩) (.slice a7 x.keys.length c7) (.slice a8 x.l.length c8))
          simp only [List.length_nil]
          go_wp2_with fail
          obtain ⟨z0, z1, z2, z3, z4, -⟩ := ZB.out.c
          refine bodyPost_ret (v := .tuple #[.agg #[.int .i64 x.kind, .int .i64 x.n, .string ⟨x.s.toArray⟩, .slice a7 x.keys.length c7, .slice a8 x.l.length c8], .int .i64 0]) ?_ rfl ?_
          · simp only [set5] at z0 z1 z2 z3 z4
            simp [results, Tryd.results11, go_sem, z0, z1, z2, z3, z4]
          · exact ⟨_, by rw [HA.out], Z.out.1, by rw [HA.out]; exact Z.out.2⟩
        | cons s rs =>
          subst hns
          obtain ⟨L, hL⟩ : ∃ L, (s :: rs).length = L := ⟨_, rfl⟩
          have hL0 : ((L : Int) == 0) = false := by rw [← hL]; simp; omega
          have HL := hidI hL
          have AR9 : Hid (layR addedV p (splitP p) t x = match downV (addedV x) (s :: rs) t with | none => (t, 3) | some z => if goodV z then (z, 0) else (t, 2)) := hidI (by unfold layR; rw [if_neg (by simp [GX.out]), if_neg (by intro h9; rw [h9.1] at SP; have := SP.out; simp [splitP] at this)]; unfold changeR; rw [SP.out, if_neg (by simp), if_neg (by simp [HG.out])]; rfl)
          rw [hL] at NS3 nlen ⊢
          clear hL
          have HD : Hid (∀ z, downV (addedV x) (s :: rs) t = some z → cnt z ≤ 1000000000000000) := hidI (fun z hz => by have := cnt_down (kind := 1) (x := x) rs s t z hz; have := HN.out; have := HM.out; omega)
          obtain ⟨cd, hcd⟩ : ∃ cd : Int, (if (downV (addedV x) (s :: rs) t).isSome then 0 else 3) = cd := ⟨_, rfl⟩
          have CD := hidI hcd
          clear hcd
          go_wp2_with fail
          refine (alter_all 1 (by omega) rs s _ (lowN ok w.heap.size w3.heap.size) _ t x _ _ _ ((H.out.bel K3.out.2.2.2).weak lowN_low) ((HX.out.bel K3.out.2.2.2).weak lowN_low) NT.out (by exact NS3.out)).mono ?_
          rintro e w4 ⟨r9, rfl, hb1, hy⟩
          rw [show altV 1 x = (addedV x) from rfl, CD.out]
          rw [show altV 1 x = (addedV x) from rfl] at hy
          obtain ⟨z, hz⟩ : ∃ z, (downV (addedV x) (s :: rs) t).getD t = z := ⟨_, rfl⟩
          rw [hz] at hy
          have HZ := hidI hz
          obtain ⟨b7, b8, d7, d8, rfl⟩ := hy.form
          have K4 := hidI (K3.out.bel (bel_trans hb1 (bel_alloc w4 (.cells #[.int .i64 z.kind, .int .i64 z.n, .string ⟨z.s.toArray⟩, .slice b7 z.keys.length d7, .slice b8 z.l.length d8] 25))))
          have Y4 := hidI (hy.bel (bel_alloc w4 (.cells #[.int .i64 z.kind, .int .i64 z.n, .string ⟨z.s.toArray⟩, .slice b7 z.keys.length d7, .slice b8 z.l.length d8] 25)))
          have B4 : Hid (BoxIs (w4.alloc (.cells #[.int .i64 z.kind, .int .i64 z.n, .string ⟨z.s.toArray⟩, .slice b7 z.keys.length d7, .slice b8 z.l.length d8] 25)) w4.heap.size (.int .i64 z.kind) (.int .i64 z.n) (.string ⟨z.s.toArray⟩) (.slice b7 z.keys.length d7) (.slice b8 z.l.length d8)) := hidI (heap_alloc_new w4 _)
          obtain ⟨W4, hW4⟩ : ∃ W4, w4.alloc (.cells #[.int .i64 z.kind, .int .i64 z.n, .string ⟨z.s.toArray⟩, .slice b7 z.keys.length d7, .slice b8 z.l.length d8] 25) = W4 := ⟨_, rfl⟩
          rw [hW4] at K4 Y4 B4
          have hbig4 := K4.out.big
          clear p0 p1 p2 p3 p4 q0 q1 q2 q3 q4
          obtain ⟨p0, p1, p2, p3, p4, -⟩ := K4.out.1.c
          obtain ⟨q0, q1, q2, q3, q4, -⟩ := K4.out.2.1.c
          obtain ⟨m0, m1, m2, m3, m4, -⟩ := B4.out.c
          clear hb1 hy hz
          cases hd : downV (addedV x) (s :: rs) t with
          | none =>
            have hc : cd = 3 := by rw [← CD.out, hd]; rfl
            subst hc
            have HA : Hid (layR addedV p (splitP p) t x = (t, 3)) := hidI (by rw [AR9.out, hd])
            clear hd CD
            go_upto_region 11 with fail
            try rw [hW4]
            obtain ⟨x0, x1, x2, x3, x4, y0, y1, y2, y3, y4⟩ := K4.out.2.2.1.c
            have Z : Hid (_ ∧ _) := hidI (set_out (C := W4.heap.size) (g := w.heap.size + 2) ((H.out.bel K4.out.2.2.2).weak (lowN_low (C := W4.heap.size))) K4.out.2.2.2 (by omega) K4.out.2.2.1.lt)
            have ZB : Hid _ := hidI (K4.out.2.2.1.set (.int .i64 t.kind) (.int .i64 t.n) (.string ⟨t.s.toArray⟩) (.slice a1 t.keys.length c1) (.slice a2 t.l.length c2))
            go_wp2_with fail
            obtain ⟨z0, z1, z2, z3, z4, -⟩ := ZB.out.c
            refine bodyPost_ret (v := .tuple #[.agg #[.int .i64 t.kind, .int .i64 t.n, .string ⟨t.s.toArray⟩, .slice a1 t.keys.length c1, .slice a2 t.l.length c2], .int .i64 3]) ?_ rfl ?_
            · simp only [set5] at z0 z1 z2 z3 z4
              simp [results, Tryd.results11, go_sem, z0, z1, z2, z3, z4]
            · exact ⟨_, by rw [HA.out], Z.out.1, by rw [HA.out]; exact Z.out.2⟩
          | some z9 =>
            have hc : cd = 0 := by rw [← CD.out, hd]; rfl
            subst hc
            obtain rfl : z9 = z := by have := HZ.out; rw [hd] at this; exact this
            have CZ := hidI (HD.out _ hd)
            have HA0 : Hid (layR addedV p (splitP p) t x = if goodV z9 then (z9, 0) else (t, 2)) := hidI (by rw [AR9.out, hd])
            clear hd CD
            go_upto_region 11 with fail
            try rw [hW4]
            clear hW4
            go_wp2_with fail
            refine (rgood_is _ _ z9 _ (by exact Y4.out) CZ.out).mono ?_
            rintro e w5 ⟨rfl, hb1⟩
            have K5 := hidI (K4.out.bel hb1)
            have Y5 := hidI (Y4.out.bel hb1)
            have B5 := hidI (box_bel hb1 B4.out)
            have hbig5 := K5.out.big
            clear p0 p1 p2 p3 p4 q0 q1 q2 q3 q4
            clear m0 m1 m2 m3 m4
            obtain ⟨p0, p1, p2, p3, p4, -⟩ := K5.out.1.c
            obtain ⟨q0, q1, q2, q3, q4, -⟩ := K5.out.2.1.c
            obtain ⟨m0, m1, m2, m3, m4, -⟩ := B5.out.c
            clear hb1
            cases hgz : goodV z9 with
            | false =>
              have HA : Hid (layR addedV p (splitP p) t x = (t, 2)) := hidI (by rw [HA0.out, hgz]; rfl)
              clear hgz
              obtain ⟨x0, x1, x2, x3, x4, y0, y1, y2, y3, y4⟩ := K5.out.2.2.1.c
              have Z : Hid (_ ∧ _) := hidI (set_out (C := w5.heap.size) (g := w.heap.size + 2) ((H.out.bel K5.out.2.2.2).weak (lowN_low (C := w5.heap.size))) K5.out.2.2.2 (by omega) K5.out.2.2.1.lt)
              have ZB : Hid _ := hidI (K5.out.2.2.1.set (.int .i64 t.kind) (.int .i64 t.n) (.string ⟨t.s.toArray⟩) (.slice a1 t.keys.length c1) (.slice a2 t.l.length c2))
              go_wp2_with fail
              obtain ⟨z0, z1, z2, z3, z4, -⟩ := ZB.out.c
              refine bodyPost_ret (v := .tuple #[.agg #[.int .i64 t.kind, .int .i64 t.n, .string ⟨t.s.toArray⟩, .slice a1 t.keys.length c1, .slice a2 t.l.length c2], .int .i64 2]) ?_ rfl ?_
              · simp only [set5] at z0 z1 z2 z3 z4
                simp [results, Tryd.results11, go_sem, z0, z1, z2, z3, z4]
              · exact ⟨_, by rw [HA.out], Z.out.1, by rw [HA.out]; exact Z.out.2⟩
            | true =>
              have HA : Hid (layR addedV p (splitP p) t x = (z9, 0)) := hidI (by rw [HA0.out, hgz]; rfl)
              clear hgz
              have R := hidI (put_out K5.out Y5.out hbig3 hbig3)
              obtain ⟨x0, x1, x2, x3, x4, y0, y1, y2, y3, y4⟩ := K5.out.2.2.1.c
              go_wp2_with fail
              obtain ⟨r1, r2, r3⟩ := R.out
              obtain ⟨z0, z1, z2, z3, z4, -⟩ := r3.c
              refine bodyPost_ret (v := .tuple #[.agg #[.int .i64 z9.kind, .int .i64 z9.n, .string ⟨z9.s.toArray⟩, .slice b7 z9.keys.length d7, .slice b8 z9.l.length d8], .int .i64 0]) ?_ rfl ?_
              · simp only [set5] at z0 z1 z2 z3 z4
                simp [results, Tryd.results11, go_sem, z0, z1, z2, z3, z4]
              · exact ⟨_, by rw [HA.out], r1, by rw [HA.out]; exact r2⟩
    · have he1 : ee = 1 := SC.out.resolve_left he
      subst he1
      have HA : Hid (layR addedV p (splitP p) t x = (t, 1)) := hidI (by unfold layR; rw [if_neg (by simp [GX.out]), if_neg (by intro h9; rw [h9.1] at SP; have := SP.out; simp [splitP] at this)]; unfold changeR; rw [SP.out, if_pos (by simp)])
      clear he
      obtain ⟨x0, x1, x2, x3, x4, y0, y1, y2, y3, y4⟩ := K2.out.2.2.1.c
      have Z : Hid (_ ∧ _) := hidI (set_out (C := w2.heap.size) (g := w.heap.size + 2) ((H.out.bel K2.out.2.2.2).weak (lowN_low (C := w2.heap.size))) K2.out.2.2.2 (by omega) K2.out.2.2.1.lt)
      have ZB : Hid _ := hidI (K2.out.2.2.1.set (.int .i64 t.kind) (.int .i64 t.n) (.string ⟨t.s.toArray⟩) (.slice a1 t.keys.length c1) (.slice a2 t.l.length c2))
      go_wp2_with fail
      obtain ⟨z0, z1, z2, z3, z4, -⟩ := ZB.out.c
      refine bodyPost_ret (v := .tuple #[.agg #[.int .i64 t.kind, .int .i64 t.n, .string ⟨t.s.toArray⟩, .slice a1 t.keys.length c1, .slice a2 t.l.length c2], .int .i64 1]) ?_ rfl ?_
      · simp only [set5] at z0 z1 z2 z3 z4
        simp [results, Tryd.results11, go_sem, z0, z1, z2, z3, z4]
      · exact ⟨_, by rw [HA.out], Z.out.1, by rw [HA.out]; exact Z.out.2⟩
set_option maxRecDepth 100000 in
set_option maxHeartbeats 40000000 in
theorem ralter2_is (w : World) (ok : Nat → Prop) (t x : V) (v xv : Value) (p : List UInt8) (h : In w ok t v) (hx : In w ok x xv) (hp : p.length ≤ 140737488351232) (hN : cnt t ≤ 1000000000000) (hM : cnt x ≤ 1000000000000) :
    Calls Tryd.prog 11 #[.int .i64 2, v, str p, xv] w fun e w' => ∃ r, e = .returned (.tuple #[r, .int .i64 (changeR removedV (splitP p) t).2]) ∧ Below w.heap.size w w' ∧ In w' (okN ok w.heap.size) (changeR removedV (splitP p) t).1 r := by
  have H := hidI h.low
  have HX := hidI hx.low
  have HN := hidI hN
  have HM := hidI hM
  have HN2 := hidI (show cnt t ≤ 1000000000000000 by omega)
  have HM2 := hidI (show cnt x ≤ 1000000000000000 by omega)
  obtain ⟨a1, a2, c1, c2, rfl⟩ := h.form
  obtain ⟨a7, a8, c7, c8, rfl⟩ := hx.form
  have K0 : Hid (KA w t x a1 a2 a7 a8 c1 c2 c7 c8 (((w.alloc (.cells #[.int .i64 t.kind, .int .i64 t.n, .string ⟨t.s.toArray⟩, .slice a1 t.keys.length c1, .slice a2 t.l.length c2] 25)).alloc (.cells #[.int .i64 x.kind, .int .i64 x.n, .string ⟨x.s.toArray⟩, .slice a7 x.keys.length c7, .slice a8 x.l.length c8] 25)).alloc (.cells #[.int .i64 0, .int .i64 0, .string ⟨#[]⟩, .slice none 0 0, .slice none 0 0] 25))) := hidI ⟨h3a w _ _ _, h3b w _ _ _, h3c w _ _ _, bel_trans (bel_trans (bel_alloc _ _) (bel_alloc _ _)) (bel_alloc _ _)⟩
  clear h hx hN hM
  go_enter Tryd.func11, Tryd.ntmps11
  have KC := K0
  have hbig : w.heap.size + 2 < (((w.alloc (.cells #[.int .i64 t.kind, .int .i64 t.n, .string ⟨t.s.toArray⟩, .slice a1 t.keys.length c1, .slice a2 t.l.length c2] 25)).alloc (.cells #[.int .i64 x.kind, .int .i64 x.n, .string ⟨x.s.toArray⟩, .slice a7 x.keys.length c7, .slice a8 x.l.length c8] 25)).alloc (.cells #[.int .i64 0, .int .i64 0, .string ⟨#[]⟩, .slice none 0 0, .slice none 0 0] 25)).heap.size := KC.out.big
  obtain ⟨p0, p1, p2, p3, p4, -⟩ := KC.out.1.c
  obtain ⟨q0, q1, q2, q3, q4, -⟩ := KC.out.2.1.c
  go_wp2_with fail
  refine (rsplit_is _ p hp).mono ?_
  rintro e w2 ⟨nv, rfl, hb1, hns⟩
  obtain ⟨ns, hn1⟩ : ∃ ns, (splitP p).1 = ns := ⟨_, rfl⟩
  obtain ⟨ee, hn2⟩ : ∃ ee, (splitP p).2 = ee := ⟨_, rfl⟩
  have SC := hidI (split_code p)
  have SE : Hid ((splitP p).2 = 0 → (splitP p).1 = [] → p = []) := hidI (fun a b => split_empty (p := p) a b)
  rw [hn2] at SC ⊢
  rw [hn1, hn2] at SE
  rw [hn1] at hns
  have hsp : splitP p = (ns, ee) := by rw [← hn1, ← hn2]
  clear hn1 hn2
  obtain ⟨na, nc, rfl⟩ := hns.form
  have SP := hidI hsp
  have nlen := hns.1
  unfold maxLen at nlen
  have K2 := hidI (KC.out.bel hb1)
  have NS := hidI hns
  have hbig2 := K2.out.big
  clear p0 p1 p2 p3 p4 q0 q1 q2 q3 q4
  obtain ⟨p0, p1, p2, p3, p4, -⟩ := K2.out.1.c
  obtain ⟨q0, q1, q2, q3, q4, -⟩ := K2.out.2.1.c
  clear hb1 hns hsp hbig
  by_cases he : ee = 0
  · subst he
    go_wp2_with fail
    refine (rgood_is _ (fun k => ok k ∧ k < w.heap.size) t _ (by exact H.out.bel K2.out.2.2.2) HN2.out).mono ?_
    rintro e w3 ⟨rfl, hb1⟩
    have K3 := hidI (K2.out.bel hb1)
    have NS3 := hidI (NS.out.bel hb1)
    have hbig3 := K3.out.big
    clear hb1 hbig2
    clear p0 p1 p2 p3 p4 q0 q1 q2 q3 q4
    obtain ⟨p0, p1, p2, p3, p4, -⟩ := K3.out.1.c
    obtain ⟨q0, q1, q2, q3, q4, -⟩ := K3.out.2.1.c
    cases hg : goodV t with
    | false =>
      have HA : Hid (changeR removedV (splitP p) t = (t, 1)) := hidI (by unfold changeR; rw [SP.out, if_neg (by simp), if_pos (.inr hg)])
      clear hg
      obtain ⟨x0, x1, x2, x3, x4, y0, y1, y2, y3, y4⟩ := K3.out.2.2.1.c
      have Z : Hid (_ ∧ _) := hidI (set_out (C := w3.heap.size) (g := w.heap.size + 2) ((H.out.bel K3.out.2.2.2).weak (lowN_low (C := w3.heap.size))) K3.out.2.2.2 (by omega) K3.out.2.2.1.lt)
      have ZB : Hid _ := hidI (K3.out.2.2.1.set (.int .i64 t.kind) (.int .i64 t.n) (.string ⟨t.s.toArray⟩) (.slice a1 t.keys.length c1) (.slice a2 t.l.length c2))
      go_wp2_with fail
      obtain ⟨z0, z1, z2, z3, z4, -⟩ := ZB.out.c
      refine bodyPost_ret (v := .tuple #[.agg #[.int .i64 t.kind, .int .i64 t.n, .string ⟨t.s.toArray⟩, .slice a1 t.keys.length c1, .slice a2 t.l.length c2], .int .i64 1]) ?_ rfl ?_
      · simp only [set5] at z0 z1 z2 z3 z4
        simp [results, Tryd.results11, go_sem, z0, z1, z2, z3, z4]
      · exact ⟨_, by rw [HA.out], Z.out.1, by rw [HA.out]; exact Z.out.2⟩
    | true =>
      have NT := hidI (nice_of hg)
      have HG := hidI hg
      clear hg
      cases hns : ns with
      | nil =>
        subst hns
        have EP := hidI (SE.out (by trivial) (by trivial))
        have HA : Hid (changeR removedV (splitP p) t = (t, 1)) := hidI (by unfold changeR; rw [SP.out, if_neg (by simp), if_pos (.inl rfl)])
        simp only [List.length_nil]
        obtain ⟨x0, x1, x2, x3, x4, y0, y1, y2, y3, y4⟩ := K3.out.2.2.1.c
        have Z : Hid (_ ∧ _) := hidI (set_out (C := w3.heap.size) (g := w.heap.size + 2) ((H.out.bel K3.out.2.2.2).weak (lowN_low (C := w3.heap.size))) K3.out.2.2.2 (by omega) K3.out.2.2.1.lt)
        have ZB : Hid _ := hidI (K3.out.2.2.1.set (.int .i64 t.kind) (.int .i64 t.n) (.string ⟨t.s.toArray⟩) (.slice a1 t.keys.length c1) (.slice a2 t.l.length c2))
        go_wp2_with fail
        obtain ⟨z0, z1, z2, z3, z4, -⟩ := ZB.out.c
        refine bodyPost_ret (v := .tuple #[.agg #[.int .i64 t.kind, .int .i64 t.n, .string ⟨t.s.toArray⟩, .slice a1 t.keys.length c1, .slice a2 t.l.length c2], .int .i64 1]) ?_ rfl ?_
        · simp only [set5] at z0 z1 z2 z3 z4
          simp [results, Tryd.results11, go_sem, z0, z1, z2, z3, z4]
        · exact ⟨_, by rw [HA.out], Z.out.1, by rw [HA.out]; exact Z.out.2⟩
      | cons s rs =>
        subst hns
        obtain ⟨L, hL⟩ : ∃ L, (s :: rs).length = L := ⟨_, rfl⟩
        have hL0 : ((L : Int) == 0) = false := by rw [← hL]; simp; omega
        have HL := hidI hL
        have AR9 : Hid (changeR removedV (splitP p) t = match downV (removedV) (s :: rs) t with | none => (t, 3) | some z => if goodV z then (z, 0) else (t, 2)) := hidI (by unfold changeR; rw [SP.out, if_neg (by simp), if_neg (by simp [HG.out])]; rfl)
        rw [hL] at NS3 nlen ⊢
        clear hL
        have HD : Hid (∀ z, downV (removedV) (s :: rs) t = some z → cnt z ≤ 1000000000000000) := hidI (fun z hz => by have := cnt_down (kind := 2) (x := x) rs s t z hz; have := HN.out; have := HM.out; omega)
        obtain ⟨cd, hcd⟩ : ∃ cd : Int, (if (downV (removedV) (s :: rs) t).isSome then 0 else 3) = cd := ⟨_, rfl⟩
        have CD := hidI hcd
        clear hcd
        go_wp2_with fail
        refine (alter_all 2 (by omega) rs s _ (lowN ok w.heap.size w3.heap.size) _ t x _ _ _ ((H.out.bel K3.out.2.2.2).weak lowN_low) ((HX.out.bel K3.out.2.2.2).weak lowN_low) NT.out (by exact NS3.out)).mono ?_
        rintro e w4 ⟨r9, rfl, hb1, hy⟩
        rw [show altV 2 x = (removedV) from rfl, CD.out]
        rw [show altV 2 x = (removedV) from rfl] at hy
        obtain ⟨z, hz⟩ : ∃ z, (downV (removedV) (s :: rs) t).getD t = z := ⟨_, rfl⟩
        rw [hz] at hy
        have HZ := hidI hz
        obtain ⟨b7, b8, d7, d8, rfl⟩ := hy.form
        have K4 := hidI (K3.out.bel (bel_trans hb1 (bel_alloc w4 (.cells #[.int .i64 z.kind, .int .i64 z.n, .string ⟨z.s.toArray⟩, .slice b7 z.keys.length d7, .slice b8 z.l.length d8] 25))))
        have Y4 := hidI (hy.bel (bel_alloc w4 (.cells #[.int .i64 z.kind, .int .i64 z.n, .string ⟨z.s.toArray⟩, .slice b7 z.keys.length d7, .slice b8 z.l.length d8] 25)))
        have B4 : Hid (BoxIs (w4.alloc (.cells #[.int .i64 z.kind, .int .i64 z.n, .string ⟨z.s.toArray⟩, .slice b7 z.keys.length d7, .slice b8 z.l.length d8] 25)) w4.heap.size (.int .i64 z.kind) (.int .i64 z.n) (.string ⟨z.s.toArray⟩) (.slice b7 z.keys.length d7) (.slice b8 z.l.length d8)) := hidI (heap_alloc_new w4 _)
        obtain ⟨W4, hW4⟩ : ∃ W4, w4.alloc (.cells #[.int .i64 z.kind, .int .i64 z.n, .string ⟨z.s.toArray⟩, .slice b7 z.keys.length d7, .slice b8 z.l.length d8] 25) = W4 := ⟨_, rfl⟩
        rw [hW4] at K4 Y4 B4
        have hbig4 := K4.out.big
        clear p0 p1 p2 p3 p4 q0 q1 q2 q3 q4
        obtain ⟨p0, p1, p2, p3, p4, -⟩ := K4.out.1.c
        obtain ⟨q0, q1, q2, q3, q4, -⟩ := K4.out.2.1.c
        obtain ⟨m0, m1, m2, m3, m4, -⟩ := B4.out.c
        clear hb1 hy hz
        cases hd : downV (removedV) (s :: rs) t with
        | none =>
          have hc : cd = 3 := by rw [← CD.out, hd]; rfl
          subst hc
          have HA : Hid (changeR removedV (splitP p) t = (t, 3)) := hidI (by rw [AR9.out, hd])
          clear hd CD
          go_upto_region 11 with fail
          try rw [hW4]
          obtain ⟨x0, x1, x2, x3, x4, y0, y1, y2, y3, y4⟩ := K4.out.2.2.1.c
          have Z : Hid (_ ∧ _) := hidI (set_out (C := W4.heap.size) (g := w.heap.size + 2) ((H.out.bel K4.out.2.2.2).weak (lowN_low (C := W4.heap.size))) K4.out.2.2.2 (by omega) K4.out.2.2.1.lt)
          have ZB : Hid _ := hidI (K4.out.2.2.1.set (.int .i64 t.kind) (.int .i64 t.n) (.string ⟨t.s.toArray⟩) (.slice a1 t.keys.length c1) (.slice a2 t.l.length c2))
          go_wp2_with fail
          obtain ⟨z0, z1, z2, z3, z4, -⟩ := ZB.out.c
          refine bodyPost_ret (v := .tuple #[.agg #[.int .i64 t.kind, .int .i64 t.n, .string ⟨t.s.toArray⟩, .slice a1 t.keys.length c1, .slice a2 t.l.length c2], .int .i64 3]) ?_ rfl ?_
          · simp only [set5] at z0 z1 z2 z3 z4
            simp [results, Tryd.results11, go_sem, z0, z1, z2, z3, z4]
          · exact ⟨_, by rw [HA.out], Z.out.1, by rw [HA.out]; exact Z.out.2⟩
        | some z9 =>
          have hc : cd = 0 := by rw [← CD.out, hd]; rfl
          subst hc
          obtain rfl : z9 = z := by have := HZ.out; rw [hd] at this; exact this
          have CZ := hidI (HD.out _ hd)
          have HA0 : Hid (changeR removedV (splitP p) t = if goodV z9 then (z9, 0) else (t, 2)) := hidI (by rw [AR9.out, hd])
          clear hd CD
          go_upto_region 11 with fail
          try rw [hW4]
          clear hW4
          go_wp2_with fail
          refine (rgood_is _ _ z9 _ (by exact Y4.out) CZ.out).mono ?_
          rintro e w5 ⟨rfl, hb1⟩
          have K5 := hidI (K4.out.bel hb1)
          have Y5 := hidI (Y4.out.bel hb1)
          have B5 := hidI (box_bel hb1 B4.out)
          have hbig5 := K5.out.big
          clear p0 p1 p2 p3 p4 q0 q1 q2 q3 q4
          clear m0 m1 m2 m3 m4
          obtain ⟨p0, p1, p2, p3, p4, -⟩ := K5.out.1.c
          obtain ⟨q0, q1, q2, q3, q4, -⟩ := K5.out.2.1.c
          obtain ⟨m0, m1, m2, m3, m4, -⟩ := B5.out.c
          clear hb1
          cases hgz : goodV z9 with
          | false =>
            have HA : Hid (changeR removedV (splitP p) t = (t, 2)) := hidI (by rw [HA0.out, hgz]; rfl)
            clear hgz
            obtain ⟨x0, x1, x2, x3, x4, y0, y1, y2, y3, y4⟩ := K5.out.2.2.1.c
            have Z : Hid (_ ∧ _) := hidI (set_out (C := w5.heap.size) (g := w.heap.size + 2) ((H.out.bel K5.out.2.2.2).weak (lowN_low (C := w5.heap.size))) K5.out.2.2.2 (by omega) K5.out.2.2.1.lt)
            have ZB : Hid _ := hidI (K5.out.2.2.1.set (.int .i64 t.kind) (.int .i64 t.n) (.string ⟨t.s.toArray⟩) (.slice a1 t.keys.length c1) (.slice a2 t.l.length c2))
            go_wp2_with fail
            obtain ⟨z0, z1, z2, z3, z4, -⟩ := ZB.out.c
            refine bodyPost_ret (v := .tuple #[.agg #[.int .i64 t.kind, .int .i64 t.n, .string ⟨t.s.toArray⟩, .slice a1 t.keys.length c1, .slice a2 t.l.length c2], .int .i64 2]) ?_ rfl ?_
            · simp only [set5] at z0 z1 z2 z3 z4
              simp [results, Tryd.results11, go_sem, z0, z1, z2, z3, z4]
            · exact ⟨_, by rw [HA.out], Z.out.1, by rw [HA.out]; exact Z.out.2⟩
          | true =>
            have HA : Hid (changeR removedV (splitP p) t = (z9, 0)) := hidI (by rw [HA0.out, hgz]; rfl)
            clear hgz
            have R := hidI (put_out K5.out Y5.out hbig3 hbig3)
            obtain ⟨x0, x1, x2, x3, x4, y0, y1, y2, y3, y4⟩ := K5.out.2.2.1.c
            go_wp2_with fail
            obtain ⟨r1, r2, r3⟩ := R.out
            obtain ⟨z0, z1, z2, z3, z4, -⟩ := r3.c
            refine bodyPost_ret (v := .tuple #[.agg #[.int .i64 z9.kind, .int .i64 z9.n, .string ⟨z9.s.toArray⟩, .slice b7 z9.keys.length d7, .slice b8 z9.l.length d8], .int .i64 0]) ?_ rfl ?_
            · simp only [set5] at z0 z1 z2 z3 z4
              simp [results, Tryd.results11, go_sem, z0, z1, z2, z3, z4]
            · exact ⟨_, by rw [HA.out], r1, by rw [HA.out]; exact r2⟩
  · have he1 : ee = 1 := SC.out.resolve_left he
    subst he1
    have HA : Hid (changeR removedV (splitP p) t = (t, 1)) := hidI (by unfold changeR; rw [SP.out, if_pos (by simp)])
    clear he
    obtain ⟨x0, x1, x2, x3, x4, y0, y1, y2, y3, y4⟩ := K2.out.2.2.1.c
    have Z : Hid (_ ∧ _) := hidI (set_out (C := w2.heap.size) (g := w.heap.size + 2) ((H.out.bel K2.out.2.2.2).weak (lowN_low (C := w2.heap.size))) K2.out.2.2.2 (by omega) K2.out.2.2.1.lt)
    have ZB : Hid _ := hidI (K2.out.2.2.1.set (.int .i64 t.kind) (.int .i64 t.n) (.string ⟨t.s.toArray⟩) (.slice a1 t.keys.length c1) (.slice a2 t.l.length c2))
    go_wp2_with fail
    obtain ⟨z0, z1, z2, z3, z4, -⟩ := ZB.out.c
    refine bodyPost_ret (v := .tuple #[.agg #[.int .i64 t.kind, .int .i64 t.n, .string ⟨t.s.toArray⟩, .slice a1 t.keys.length c1, .slice a2 t.l.length c2], .int .i64 1]) ?_ rfl ?_
    · simp only [set5] at z0 z1 z2 z3 z4
      simp [results, Tryd.results11, go_sem, z0, z1, z2, z3, z4]
    · exact ⟨_, by rw [HA.out], Z.out.1, by rw [HA.out]; exact Z.out.2⟩
set_option maxRecDepth 100000 in
set_option maxHeartbeats 40000000 in
theorem ralter3_is (w : World) (ok : Nat → Prop) (t x : V) (v xv : Value) (p : List UInt8) (h : In w ok t v) (hx : In w ok x xv) (hp : p.length ≤ 140737488351232) (hN : cnt t ≤ 1000000000000) (hM : cnt x ≤ 1000000000000) :
    Calls Tryd.prog 11 #[.int .i64 3, v, str p, xv] w fun e w' => ∃ r, e = .returned (.tuple #[r, .int .i64 (layR replacedV p (splitP p) t x).2]) ∧ Below w.heap.size w w' ∧ In w' (okN ok w.heap.size) (layR replacedV p (splitP p) t x).1 r := by
  have H := hidI h.low
  have HX := hidI hx.low
  have HN := hidI hN
  have HM := hidI hM
  have HN2 := hidI (show cnt t ≤ 1000000000000000 by omega)
  have HM2 := hidI (show cnt x ≤ 1000000000000000 by omega)
  obtain ⟨a1, a2, c1, c2, rfl⟩ := h.form
  obtain ⟨a7, a8, c7, c8, rfl⟩ := hx.form
  have K0 : Hid (KA w t x a1 a2 a7 a8 c1 c2 c7 c8 (((w.alloc (.cells #[.int .i64 t.kind, .int .i64 t.n, .string ⟨t.s.toArray⟩, .slice a1 t.keys.length c1, .slice a2 t.l.length c2] 25)).alloc (.cells #[.int .i64 x.kind, .int .i64 x.n, .string ⟨x.s.toArray⟩, .slice a7 x.keys.length c7, .slice a8 x.l.length c8] 25)).alloc (.cells #[.int .i64 0, .int .i64 0, .string ⟨#[]⟩, .slice none 0 0, .slice none 0 0] 25))) := hidI ⟨h3a w _ _ _, h3b w _ _ _, h3c w _ _ _, bel_trans (bel_trans (bel_alloc _ _) (bel_alloc _ _)) (bel_alloc _ _)⟩
  clear h hx hN hM
  go_enter Tryd.func11, Tryd.ntmps11
  go_wp2_with fail
  refine (rgood_is _ (fun k => ok k ∧ k < w.heap.size) x _ (by exact HX.out.bel K0.out.2.2.2) HM2.out).mono ?_
  rintro e w1 ⟨rfl, hb1⟩
  have KC := hidI (K0.out.bel hb1)
  have hbig := KC.out.big
  clear hb1
  obtain ⟨p0, p1, p2, p3, p4, -⟩ := KC.out.1.c
  obtain ⟨q0, q1, q2, q3, q4, -⟩ := KC.out.2.1.c
  cases hgx : goodV x with
  | false =>
    have HA : Hid (layR replacedV p (splitP p) t x = (t, 1)) := hidI (by unfold layR; rw [if_pos hgx])
    clear hgx
    obtain ⟨x0, x1, x2, x3, x4, y0, y1, y2, y3, y4⟩ := KC.out.2.2.1.c
    have Z : Hid (_ ∧ _) := hidI (set_out (C := w1.heap.size) (g := w.heap.size + 2) ((H.out.bel KC.out.2.2.2).weak (lowN_low (C := w1.heap.size))) KC.out.2.2.2 (by omega) KC.out.2.2.1.lt)
    have ZB : Hid _ := hidI (KC.out.2.2.1.set (.int .i64 t.kind) (.int .i64 t.n) (.string ⟨t.s.toArray⟩) (.slice a1 t.keys.length c1) (.slice a2 t.l.length c2))
    go_wp2_with fail
    obtain ⟨z0, z1, z2, z3, z4, -⟩ := ZB.out.c
    refine bodyPost_ret (v := .tuple #[.agg #[.int .i64 t.kind, .int .i64 t.n, .string ⟨t.s.toArray⟩, .slice a1 t.keys.length c1, .slice a2 t.l.length c2], .int .i64 1]) ?_ rfl ?_
    · simp only [set5] at z0 z1 z2 z3 z4
      simp [results, Tryd.results11, go_sem, z0, z1, z2, z3, z4]
    · exact ⟨_, by rw [HA.out], Z.out.1, by rw [HA.out]; exact Z.out.2⟩
  | true =>
    have GX := hidI hgx
    clear hgx
    go_wp2_with fail
    refine (rsplit_is _ p hp).mono ?_
    rintro e w2 ⟨nv, rfl, hb1, hns⟩
    obtain ⟨ns, hn1⟩ : ∃ ns, (splitP p).1 = ns := ⟨_, rfl⟩
    obtain ⟨ee, hn2⟩ : ∃ ee, (splitP p).2 = ee := ⟨_, rfl⟩
    have SC := hidI (split_code p)
    have SE : Hid ((splitP p).2 = 0 → (splitP p).1 = [] → p = []) := hidI (fun a b => split_empty (p := p) a b)
    rw [hn2] at SC ⊢
    rw [hn1, hn2] at SE
    rw [hn1] at hns
    have hsp : splitP p = (ns, ee) := by rw [← hn1, ← hn2]
    clear hn1 hn2
    obtain ⟨na, nc, rfl⟩ := hns.form
    have SP := hidI hsp
    have nlen := hns.1
    unfold maxLen at nlen
    have K2 := hidI (KC.out.bel hb1)
    have NS := hidI hns
    have hbig2 := K2.out.big
    clear p0 p1 p2 p3 p4 q0 q1 q2 q3 q4
    obtain ⟨p0, p1, p2, p3, p4, -⟩ := K2.out.1.c
    obtain ⟨q0, q1, q2, q3, q4, -⟩ := K2.out.2.1.c
    clear hb1 hns hsp hbig
    by_cases he : ee = 0
    · subst he
      go_wp2_with fail
      refine (rgood_is _ (fun k => ok k ∧ k < w.heap.size) t _ (by exact H.out.bel K2.out.2.2.2) HN2.out).mono ?_
      rintro e w3 ⟨rfl, hb1⟩
      have K3 := hidI (K2.out.bel hb1)
      have NS3 := hidI (NS.out.bel hb1)
      have hbig3 := K3.out.big
      clear hb1 hbig2
      clear p0 p1 p2 p3 p4 q0 q1 q2 q3 q4
      obtain ⟨p0, p1, p2, p3, p4, -⟩ := K3.out.1.c
      obtain ⟨q0, q1, q2, q3, q4, -⟩ := K3.out.2.1.c
      cases hg : goodV t with
      | false =>
        have HA : Hid (layR replacedV p (splitP p) t x = (t, 1)) := hidI (by unfold layR; rw [if_neg (by simp [GX.out]), if_neg (by simp [hg])]; unfold changeR; rw [SP.out, if_neg (by simp), if_pos (.inr hg)])
        clear hg
        obtain ⟨x0, x1, x2, x3, x4, y0, y1, y2, y3, y4⟩ := K3.out.2.2.1.c
        have Z : Hid (_ ∧ _) := hidI (set_out (C := w3.heap.size) (g := w.heap.size + 2) ((H.out.bel K3.out.2.2.2).weak (lowN_low (C := w3.heap.size))) K3.out.2.2.2 (by omega) K3.out.2.2.1.lt)
        have ZB : Hid _ := hidI (K3.out.2.2.1.set (.int .i64 t.kind) (.int .i64 t.n) (.string ⟨t.s.toArray⟩) (.slice a1 t.keys.length c1) (.slice a2 t.l.length c2))
        go_wp2_with fail
        obtain ⟨z0, z1, z2, z3, z4, -⟩ := ZB.out.c
        refine bodyPost_ret (v := .tuple #[.agg #[.int .i64 t.kind, .int .i64 t.n, .string ⟨t.s.toArray⟩, .slice a1 t.keys.length c1, .slice a2 t.l.length c2], .int .i64 1]) ?_ rfl ?_
        · simp only [set5] at z0 z1 z2 z3 z4
          simp [results, Tryd.results11, go_sem, z0, z1, z2, z3, z4]
        · exact ⟨_, by rw [HA.out], Z.out.1, by rw [HA.out]; exact Z.out.2⟩
      | true =>
        have NT := hidI (nice_of hg)
        have HG := hidI hg
        clear hg
        cases hns : ns with
        | nil =>
          subst hns
          have EP := hidI (SE.out (by trivial) (by trivial))
          have HA : Hid (layR replacedV p (splitP p) t x = (x, 0)) := hidI (by unfold layR; rw [if_neg (by simp [GX.out]), if_pos ⟨EP.out, HG.out⟩])
          obtain ⟨x0, x1, x2, x3, x4, y0, y1, y2, y3, y4⟩ := K3.out.2.2.1.c
          have Z : Hid (_ ∧ _) := hidI (set_out (C := w3.heap.size) (g := w.heap.size + 2) ((HX.out.bel K3.out.2.2.2).weak (lowN_low (C := w3.heap.size))) K3.out.2.2.2 (by omega) K3.out.2.2.1.lt)
          have ZB : Hid _ := hidI (K3.out.2.2.1.set (.int .i64 x.kind) (.int .i64 x.n) (.string ⟨x.s.toArray⟩) (.slice a7 x.keys.length c7) (.slice a8 x.l.length c8))
          simp only [List.length_nil]
          go_wp2_with fail
          obtain ⟨z0, z1, z2, z3, z4, -⟩ := ZB.out.c
          refine bodyPost_ret (v := .tuple #[.agg #[.int .i64 x.kind, .int .i64 x.n, .string ⟨x.s.toArray⟩, .slice a7 x.keys.length c7, .slice a8 x.l.length c8], .int .i64 0]) ?_ rfl ?_
          · simp only [set5] at z0 z1 z2 z3 z4
            simp [results, Tryd.results11, go_sem, z0, z1, z2, z3, z4]
          · exact ⟨_, by rw [HA.out], Z.out.1, by rw [HA.out]; exact Z.out.2⟩
        | cons s rs =>
          subst hns
          obtain ⟨L, hL⟩ : ∃ L, (s :: rs).length = L := ⟨_, rfl⟩
          have hL0 : ((L : Int) == 0) = false := by rw [← hL]; simp; omega
          have HL := hidI hL
          have AR9 : Hid (layR replacedV p (splitP p) t x = match downV (replacedV x) (s :: rs) t with | none => (t, 3) | some z => if goodV z then (z, 0) else (t, 2)) := hidI (by unfold layR; rw [if_neg (by simp [GX.out]), if_neg (by intro h9; rw [h9.1] at SP; have := SP.out; simp [splitP] at this)]; unfold changeR; rw [SP.out, if_neg (by simp), if_neg (by simp [HG.out])]; rfl)
          rw [hL] at NS3 nlen ⊢
          clear hL
          have HD : Hid (∀ z, downV (replacedV x) (s :: rs) t = some z → cnt z ≤ 1000000000000000) := hidI (fun z hz => by have := cnt_down (kind := 3) (x := x) rs s t z hz; have := HN.out; have := HM.out; omega)
          obtain ⟨cd, hcd⟩ : ∃ cd : Int, (if (downV (replacedV x) (s :: rs) t).isSome then 0 else 3) = cd := ⟨_, rfl⟩
          have CD := hidI hcd
          clear hcd
          go_wp2_with fail
          refine (alter_all 3 (by omega) rs s _ (lowN ok w.heap.size w3.heap.size) _ t x _ _ _ ((H.out.bel K3.out.2.2.2).weak lowN_low) ((HX.out.bel K3.out.2.2.2).weak lowN_low) NT.out (by exact NS3.out)).mono ?_
          rintro e w4 ⟨r9, rfl, hb1, hy⟩
          rw [show altV 3 x = (replacedV x) from rfl, CD.out]
          rw [show altV 3 x = (replacedV x) from rfl] at hy
          obtain ⟨z, hz⟩ : ∃ z, (downV (replacedV x) (s :: rs) t).getD t = z := ⟨_, rfl⟩
          rw [hz] at hy
          have HZ := hidI hz
          obtain ⟨b7, b8, d7, d8, rfl⟩ := hy.form
          have K4 := hidI (K3.out.bel (bel_trans hb1 (bel_alloc w4 (.cells #[.int .i64 z.kind, .int .i64 z.n, .string ⟨z.s.toArray⟩, .slice b7 z.keys.length d7, .slice b8 z.l.length d8] 25))))
          have Y4 := hidI (hy.bel (bel_alloc w4 (.cells #[.int .i64 z.kind, .int .i64 z.n, .string ⟨z.s.toArray⟩, .slice b7 z.keys.length d7, .slice b8 z.l.length d8] 25)))
          have B4 : Hid (BoxIs (w4.alloc (.cells #[.int .i64 z.kind, .int .i64 z.n, .string ⟨z.s.toArray⟩, .slice b7 z.keys.length d7, .slice b8 z.l.length d8] 25)) w4.heap.size (.int .i64 z.kind) (.int .i64 z.n) (.string ⟨z.s.toArray⟩) (.slice b7 z.keys.length d7) (.slice b8 z.l.length d8)) := hidI (heap_alloc_new w4 _)
          obtain ⟨W4, hW4⟩ : ∃ W4, w4.alloc (.cells #[.int .i64 z.kind, .int .i64 z.n, .string ⟨z.s.toArray⟩, .slice b7 z.keys.length d7, .slice b8 z.l.length d8] 25) = W4 := ⟨_, rfl⟩
          rw [hW4] at K4 Y4 B4
          have hbig4 := K4.out.big
          clear p0 p1 p2 p3 p4 q0 q1 q2 q3 q4
          obtain ⟨p0, p1, p2, p3, p4, -⟩ := K4.out.1.c
          obtain ⟨q0, q1, q2, q3, q4, -⟩ := K4.out.2.1.c
          obtain ⟨m0, m1, m2, m3, m4, -⟩ := B4.out.c
          clear hb1 hy hz
          cases hd : downV (replacedV x) (s :: rs) t with
          | none =>
            have hc : cd = 3 := by rw [← CD.out, hd]; rfl
            subst hc
            have HA : Hid (layR replacedV p (splitP p) t x = (t, 3)) := hidI (by rw [AR9.out, hd])
            clear hd CD
            go_upto_region 11 with fail
            try rw [hW4]
            obtain ⟨x0, x1, x2, x3, x4, y0, y1, y2, y3, y4⟩ := K4.out.2.2.1.c
            have Z : Hid (_ ∧ _) := hidI (set_out (C := W4.heap.size) (g := w.heap.size + 2) ((H.out.bel K4.out.2.2.2).weak (lowN_low (C := W4.heap.size))) K4.out.2.2.2 (by omega) K4.out.2.2.1.lt)
            have ZB : Hid _ := hidI (K4.out.2.2.1.set (.int .i64 t.kind) (.int .i64 t.n) (.string ⟨t.s.toArray⟩) (.slice a1 t.keys.length c1) (.slice a2 t.l.length c2))
            go_wp2_with fail
            obtain ⟨z0, z1, z2, z3, z4, -⟩ := ZB.out.c
            refine bodyPost_ret (v := .tuple #[.agg #[.int .i64 t.kind, .int .i64 t.n, .string ⟨t.s.toArray⟩, .slice a1 t.keys.length c1, .slice a2 t.l.length c2], .int .i64 3]) ?_ rfl ?_
            · simp only [set5] at z0 z1 z2 z3 z4
              simp [results, Tryd.results11, go_sem, z0, z1, z2, z3, z4]
            · exact ⟨_, by rw [HA.out], Z.out.1, by rw [HA.out]; exact Z.out.2⟩
          | some z9 =>
            have hc : cd = 0 := by rw [← CD.out, hd]; rfl
            subst hc
            obtain rfl : z9 = z := by have := HZ.out; rw [hd] at this; exact this
            have CZ := hidI (HD.out _ hd)
            have HA0 : Hid (layR replacedV p (splitP p) t x = if goodV z9 then (z9, 0) else (t, 2)) := hidI (by rw [AR9.out, hd])
            clear hd CD
            go_upto_region 11 with fail
            try rw [hW4]
            clear hW4
            go_wp2_with fail
            refine (rgood_is _ _ z9 _ (by exact Y4.out) CZ.out).mono ?_
            rintro e w5 ⟨rfl, hb1⟩
            have K5 := hidI (K4.out.bel hb1)
            have Y5 := hidI (Y4.out.bel hb1)
            have B5 := hidI (box_bel hb1 B4.out)
            have hbig5 := K5.out.big
            clear p0 p1 p2 p3 p4 q0 q1 q2 q3 q4
            clear m0 m1 m2 m3 m4
            obtain ⟨p0, p1, p2, p3, p4, -⟩ := K5.out.1.c
            obtain ⟨q0, q1, q2, q3, q4, -⟩ := K5.out.2.1.c
            obtain ⟨m0, m1, m2, m3, m4, -⟩ := B5.out.c
            clear hb1
            cases hgz : goodV z9 with
            | false =>
              have HA : Hid (layR replacedV p (splitP p) t x = (t, 2)) := hidI (by rw [HA0.out, hgz]; rfl)
              clear hgz
              obtain ⟨x0, x1, x2, x3, x4, y0, y1, y2, y3, y4⟩ := K5.out.2.2.1.c
              have Z : Hid (_ ∧ _) := hidI (set_out (C := w5.heap.size) (g := w.heap.size + 2) ((H.out.bel K5.out.2.2.2).weak (lowN_low (C := w5.heap.size))) K5.out.2.2.2 (by omega) K5.out.2.2.1.lt)
              have ZB : Hid _ := hidI (K5.out.2.2.1.set (.int .i64 t.kind) (.int .i64 t.n) (.string ⟨t.s.toArray⟩) (.slice a1 t.keys.length c1) (.slice a2 t.l.length c2))
              go_wp2_with fail
              obtain ⟨z0, z1, z2, z3, z4, -⟩ := ZB.out.c
              refine bodyPost_ret (v := .tuple #[.agg #[.int .i64 t.kind, .int .i64 t.n, .string ⟨t.s.toArray⟩, .slice a1 t.keys.length c1, .slice a2 t.l.length c2], .int .i64 2]) ?_ rfl ?_
              · simp only [set5] at z0 z1 z2 z3 z4
                simp [results, Tryd.results11, go_sem, z0, z1, z2, z3, z4]
              · exact ⟨_, by rw [HA.out], Z.out.1, by rw [HA.out]; exact Z.out.2⟩
            | true =>
              have HA : Hid (layR replacedV p (splitP p) t x = (z9, 0)) := hidI (by rw [HA0.out, hgz]; rfl)
              clear hgz
              have R := hidI (put_out K5.out Y5.out hbig3 hbig3)
              obtain ⟨x0, x1, x2, x3, x4, y0, y1, y2, y3, y4⟩ := K5.out.2.2.1.c
              go_wp2_with fail
              obtain ⟨r1, r2, r3⟩ := R.out
              obtain ⟨z0, z1, z2, z3, z4, -⟩ := r3.c
              refine bodyPost_ret (v := .tuple #[.agg #[.int .i64 z9.kind, .int .i64 z9.n, .string ⟨z9.s.toArray⟩, .slice b7 z9.keys.length d7, .slice b8 z9.l.length d8], .int .i64 0]) ?_ rfl ?_
              · simp only [set5] at z0 z1 z2 z3 z4
                simp [results, Tryd.results11, go_sem, z0, z1, z2, z3, z4]
              · exact ⟨_, by rw [HA.out], r1, by rw [HA.out]; exact r2⟩
    · have he1 : ee = 1 := SC.out.resolve_left he
      subst he1
      have HA : Hid (layR replacedV p (splitP p) t x = (t, 1)) := hidI (by unfold layR; rw [if_neg (by simp [GX.out]), if_neg (by intro h9; rw [h9.1] at SP; have := SP.out; simp [splitP] at this)]; unfold changeR; rw [SP.out, if_pos (by simp)])
      clear he
      obtain ⟨x0, x1, x2, x3, x4, y0, y1, y2, y3, y4⟩ := K2.out.2.2.1.c
      have Z : Hid (_ ∧ _) := hidI (set_out (C := w2.heap.size) (g := w.heap.size + 2) ((H.out.bel K2.out.2.2.2).weak (lowN_low (C := w2.heap.size))) K2.out.2.2.2 (by omega) K2.out.2.2.1.lt)
      have ZB : Hid _ := hidI (K2.out.2.2.1.set (.int .i64 t.kind) (.int .i64 t.n) (.string ⟨t.s.toArray⟩) (.slice a1 t.keys.length c1) (.slice a2 t.l.length c2))
      go_wp2_with fail
      obtain ⟨z0, z1, z2, z3, z4, -⟩ := ZB.out.c
      refine bodyPost_ret (v := .tuple #[.agg #[.int .i64 t.kind, .int .i64 t.n, .string ⟨t.s.toArray⟩, .slice a1 t.keys.length c1, .slice a2 t.l.length c2], .int .i64 1]) ?_ rfl ?_
      · simp only [set5] at z0 z1 z2 z3 z4
        simp [results, Tryd.results11, go_sem, z0, z1, z2, z3, z4]
      · exact ⟨_, by rw [HA.out], Z.out.1, by rw [HA.out]; exact Z.out.2⟩
end Go.Proofs.YtaifciobaapehaaDoor

/- A path, a value put there, and got: plainly. -/
set_option linter.unusedSimpArgs false
set_option linter.unusedVariables false
namespace Go.Proofs.YtaifciobaapehaaDoor
open Go.RowKit

def ptT : V := ⟨5, 0, [], [], []⟩
def ptX : V := ⟨2, 3, [], [], []⟩
def ptP : List UInt8 := [47, 97, 126, 49, 98]
theorem pt_split : splitP ptP = ([[97, 47, 98]], 0) := by
  have e : joinP [[97, 47, 98]] = ptP := by
    unfold joinP
    rw [List.flatMap_cons, marked_eq]; rfl
  have := split_join [[97, 47, 98]] (by rw [e]; decide)
  rwa [e] at this
theorem pt_add : ∃ T, layR addedV ptP (splitP ptP) ptT ptX = (T, 0) ∧ getR (splitP ptP) T = (ptX, 0) := by
  rw [pt_split]
  have h : layR addedV ptP ([[97, 47, 98]], 0) ptT ptX = (withV ptT [97, 47, 98] ptX, 0) := by kernel_rfl
  refine ⟨_, h, add_get (p := ptP) (fun e => by cases e) h (by decide)⟩
theorem pt_i64 (n : Int) (h1 : 0 ≤ n) (h2 : n ≤ 100) : I64 n := by unfold I64; omega

end Go.Proofs.YtaifciobaapehaaDoor

/- What points of package stairwelllaw does. -/
set_option linter.unusedSimpArgs false
set_option linter.unusedVariables false
namespace Go.Proofs.YtaifciobaapehaaDoor
open Go.RowKit

set_option maxRecDepth 100000 in
set_option maxHeartbeats 4000000 in
theorem lpoints_at (w : World) (hM : GlobM w) : Calls Tryd.prog 14 #[] w fun e w' => e = .returned (.bool true) ∧ Below w.heap.size w w' := by
  obtain ⟨T, hT, hG⟩ := pt_add
  have HT := hidI hT
  have HG := hidI hG
  have HMM := hidI hM
  clear hT hG hM
  go_enter Tryd.func14, Tryd.ntmps14
  go_wp2_with fail
  refine (add_is _ (fun _ => True) ptT ptX _ _ ptP (by exact in_leaf _ _ 5 0 (pt_i64 _ (by omega) (by omega)) (pt_i64 _ (by omega) (by omega))) (by exact in_leaf _ _ 2 3 (pt_i64 _ (by omega) (by omega)) (pt_i64 _ (by omega) (by omega))) (by decide) (by exact HMM.out)).mono ?_
  rintro e w1 ⟨r, rfl, hb1, hr⟩
  rw [HT.out] at hr ⊢
  simp only at hr ⊢
  obtain ⟨a5, a6, c5, c6, rfl⟩ := hr.form
  have K1 : Hid (BoxIs (w1.alloc (.cells #[.int .i64 T.kind, .int .i64 T.n, .string ⟨T.s.toArray⟩, .slice a5 T.keys.length c5, .slice a6 T.l.length c6] 25)) w1.heap.size (.int .i64 T.kind) (.int .i64 T.n) (.string ⟨T.s.toArray⟩) (.slice a5 T.keys.length c5) (.slice a6 T.l.length c6) ∧ Below w.heap.size w (w1.alloc (.cells #[.int .i64 T.kind, .int .i64 T.n, .string ⟨T.s.toArray⟩, .slice a5 T.keys.length c5, .slice a6 T.l.length c6] 25)) ∧
      In (w1.alloc (.cells #[.int .i64 T.kind, .int .i64 T.n, .string ⟨T.s.toArray⟩, .slice a5 T.keys.length c5, .slice a6 T.l.length c6] 25)) (okN (fun _ => True) w.heap.size) T (.agg #[.int .i64 T.kind, .int .i64 T.n, .string ⟨T.s.toArray⟩, .slice a5 T.keys.length c5, .slice a6 T.l.length c6])) := ⟨heap_alloc_new w1 _, bel_trans hb1 (bel_alloc _ _), hr.bel (bel_alloc _ _)⟩
  obtain ⟨q0, q1, q2, q3, q4, -⟩ := K1.out.1.c
  clear hb1 hr
  go_wp2_with fail
  refine (get_is _ _ T _ ptP (by exact K1.out.2.2) (by decide) (by exact HMM.out.bel K1.out.2.1)).mono ?_
  rintro e w2 ⟨r, rfl, hb2, hr⟩
  rw [HG.out] at hr ⊢
  simp only at hr ⊢
  obtain ⟨b5, b6, d5, d6, rfl⟩ := hr.form
  have HB := hidI (bel_trans K1.out.2.1 (bel_trans hb2 (bel_alloc w2 (.cells #[.int .i64 ptX.kind, .int .i64 ptX.n, .string ⟨ptX.s.toArray⟩, .slice b5 ptX.keys.length d5, .slice b6 ptX.l.length d6] 25))))
  have n3 : ptX.n = 3 := rfl
  clear hb2 hr q0 q1 q2 q3 q4 K1
  go_wp2_with fail
  go_ret
  exact ⟨rfl, HB.out⟩
end Go.Proofs.YtaifciobaapehaaDoor

/- What CopyValue of the reference does, so told. -/
set_option linter.unusedSimpArgs false
set_option linter.unusedVariables false
namespace Go.Proofs.YtaifciobaapehaaDoor
open Go.RowKit

theorem rcopy_is (w : World) (ok : Nat → Prop) (t : V) (v : Value) (h : In w ok t v) (hN : siz t ≤ 1000000000000) :
    Calls Tryd.prog 6 #[v] w fun e w' => ∃ r, e = .returned r ∧ Below w.heap.size w w' ∧ In w' (fun k => w.heap.size ≤ k) t r := by
  obtain ⟨d, h⟩ := h
  refine (copyValue_all d w ok t v h hN).mono ?_
  rintro e w' ⟨r, rfl, hb, hr⟩
  exact ⟨r, rfl, hb, hr.is⟩
end Go.Proofs.YtaifciobaapehaaDoor

/- What SameValue of package stairwellref does. -/
set_option linter.unusedSimpArgs false
set_option linter.unusedVariables false
namespace Go.Proofs.YtaifciobaapehaaDoor
open Go.RowKit

def RSameC (d : Nat) : Prop := ∀ (w : World) (ok ok' : Nat → Prop) (a b : V) (va vb : Value), VIs w ok d a va → VIs w ok' d b vb →
    Calls Tryd.prog 9 #[va, vb] w fun e w' => e = .returned (.bool (sameS d a b)) ∧ Below w.heap.size w w'

set_option maxRecDepth 100000 in
set_option maxHeartbeats 8000000 in
theorem rsame_succ (d : Nat) (ih : RSameC d) : RSameC (d + 1) := by
  intro w ok ok' a b va vb ha hb
  obtain ⟨a1, a2, c1, c2, rfl⟩ := ha.shape
  obtain ⟨b1, b2, d1, d2, rfl⟩ := hb.shape
  have IH := hidI ih
  have lA : a.keys.length ≤ maxLen ∧ a.l.length ≤ maxLen := by obtain ⟨ks, ls, e, h1, h2, h3, h4, h5⟩ := ha; exact ⟨h4.1, h5.1⟩
  have lB : b.keys.length ≤ maxLen ∧ b.l.length ≤ maxLen := by obtain ⟨ks, ls, e, h1, h2, h3, h4, h5⟩ := hb; exact ⟨h4.1, h5.1⟩
  unfold maxLen at lA lB
  obtain ⟨lA1, lA2⟩ := lA
  obtain ⟨lB1, lB2⟩ := lB
  have HA := hidI ha
  have HB := hidI hb
  clear ha hb ih
  by_cases hk : ¬ (a.kind = b.kind)
  · have F : Hid (sameS (d + 1) a b = false) := hidI (by simp [sameS, hk])
    have Ehk : (a.kind == b.kind) = false := by rw [beq_eq_false_iff_ne]; exact hk
    have Nhk : (a.kind != b.kind) = true := by simp [bne, Ehk]
    go_enter Tryd.func9, Tryd.ntmps9
    go_wp2_with fail
    all_goals
      go_ret
      rw [F.out]
      exact ⟨rfl, bel_trans (bel_alloc _ _) (bel_alloc _ _)⟩
  rw [Decidable.not_not] at hk
  by_cases hn : ¬ (a.n = b.n)
  · have F : Hid (sameS (d + 1) a b = false) := hidI (by simp [sameS, hn])
    have Ehk : (a.kind == b.kind) = true := by rw [beq_iff_eq]; exact hk
    have Ehn : (a.n == b.n) = false := by rw [beq_eq_false_iff_ne]; exact hn
    have Nhn : (a.n != b.n) = true := by simp [bne, Ehn]
    clear hk
    go_enter Tryd.func9, Tryd.ntmps9
    go_wp2_with fail
    all_goals
      go_ret
      rw [F.out]
      exact ⟨rfl, bel_trans (bel_alloc _ _) (bel_alloc _ _)⟩
  rw [Decidable.not_not] at hn
  by_cases hs : ¬ (a.s = b.s)
  · have F : Hid (sameS (d + 1) a b = false) := hidI (by simp [sameS, hs])
    have Ehk : (a.kind == b.kind) = true := by rw [beq_iff_eq]; exact hk
    have Ehn : (a.n == b.n) = true := by rw [beq_iff_eq]; exact hn
    have Ehs : (ByteArray.mk a.s.toArray == ByteArray.mk b.s.toArray) = false := ba_ne (by simpa using hs)
    have Nhs : (ByteArray.mk a.s.toArray != ByteArray.mk b.s.toArray) = true := by simp [bne, Ehs]
    clear hk hn
    go_enter Tryd.func9, Tryd.ntmps9
    go_wp2_with fail
    all_goals
      go_ret
      rw [F.out]
      exact ⟨rfl, bel_trans (bel_alloc _ _) (bel_alloc _ _)⟩
  rw [Decidable.not_not] at hs
  by_cases hkl : ¬ (a.keys.length = b.keys.length)
  · have hkx : a.keys ≠ b.keys := fun e => hkl (by rw [e])
    have F : Hid (sameS (d + 1) a b = false) := hidI (by simp [sameS, hkx])
    have Ehk : (a.kind == b.kind) = true := by rw [beq_iff_eq]; exact hk
    have Ehn : (a.n == b.n) = true := by rw [beq_iff_eq]; exact hn
    have Ehs : (ByteArray.mk a.s.toArray == ByteArray.mk b.s.toArray) = true := ba_eq (by simpa using hs)
    have Ehkl : ((a.keys.length : Int) == (b.keys.length : Int)) = false := by rw [beq_eq_false_iff_ne]; omega
    have Nhkl : ((a.keys.length : Int) != (b.keys.length : Int)) = true := by simp only [bne, Ehkl, Bool.not_false]
    clear hkx
    clear hk hn hs
    go_enter Tryd.func9, Tryd.ntmps9
    go_wp2_with fail
    all_goals
      go_ret
      rw [F.out]
      exact ⟨rfl, bel_trans (bel_alloc _ _) (bel_alloc _ _)⟩
  rw [Decidable.not_not] at hkl
  by_cases hll : ¬ (a.l.length = b.l.length)
  · have F : Hid (sameS (d + 1) a b = false) := hidI (by simp [sameS, hll])
    have Ehk : (a.kind == b.kind) = true := by rw [beq_iff_eq]; exact hk
    have Ehn : (a.n == b.n) = true := by rw [beq_iff_eq]; exact hn
    have Ehs : (ByteArray.mk a.s.toArray == ByteArray.mk b.s.toArray) = true := ba_eq (by simpa using hs)
    have Ehkl : ((a.keys.length : Int) == (b.keys.length : Int)) = true := by rw [beq_iff_eq]; omega
    have Ehll : ((a.l.length : Int) == (b.l.length : Int)) = false := by rw [beq_eq_false_iff_ne]; omega
    have Nhll : ((a.l.length : Int) != (b.l.length : Int)) = true := by simp only [bne, Ehll, Bool.not_false]
    clear hk hn hs hkl
    go_enter Tryd.func9, Tryd.ntmps9
    go_wp2_with fail
    all_goals
      go_ret
      rw [F.out]
      exact ⟨rfl, bel_trans (bel_alloc _ _) (bel_alloc _ _)⟩
  rw [Decidable.not_not] at hll
  have FS : Hid (sameS (d + 1) a b = (decide (a.keys = b.keys) && allS (sameS d) a.l b.l)) := hidI (by simp [sameS, hk, hn, hs, hll])
  have HKL := hidI hkl
  have HLL := hidI hll
  rw [← hk, ← hn, ← hs, ← hkl, ← hll] at HB ⊢
  have es : (ByteArray.mk a.s.toArray == ByteArray.mk a.s.toArray) = true := ba_eq rfl
  have I0 : Hid (SameI w ((w.alloc (.cells #[.int .i64 a.kind, .int .i64 a.n, .string ⟨a.s.toArray⟩, .slice a1 a.keys.length c1, .slice a2 a.l.length c2] 25)).alloc (.cells #[.int .i64 a.kind, .int .i64 a.n, .string ⟨a.s.toArray⟩, .slice b1 a.keys.length d1, .slice b2 a.l.length d2] 25)) ok ok' (d + 1) a b a.kind a.n a.s a.keys.length a.l.length a1 a2 b1 b2 c1 c2 d1 d2) :=
    ⟨h2a w _ _, h2b w _ _, HA.out.bel (bel_trans (bel_alloc _ _) (bel_alloc _ _)), HB.out.bel (bel_trans (bel_alloc _ _) (bel_alloc _ _)), bel_trans (bel_alloc _ _) (bel_alloc _ _)⟩
  clear hk hn hs hkl hll
  go_enter Tryd.func9, Tryd.ntmps9
  go_wp2_with fail
  go_loopg [47] a.keys.length (fun gk i wr => ∃ (k : Nat), k ≤ a.keys.length ∧ gk = a.keys.length - k ∧ i = .int .i64 k ∧ (∀ j, j < k → a.keys[j]? = b.keys[j]?) ∧ SameI w wr ok ok' (d + 1) a b a.kind a.n a.s a.keys.length a.l.length a1 a2 b1 b2 c1 c2 d1 d2)
  case atStart => exact ⟨0, Nat.zero_le _, rfl, rfl, fun j hj => absurd hj (by omega), I0.out⟩
  case round =>
    obtain ⟨k, hk, hgk, rfl, hke, hI⟩ := hrel
    have A := hidI (And.intro hke hI)
    obtain ⟨x0, x1, x2, x3, x4, -⟩ := hI.1.c
    obtain ⟨y0, y1, y2, y3, y4, -⟩ := hI.2.1.c
    clear hke
    by_cases hlt : k < a.keys.length
    · have hlt2 : k < b.keys.length := by rw [← HKL.out]; exact hlt
      obtain ⟨g1, o1, rfl, z1, z2, z3⟩ : ∃ g1 o1, a1 = some ⟨g1, o1, none⟩ ∧ a.keys.length ≤ c1 ∧ c1 ≤ maxLen ∧ wr.cell? ⟨g1, o1 + k, none⟩ = some (.string ⟨a.keys[k].toArray⟩) := by
        obtain ⟨ks, ls, e, -, -, -, h4, -⟩ := hI.2.2.1
        simp only [Value.agg.injEq, Array.mk.injEq, List.cons.injEq, and_true] at e
        obtain ⟨-, -, -, rfl, -⟩ := e
        exact strs_at h4 hlt
      obtain ⟨g2, o2, rfl, z4, z5, z6⟩ : ∃ g2 o2, b1 = some ⟨g2, o2, none⟩ ∧ b.keys.length ≤ d1 ∧ d1 ≤ maxLen ∧ wr.cell? ⟨g2, o2 + k, none⟩ = some (.string ⟨b.keys[k].toArray⟩) := by
        obtain ⟨ks, ls, e, -, -, -, h4, -⟩ := hI.2.2.2.1
        simp only [Value.agg.injEq, Array.mk.injEq, List.cons.injEq, and_true] at e
        obtain ⟨-, -, -, rfl, -⟩ := e
        exact strs_at h4 hlt2
      unfold maxLen at z2 z5
      clear hI
      by_cases hq : a.keys[k] = b.keys[k]
      · rw [← hq] at z6
        have q1 : (ByteArray.mk a.keys[k].toArray == ByteArray.mk a.keys[k].toArray) = true := ba_eq rfl
        have HQ := hidI hq
        clear hq
        go_wp2_with fail
        go_quiet (fail)
        go_wp2_with fail
        go_roundg (a.keys.length - (k + 1))
        case measure => omega
        case rel =>
          refine ⟨k + 1, hlt, rfl, by go_num, ?_, A.out.2.drewN _⟩
          intro j hj
          by_cases hjk : j < k
          · exact A.out.1 j hjk
          · have : j = k := by omega
            subst this
            rw [List.getElem?_eq_getElem hlt, List.getElem?_eq_getElem hlt2, HQ.out]
      · have q1 : (ByteArray.mk a.keys[k].toArray == ByteArray.mk b.keys[k].toArray) = false := ba_ne (by simpa using hq)
        have q2 : (a.keys[k] == b.keys[k]) = false := by rw [beq_eq_false_iff_ne]; exact hq
        have HQ := hidI hq
        clear hq
        go_wp2_with fail
        go_quiet (fail)
        go_wp2_with fail
        go_ret
        refine ⟨?_, (A.out.2.drewN _).2.2.2.2⟩
        have hne : a.keys ≠ b.keys := by
          intro e
          apply HQ.out
          have := congrArg (fun l => l[k]?) e
          simp only [List.getElem?_eq_getElem hlt, List.getElem?_eq_getElem hlt2, Option.some.injEq] at this
          exact this
        rw [FS.out]
        simp [hne]
    · have hke : Hid (a.keys = b.keys) := hidI (by
        apply List.ext_getElem?
        intro j
        by_cases hj : j < k
        · exact A.out.1 j hj
        · have h1 : a.keys.length ≤ j := by omega
          rw [List.getElem?_eq_none h1, List.getElem?_eq_none (by rw [← HKL.out]; exact h1)])
      have AI := hidI A.out.2
      clear hI A x0 x1 x2 x3 x4 y0 y1 y2 y3 y4
      obtain ⟨x0, x1, x2, x3, x4, -⟩ := AI.out.1.c
      obtain ⟨y0, y1, y2, y3, y4, -⟩ := AI.out.2.1.c
      go_wp2_with fail
      go_loopg [65] a.l.length (fun gk i wr => ∃ (k : Nat), k ≤ a.l.length ∧ gk = a.l.length - k ∧ i = .int .i64 k ∧ (∀ (j : Nat) (x y : V), j < k → a.l[j]? = some x → b.l[j]? = some y → sameS d x y = true) ∧ SameI w wr ok ok' (d + 1) a b a.kind a.n a.s a.keys.length a.l.length a1 a2 b1 b2 c1 c2 d1 d2)
      case atStart => exact ⟨0, Nat.zero_le _, rfl, rfl, fun j x y hj => absurd hj (by omega), AI.out⟩
      case round =>
        obtain ⟨k', hk', hgk', rfl, hall, hI⟩ := hrel
        have A := hidI (And.intro hall hI)
        clear hall x0 x1 x2 x3 x4 y0 y1 y2 y3 y4
        by_cases hlt' : k' < a.l.length
        · have hltb : k' < b.l.length := by rw [← HLL.out]; exact hlt'
          obtain ⟨g1, o1, rfl, z1, z2, a5, c5, a6, c6, p0, p1, p2, p3, p4, p5⟩ : ∃ g1 o1, a2 = some ⟨g1, o1, none⟩ ∧ a.l.length ≤ c2 ∧ c2 ≤ maxLen ∧ _ := by
            obtain ⟨ks, ls, e, -, -, -, -, h5⟩ := hI.2.2.1
            simp only [Value.agg.injEq, Array.mk.injEq, List.cons.injEq, and_true] at e
            obtain ⟨-, -, -, -, rfl⟩ := e
            exact vals_at h5 hlt'
          obtain ⟨g2, o2, rfl, z4, z5, a5', c5', a6', c6', q0, q1, q2, q3, q4, q5⟩ : ∃ g2 o2, b2 = some ⟨g2, o2, none⟩ ∧ b.l.length ≤ d2 ∧ d2 ≤ maxLen ∧ _ := by
            obtain ⟨ks, ls, e, -, -, -, -, h5⟩ := hI.2.2.2.1
            simp only [Value.agg.injEq, Array.mk.injEq, List.cons.injEq, and_true] at e
            obtain ⟨-, -, -, -, rfl⟩ := e
            exact vals_at h5 hltb
          unfold maxLen at z2 z5
          have x4 := hI.1.c.2.2.2.2.1
          have y4 := hI.2.1.c.2.2.2.2.1
          have CALL : Hid (∀ w', Below wr.heap.size wr w' → Calls Tryd.prog 9 #[.agg #[.int .i64 a.l[k'].kind, .int .i64 a.l[k'].n, .string ⟨a.l[k'].s.toArray⟩, .slice a5 a.l[k'].keys.length c5, .slice a6 a.l[k'].l.length c6], .agg #[.int .i64 b.l[k'].kind, .int .i64 b.l[k'].n, .string ⟨b.l[k'].s.toArray⟩, .slice a5' b.l[k'].keys.length c5', .slice a6' b.l[k'].l.length c6']] w' fun e w3 => e = .returned (.bool (sameS d a.l[k'] b.l[k'])) ∧ Below wr.heap.size wr w3 ∧
              w3.cell? ⟨w.heap.size, 4, none⟩ = some (.slice (some ⟨g1, o1, none⟩) a.l.length c2) ∧ w3.cell? ⟨w.heap.size + 1, 4, none⟩ = some (.slice (some ⟨g2, o2, none⟩) a.l.length d2) ∧
              w3.cell? ⟨g1, o1 + k' * 5, none⟩ = some (.int .i64 a.l[k'].kind) ∧ w3.cell? ⟨g1, o1 + k' * 5 + 1, none⟩ = some (.int .i64 a.l[k'].n) ∧ w3.cell? ⟨g1, o1 + k' * 5 + 2, none⟩ = some (.string ⟨a.l[k'].s.toArray⟩) ∧ w3.cell? ⟨g1, o1 + k' * 5 + 3, none⟩ = some (.slice a5 a.l[k'].keys.length c5) ∧ w3.cell? ⟨g1, o1 + k' * 5 + 4, none⟩ = some (.slice a6 a.l[k'].l.length c6) ∧
              w3.cell? ⟨g2, o2 + k' * 5, none⟩ = some (.int .i64 b.l[k'].kind) ∧ w3.cell? ⟨g2, o2 + k' * 5 + 1, none⟩ = some (.int .i64 b.l[k'].n) ∧ w3.cell? ⟨g2, o2 + k' * 5 + 2, none⟩ = some (.string ⟨b.l[k'].s.toArray⟩) ∧ w3.cell? ⟨g2, o2 + k' * 5 + 3, none⟩ = some (.slice a5' b.l[k'].keys.length c5') ∧ w3.cell? ⟨g2, o2 + k' * 5 + 4, none⟩ = some (.slice a6' b.l[k'].l.length c6')) := by
            intro w' hb'
            refine (IH.out w' ok ok' a.l[k'] b.l[k'] _ _ (p5.bel hb') (q5.bel hb')).mono ?_
            rintro e w3 ⟨rfl, hb3⟩
            have hb4 := bel_trans hb' hb3
            exact ⟨rfl, hb4, cell_bel hb4 x4, cell_bel hb4 y4, cell_bel hb4 p0, cell_bel hb4 p1, cell_bel hb4 p2, cell_bel hb4 p3, cell_bel hb4 p4, cell_bel hb4 q0, cell_bel hb4 q1, cell_bel hb4 q2, cell_bel hb4 q3, cell_bel hb4 q4⟩
          clear hI p5 q5
          go_wp2_with fail
          go_region_held3 (fun w3 => w3.cell? ⟨w.heap.size, 4, none⟩ = some (.slice (some ⟨g1, o1, none⟩) a.l.length c2) ∧ w3.cell? ⟨w.heap.size + 1, 4, none⟩ = some (.slice (some ⟨g2, o2, none⟩) a.l.length d2) ∧
              w3.cell? ⟨g1, o1 + k' * 5, none⟩ = some (.int .i64 a.l[k'].kind) ∧ w3.cell? ⟨g1, o1 + k' * 5 + 1, none⟩ = some (.int .i64 a.l[k'].n) ∧ w3.cell? ⟨g1, o1 + k' * 5 + 2, none⟩ = some (.string ⟨a.l[k'].s.toArray⟩) ∧ w3.cell? ⟨g1, o1 + k' * 5 + 3, none⟩ = some (.slice a5 a.l[k'].keys.length c5) ∧ w3.cell? ⟨g1, o1 + k' * 5 + 4, none⟩ = some (.slice a6 a.l[k'].l.length c6) ∧
              w3.cell? ⟨g2, o2 + k' * 5, none⟩ = some (.int .i64 b.l[k'].kind) ∧ w3.cell? ⟨g2, o2 + k' * 5 + 1, none⟩ = some (.int .i64 b.l[k'].n) ∧ w3.cell? ⟨g2, o2 + k' * 5 + 2, none⟩ = some (.string ⟨b.l[k'].s.toArray⟩) ∧ w3.cell? ⟨g2, o2 + k' * 5 + 3, none⟩ = some (.slice a5' b.l[k'].keys.length c5') ∧ w3.cell? ⟨g2, o2 + k' * 5 + 4, none⟩ = some (.slice a6' b.l[k'].l.length c6')) (go_keep)
            (first | (go_at_call 9; refine (CALL.out _ (by exact ⟨rfl, rfl, rfl, Nat.le_refl _, fun _ _ => rfl⟩)).mono ?_; rintro e w3 ⟨rfl, hb3, s1, s2, s3, s4, s5, s6, s7, s8, s9, s10, s11, s12⟩))
          all_goals
            have A3 := hidI (A.out.2.below hb3)
            clear s1 s2 s3 s4 s5 s6 s7 s8 s9 s10 s11 s12 hb3 p0 p1 p2 p3 p4 q0 q1 q2 q3 q4 x4 y4
            cases hr : sameS d a.l[k'] b.l[k'] with
            | true =>
              have HR := hidI hr
              clear hr
              go_wp2_with fail
              go_roundg (a.l.length - (k' + 1))
              case measure => omega
              case rel =>
                refine ⟨k' + 1, hlt', rfl, by go_num, ?_, A3.out⟩
                intro j x y hj hx hy
                by_cases hjk : j < k'
                · exact A.out.1 j x y hjk hx hy
                · have : j = k' := by omega
                  subst this
                  rw [List.getElem?_eq_getElem hlt'] at hx
                  rw [List.getElem?_eq_getElem hltb] at hy
                  cases hx
                  cases hy
                  exact HR.out
            | false =>
              have HR := hidI hr
              clear hr
              go_wp2_with fail
              go_ret
              refine ⟨?_, A3.out.2.2.2.2⟩
              have hno : allS (sameS d) a.l b.l = false := by
                cases h9 : allS (sameS d) a.l b.l with
                | false => rfl
                | true =>
                  have := (allS_iff _ _).1 h9 k' _ _ (List.getElem?_eq_getElem hlt') (List.getElem?_eq_getElem hltb)
                  rw [HR.out] at this
                  cases this
              rw [FS.out, hno, Bool.and_false]
              rfl
        · have A3 := hidI A.out
          clear hI A
          go_wp2_with fail
          go_ret
          refine ⟨?_, A3.out.2.2.2.2.2⟩
          have hyes : allS (sameS d) a.l b.l = true := (allS_iff _ _).2 fun j x y hx hy => A3.out.1 j x y (by have := (List.getElem?_eq_some_iff.1 hx).1; omega) hx hy
          rw [FS.out, hyes, hke.out]
          simp
theorem rsame_all (d : Nat) : RSameC d := by
  induction d with
  | zero => exact fun _ _ _ _ _ _ _ h => h.elim
  | succ d ih => exact rsame_succ d ih
theorem allS_eq {f : V → V → Bool} : ∀ (l m : List V), l.length = m.length → (∀ x ∈ l, ∀ y, f x y = true ↔ x = y) → (allS f l m = true ↔ l = m)
  | [], [], _, _ => by simp [allS]
  | [], _ :: _, h, _ => by simp at h
  | _ :: _, [], h, _ => by simp at h
  | x :: l, y :: m, h, hf => by
    rw [allS, Bool.and_eq_true, hf x (by simp) y, allS_eq l m (by simpa using h) fun z hz => hf z (by simp [hz]), List.cons.injEq]
theorem sameS_iff (d : Nat) : ∀ (a b : V), Dep d a → (sameS d a b = true ↔ a = b) := by
  induction d with
  | zero => intro a b h; exact h.elim
  | succ d ih =>
    intro a b h
    simp only [sameS, Bool.and_eq_true, decide_eq_true_eq]
    constructor
    · rintro ⟨⟨⟨⟨⟨h1, h2⟩, h3⟩, h4⟩, h5⟩, h6⟩
      have e := (allS_eq a.l b.l h5 fun x hx y => ih x y (h x hx)).1 h6
      rw [← V_eta a, ← V_eta b, h1, h2, h3, h4, e]
    · rintro rfl
      exact ⟨⟨⟨⟨⟨rfl, rfl⟩, rfl⟩, rfl⟩, rfl⟩, (allS_eq a.l a.l rfl fun x hx y => ih x y (h x hx)).2 rfl⟩
theorem vis_deep {w : World} {ok : Nat → Prop} : ∀ (d : Nat) {t : V} {v : Value}, VIs w ok d t v → Dep d t
  | 0, _, _, h => h.elim
  | d + 1, t, v, h => by
    obtain ⟨ks, ls, e, h1, h2, h3, h4, h5⟩ := h
    intro x hx
    obtain ⟨y, hy⟩ := vals_mem h5 hx
    exact vis_deep d hy
open Classical in
theorem rsame_is (w : World) (ok ok' : Nat → Prop) (a b : V) (va vb : Value) (ha : In w ok a va) (hb : In w ok' b vb) :
    Calls Tryd.prog 9 #[va, vb] w fun e w' => e = .returned (.bool (decide (a = b))) ∧ Below w.heap.size w w' := by
  obtain ⟨d, ha⟩ := ha
  obtain ⟨d', hb⟩ := hb
  have h1 := VIs.le (show d ≤ d + d' by omega) ha
  refine (rsame_all (d + d') w _ _ a b va vb h1 (VIs.le (by omega) hb)).mono ?_
  rintro e w' ⟨rfl, hb⟩
  refine ⟨?_, hb⟩
  congr 2
  rw [Bool.eq_iff_iff, sameS_iff _ a b (vis_deep _ h1)]; simp
end Go.Proofs.YtaifciobaapehaaDoor

set_option linter.unusedSimpArgs false
set_option linter.unusedVariables false
namespace Go.Proofs.YtaifciobaapehaaDoor
open Go.RowKit

/- The values and their boxes. -/
def PS (w : World) (t x : V) (a1 a2 a3 a4 b1 b2 : Option Addr) (c1 c2 c3 c4 e1 e2 : Nat) (gc g8 g10 : Nat) (W : World) : Prop :=
  (BoxIs W w.heap.size (.int .i64 t.kind) (.int .i64 t.n) (.string ⟨t.s.toArray⟩) (.slice a1 t.keys.length c1) (.slice a2 t.l.length c2) ∧ BoxIs W (w.heap.size + 1) (.int .i64 x.kind) (.int .i64 x.n) (.string ⟨x.s.toArray⟩) (.slice a3 x.keys.length c3) (.slice a4 x.l.length c4) ∧ BoxIs W gc (.int .i64 t.kind) (.int .i64 t.n) (.string ⟨t.s.toArray⟩) (.slice b1 t.keys.length e1) (.slice b2 t.l.length e2)) ∧ (In W (fun k => k ≠ g8 ∧ k ≠ g10) t (.agg #[.int .i64 t.kind, .int .i64 t.n, .string ⟨t.s.toArray⟩, .slice a1 t.keys.length c1, .slice a2 t.l.length c2]) ∧ In W (fun k => k ≠ g8 ∧ k ≠ g10) x (.agg #[.int .i64 x.kind, .int .i64 x.n, .string ⟨x.s.toArray⟩, .slice a3 x.keys.length c3, .slice a4 x.l.length c4]) ∧ In W (fun k => k ≠ g8 ∧ k ≠ g10) t (.agg #[.int .i64 t.kind, .int .i64 t.n, .string ⟨t.s.toArray⟩, .slice b1 t.keys.length e1, .slice b2 t.l.length e2])) ∧ Below w.heap.size w W ∧ (w.heap.size + 2 ≤ gc ∧ gc < g8 ∧ g8 < g10 ∧ g10 < W.heap.size)
theorem PS.bel {w W W' : World} {t x : V} {a1 a2 a3 a4 b1 b2 : Option Addr} {c1 c2 c3 c4 e1 e2 : Nat} {gc g8 g10 : Nat} (h : PS w t x a1 a2 a3 a4 b1 b2 c1 c2 c3 c4 e1 e2 gc g8 g10 W) (hb : Below W.heap.size W W') : PS w t x a1 a2 a3 a4 b1 b2 c1 c2 c3 c4 e1 e2 gc g8 g10 W' := by
  obtain ⟨⟨h1, h2, h3⟩, ⟨h4, h5, h6⟩, h7, h8, h9, h10, h11⟩ := h
  exact ⟨⟨box_bel hb h1, box_bel hb h2, box_bel hb h3⟩, ⟨h4.bel hb, h5.bel hb, h6.bel hb⟩, bel_trans h7 hb, h8, h9, h10, Nat.lt_of_lt_of_le h11 hb.size⟩
theorem PS.grown {w W W' : World} {t x : V} {a1 a2 a3 a4 b1 b2 : Option Addr} {c1 c2 c3 c4 e1 e2 : Nat} {gc g8 g10 g : Nat} (h : PS w t x a1 a2 a3 a4 b1 b2 c1 c2 c3 c4 e1 e2 gc g8 g10 W) (hg : W.grownBy W' (some g)) (hr : g = g8 ∨ g = g10) : PS w t x a1 a2 a3 a4 b1 b2 c1 c2 c3 c4 e1 e2 gc g8 g10 W' := by
  obtain ⟨⟨h1, h2, h3⟩, ⟨h4, h5, h6⟩, h7, h8, h9, h10, h11⟩ := h
  have hn : ∀ k, (fun k => k ≠ g8 ∧ k ≠ g10) k → k ≠ g := fun k hk e => by rcases hr with hr | hr <;> subst hr <;> subst e <;> first | exact hk.1 rfl | exact hk.2 rfl
  refine ⟨⟨h1.grown hg (by rcases hr with rfl | rfl <;> simp <;> omega), h2.grown hg (by rcases hr with rfl | rfl <;> simp <;> omega), h3.grown hg (by rcases hr with rfl | rfl <;> simp <;> omega)⟩, ⟨h4.grown hg hn, h5.grown hg hn, h6.grown hg hn⟩, ?_, h8, h9, h10, Nat.lt_of_lt_of_le h11 hg.size⟩
  exact ⟨hg.os.trans h7.os, hg.tape.trans h7.tape, hg.output.trans h7.output, Nat.le_trans h7.size hg.size, fun j hj => (hg.block j (by have := h7.size; omega) (fun e => by cases e; rcases hr with rfl | rfl <;> omega)).trans (h7.block j hj)⟩
/- An answer, put into its box. -/
theorem ps_put {w W W0 : World} {t x y : V} {a1 a2 a3 a4 b1 b2 : Option Addr} {c1 c2 c3 c4 e1 e2 : Nat} {gc g8 g10 g : Nat} {ya yb : Option Addr} {yc yd : Nat} {u0 u1 u2 u3 u4 : Value} (h : PS w t x a1 a2 a3 a4 b1 b2 c1 c2 c3 c4 e1 e2 gc g8 g10 W) (hr : g = g8 ∨ g = g10) (hb : BoxIs W g u0 u1 u2 u3 u4) (hy : In W (fun k => k ≠ g8 ∧ k ≠ g10) y (.agg #[.int .i64 y.kind, .int .i64 y.n, .string ⟨y.s.toArray⟩, .slice ya y.keys.length yc, .slice yb y.l.length yd])) :
    PS w t x a1 a2 a3 a4 b1 b2 c1 c2 c3 c4 e1 e2 gc g8 g10 (set5 W g (.int .i64 y.kind) (.int .i64 y.n) (.string ⟨y.s.toArray⟩) (.slice ya y.keys.length yc) (.slice yb y.l.length yd)) ∧ BoxIs (set5 W g (.int .i64 y.kind) (.int .i64 y.n) (.string ⟨y.s.toArray⟩) (.slice ya y.keys.length yc) (.slice yb y.l.length yd)) g (.int .i64 y.kind) (.int .i64 y.n) (.string ⟨y.s.toArray⟩) (.slice ya y.keys.length yc) (.slice yb y.l.length yd) ∧ In (set5 W g (.int .i64 y.kind) (.int .i64 y.n) (.string ⟨y.s.toArray⟩) (.slice ya y.keys.length yc) (.slice yb y.l.length yd)) (fun k => k ≠ g8 ∧ k ≠ g10) y (.agg #[.int .i64 y.kind, .int .i64 y.n, .string ⟨y.s.toArray⟩, .slice ya y.keys.length yc, .slice yb y.l.length yd]) := by
  have g1 := set5_gb W g (.int .i64 y.kind) (.int .i64 y.n) (.string ⟨y.s.toArray⟩) (.slice ya y.keys.length yc) (.slice yb y.l.length yd)
  exact ⟨h.grown g1 hr, hb.set _ _ _ _ _, hy.grown g1 (fun k hk e => by rcases hr with hr | hr <;> subst hr <;> subst e <;> first | exact hk.1 rfl | exact hk.2 rfl)⟩
theorem nn_of {g8 g10 B : Nat} (h8 : g8 < B) (h10 : g10 < B) : ∀ k, okN (fun k => k ≠ g8 ∧ k ≠ g10) B k → k ≠ g8 ∧ k ≠ g10 := by
  intro k hk
  rcases hk with hk | hk
  · exact hk
  · exact ⟨by omega, by omega⟩

open Classical in
set_option maxRecDepth 100000 in
set_option maxHeartbeats 8000000 in
theorem pointDoes_walk (w : World) (ok1 : Nat → Prop) (d1 : Nat) (t : V) (v : Value) (h1 : VIs w ok1 d1 t v) (hN : siz t ≤ 2000000) (ok2 : Nat → Prop) (d2 : Nat) (x : V) (xv : Value) (h2 : VIs w ok2 d2 x xv) (hX : siz x ≤ 2000000) (p : List UInt8) (hp : p.length ≤ 140737488351232) (hM : GlobM w) :
    Calls Tryd.prog 3 #[v, xv, str p] w fun e w' => e = .returned (.bool true) ∧ Below w.heap.size w w' := by
  have T0 := hidI h1.is.low
  have X0 := hidI h2.is.low
  have MM := hidI hM
  have N1 := hidI (show siz t ≤ 1000000000000 by omega)
  have N2 := hidI (show cnt t ≤ 1000000000000 by have := cnt_siz t; omega)
  have N3 := hidI (show cnt x ≤ 1000000000000 by have := cnt_siz x; omega)
  have N4 := hidI (show cnt t ≤ 1000000000000000 by have := cnt_siz t; omega)
  obtain ⟨a1, a2, c1, c2, rfl⟩ := h1.is.form
  obtain ⟨a3, a4, c3, c4, rfl⟩ := h2.is.form
  clear h1 h2 hM hN hX
  have K0 : Hid (BoxIs ((w.alloc (.cells #[.int .i64 t.kind, .int .i64 t.n, .string ⟨t.s.toArray⟩, .slice a1 t.keys.length c1, .slice a2 t.l.length c2] 25)).alloc (.cells #[.int .i64 x.kind, .int .i64 x.n, .string ⟨x.s.toArray⟩, .slice a3 x.keys.length c3, .slice a4 x.l.length c4] 25)) w.heap.size (.int .i64 t.kind) (.int .i64 t.n) (.string ⟨t.s.toArray⟩) (.slice a1 t.keys.length c1) (.slice a2 t.l.length c2) ∧ BoxIs ((w.alloc (.cells #[.int .i64 t.kind, .int .i64 t.n, .string ⟨t.s.toArray⟩, .slice a1 t.keys.length c1, .slice a2 t.l.length c2] 25)).alloc (.cells #[.int .i64 x.kind, .int .i64 x.n, .string ⟨x.s.toArray⟩, .slice a3 x.keys.length c3, .slice a4 x.l.length c4] 25)) (w.heap.size + 1) (.int .i64 x.kind) (.int .i64 x.n) (.string ⟨x.s.toArray⟩) (.slice a3 x.keys.length c3) (.slice a4 x.l.length c4) ∧ Below w.heap.size w ((w.alloc (.cells #[.int .i64 t.kind, .int .i64 t.n, .string ⟨t.s.toArray⟩, .slice a1 t.keys.length c1, .slice a2 t.l.length c2] 25)).alloc (.cells #[.int .i64 x.kind, .int .i64 x.n, .string ⟨x.s.toArray⟩, .slice a3 x.keys.length c3, .slice a4 x.l.length c4] 25))) := hidI ⟨h2a w _ _, h2b w _ _, bel_trans (bel_alloc _ _) (bel_alloc _ _)⟩
  go_enter Tryd.func3, Tryd.ntmps3
  go_wp2_with fail
  refine (rcopy_is _ _ t _ (by exact T0.out.bel K0.out.2.2) N1.out).mono ?_
  rintro e w1 ⟨cv, rfl, hb, hc⟩
  obtain ⟨b1, b2, e1, e2, rfl⟩ := hc.form
  have C1 := hidI (hc.low.bel (bel_alloc w1 (.cells #[.int .i64 t.kind, .int .i64 t.n, .string ⟨t.s.toArray⟩, .slice b1 t.keys.length e1, .slice b2 t.l.length e2] 25)))
  have hbb := bel_trans hb (bel_alloc w1 (.cells #[.int .i64 t.kind, .int .i64 t.n, .string ⟨t.s.toArray⟩, .slice b1 t.keys.length e1, .slice b2 t.l.length e2] 25))
  have K1 : Hid (BoxIs (w1.alloc (.cells #[.int .i64 t.kind, .int .i64 t.n, .string ⟨t.s.toArray⟩, .slice b1 t.keys.length e1, .slice b2 t.l.length e2] 25)) w.heap.size (.int .i64 t.kind) (.int .i64 t.n) (.string ⟨t.s.toArray⟩) (.slice a1 t.keys.length c1) (.slice a2 t.l.length c2) ∧ BoxIs (w1.alloc (.cells #[.int .i64 t.kind, .int .i64 t.n, .string ⟨t.s.toArray⟩, .slice b1 t.keys.length e1, .slice b2 t.l.length e2] 25)) (w.heap.size + 1) (.int .i64 x.kind) (.int .i64 x.n) (.string ⟨x.s.toArray⟩) (.slice a3 x.keys.length c3) (.slice a4 x.l.length c4) ∧ BoxIs (w1.alloc (.cells #[.int .i64 t.kind, .int .i64 t.n, .string ⟨t.s.toArray⟩, .slice b1 t.keys.length e1, .slice b2 t.l.length e2] 25)) w1.heap.size (.int .i64 t.kind) (.int .i64 t.n) (.string ⟨t.s.toArray⟩) (.slice b1 t.keys.length e1) (.slice b2 t.l.length e2) ∧ Below w.heap.size w (w1.alloc (.cells #[.int .i64 t.kind, .int .i64 t.n, .string ⟨t.s.toArray⟩, .slice b1 t.keys.length e1, .slice b2 t.l.length e2] 25)) ∧ w.heap.size + 2 ≤ w1.heap.size) := hidI ⟨box_bel hbb K0.out.1, box_bel hbb K0.out.2.1, heap_alloc_new w1 _, bel_trans K0.out.2.2 hbb, by have := hb.size; simp at this; omega⟩
  clear hb hc hbb K0
  obtain ⟨k0, k1, k2, k3, k4, -⟩ := K1.out.2.2.1.c
  go_wp2_with fail
  refine (get_is _ _ t _ p (by exact C1.out) hp (by exact MM.out.bel K1.out.2.2.2.1)).mono ?_
  rintro e w2 ⟨r2, rfl, hb, hr⟩
  obtain ⟨g9, hg9⟩ : ∃ g, getR (splitP p) t = g := ⟨_, rfl⟩
  have HG := hidI hg9
  rw [hg9] at hr ⊢
  obtain ⟨y, e9⟩ := g9
  simp only at hr ⊢
  obtain ⟨ya, yb, yc, yd, rfl⟩ := hr.form
  have hbb := bel_trans hb (bel_alloc w2 (.cells #[.int .i64 y.kind, .int .i64 y.n, .string ⟨y.s.toArray⟩, .slice ya y.keys.length yc, .slice yb y.l.length yd] 25))
  have K2 : Hid (BoxIs (w2.alloc (.cells #[.int .i64 y.kind, .int .i64 y.n, .string ⟨y.s.toArray⟩, .slice ya y.keys.length yc, .slice yb y.l.length yd] 25)) w.heap.size (.int .i64 t.kind) (.int .i64 t.n) (.string ⟨t.s.toArray⟩) (.slice a1 t.keys.length c1) (.slice a2 t.l.length c2) ∧ BoxIs (w2.alloc (.cells #[.int .i64 y.kind, .int .i64 y.n, .string ⟨y.s.toArray⟩, .slice ya y.keys.length yc, .slice yb y.l.length yd] 25)) (w.heap.size + 1) (.int .i64 x.kind) (.int .i64 x.n) (.string ⟨x.s.toArray⟩) (.slice a3 x.keys.length c3) (.slice a4 x.l.length c4) ∧ BoxIs (w2.alloc (.cells #[.int .i64 y.kind, .int .i64 y.n, .string ⟨y.s.toArray⟩, .slice ya y.keys.length yc, .slice yb y.l.length yd] 25)) w1.heap.size (.int .i64 t.kind) (.int .i64 t.n) (.string ⟨t.s.toArray⟩) (.slice b1 t.keys.length e1) (.slice b2 t.l.length e2) ∧ Below w.heap.size w (w2.alloc (.cells #[.int .i64 y.kind, .int .i64 y.n, .string ⟨y.s.toArray⟩, .slice ya y.keys.length yc, .slice yb y.l.length yd] 25)) ∧ w1.heap.size < w2.heap.size ∧ BoxIs (w2.alloc (.cells #[.int .i64 y.kind, .int .i64 y.n, .string ⟨y.s.toArray⟩, .slice ya y.keys.length yc, .slice yb y.l.length yd] 25)) w2.heap.size (.int .i64 y.kind) (.int .i64 y.n) (.string ⟨y.s.toArray⟩) (.slice ya y.keys.length yc) (.slice yb y.l.length yd)) := hidI ⟨box_bel hbb K1.out.1, box_bel hbb K1.out.2.1, box_bel hbb K1.out.2.2.1, bel_trans K1.out.2.2.2.1 hbb, by have := hb.size; simp at this; omega, heap_alloc_new w2 _⟩
  have C2 := hidI (C1.out.bel hbb)
  have Y2 := hidI (hr.bel (bel_alloc w2 (.cells #[.int .i64 y.kind, .int .i64 y.n, .string ⟨y.s.toArray⟩, .slice ya y.keys.length yc, .slice yb y.l.length yd] 25)))
  clear hb hr hbb hg9 k0 k1 k2 k3 k4
  obtain ⟨k0, k1, k2, k3, k4, -⟩ := K2.out.1.c
  go_wp2_with fail
  refine (rget_is _ _ t _ p (by exact T0.out.bel K2.out.2.2.2.1) hp N4.out).mono ?_
  rintro e w3 ⟨r3, rfl, hb, hr⟩
  rw [HG.out] at hr ⊢
  simp only at hr ⊢
  obtain ⟨za, zb, zc, zd, rfl⟩ := hr.form
  have hbb := bel_trans hb (bel_alloc w3 (.cells #[.int .i64 y.kind, .int .i64 y.n, .string ⟨y.s.toArray⟩, .slice za y.keys.length zc, .slice zb y.l.length zd] 25))
  obtain ⟨W3, hW3⟩ : ∃ W, w3.alloc (.cells #[.int .i64 y.kind, .int .i64 y.n, .string ⟨y.s.toArray⟩, .slice za y.keys.length zc, .slice zb y.l.length zd] 25) = W := ⟨_, rfl⟩
  have hgs : w2.heap.size < w3.heap.size := by have := hb.size; simp at this; omega
  obtain ⟨g8, h8⟩ : ∃ g, w2.heap.size = g := ⟨_, rfl⟩
  obtain ⟨g10, h10⟩ : ∃ g, w3.heap.size = g := ⟨_, rfl⟩
  obtain ⟨gc, hgc⟩ : ∃ g, w1.heap.size = g := ⟨_, rfl⟩
  rw [h8] at K2 hgs
  rw [h10] at hgs
  have K3 : Hid (PS w t x a1 a2 a3 a4 b1 b2 c1 c2 c3 c4 e1 e2 gc g8 g10 W3) := hidI (by
    rw [← hW3]
    have hz9 : w.heap.size + 2 ≤ gc := by rw [← hgc]; exact K1.out.2.2.2.2
    have hz8 : gc < g8 := by rw [← hgc]; exact K2.out.2.2.2.2.1
    have hbw := bel_trans K2.out.2.2.2.1 hbb
    refine ⟨⟨box_bel hbb K2.out.1, box_bel hbb K2.out.2.1, by rw [← hgc]; exact box_bel hbb K2.out.2.2.1⟩, ⟨(T0.out.bel hbw).weak (fun k hk => ⟨by omega, by omega⟩), (X0.out.bel hbw).weak (fun k hk => ⟨by omega, by omega⟩), (C2.out.bel hbb).weak (fun k hk => ⟨by omega, by omega⟩)⟩, hbw, hz9, hz8, hgs, by simp; omega⟩)
  have B8 : Hid (BoxIs W3 g8 (.int .i64 y.kind) (.int .i64 y.n) (.string ⟨y.s.toArray⟩) (.slice ya y.keys.length yc) (.slice yb y.l.length yd)) := hidI (by rw [← hW3]; exact box_bel hbb K2.out.2.2.2.2.2)
  have B10 : Hid (BoxIs W3 g10 (.int .i64 y.kind) (.int .i64 y.n) (.string ⟨y.s.toArray⟩) (.slice za y.keys.length zc) (.slice zb y.l.length zd)) := hidI (by rw [← hW3, ← h10]; exact heap_alloc_new w3 _)
  have Y3 := hidI (by have h9 := Y2.out.bel hbb; rw [hW3] at h9; exact h9)
  have Z3 := hidI (by have h9 := hr.bel (bel_alloc w3 (.cells #[.int .i64 y.kind, .int .i64 y.n, .string ⟨y.s.toArray⟩, .slice za y.keys.length zc, .slice zb y.l.length zd] 25)); rw [hW3] at h9; exact h9)
  clear hb hr hbb k0 k1 k2 k3 k4
  go_upto_region 4 with fail
  try rw [hW3]
  try rw [h8]
  try rw [h10]
  try rw [hgc]
  clear hW3 h8 h10 hgc K1 K2 C1 C2 Y2 T0 X0
  obtain ⟨u0, u1, u2, u3, u4, -⟩ := B8.out.c
  obtain ⟨m0, m1, m2, m3, m4, -⟩ := B10.out.c
  go_wp2_with fail
  refine (rsame_is _ _ _ y y _ _ (by exact Y3.out) (by exact Z3.out)).mono ?_
  rintro e w4 ⟨rfl, hb⟩
  rw [show decide (y = y) = true from decide_eq_true rfl]
  have K4 := hidI (K3.out.bel hb)
  have B8_4 := hidI (box_bel hb B8.out)
  have B10_4 := hidI (box_bel hb B10.out)
  clear hb u0 u1 u2 u3 u4 m0 m1 m2 m3 m4
  clear K3 Y3 Z3 B8 B10
  obtain ⟨l0, l1, l2, l3, l4, -⟩ := K4.out.1.2.1.c
  obtain ⟨i0, i1, i2, i3, i4, -⟩ := K4.out.1.2.2.c
  obtain ⟨u0, u1, u2, u3, u4, f0, f1, f2, f3, f4⟩ := B8_4.out.c
  go_wp2_with fail
  refine (add_is _ _ t x _ _ p (by exact K4.out.2.1.2.2) (by exact K4.out.2.1.2.1) hp (by exact MM.out.bel K4.out.2.2.1)).mono ?_
  rintro e w5 ⟨r5, rfl, hb, hr⟩
  obtain ⟨q9, hq9⟩ : ∃ g, layR addedV p (splitP p) t x = g := ⟨_, rfl⟩
  have HQ5 := hidI hq9
  rw [hq9] at hr ⊢
  obtain ⟨r, e5⟩ := q9
  simp only at hr ⊢
  obtain ⟨ra, rb, rc, rd, rfl⟩ := hr.form
  have K5 := hidI (K4.out.bel hb)
  have A5 := hidI (box_bel hb B8_4.out)
  have D5 := hidI (box_bel hb B10_4.out)
  have Y5 := hidI (hr.weak (nn_of (by have := K4.out.2.2.2; omega) (by have := K4.out.2.2.2; omega)))
  have P5 := hidI (ps_put (W0 := w) K5.out (.inl rfl) A5.out Y5.out)
  have D5b := hidI (D5.out.grown (set5_gb w5 g8 (.int .i64 r.kind) (.int .i64 r.n) (.string ⟨r.s.toArray⟩) (.slice ra r.keys.length rc) (.slice rb r.l.length rd)) (by have := K4.out.2.2.2; simp; omega))
  obtain ⟨V5, hV5⟩ : ∃ W, set5 w5 g8 (.int .i64 r.kind) (.int .i64 r.n) (.string ⟨r.s.toArray⟩) (.slice ra r.keys.length rc) (.slice rb r.l.length rd) = W := ⟨_, rfl⟩
  rw [hV5] at P5 D5b
  clear hb hr hq9 u0 u1 u2 u3 u4 f0 f1 f2 f3 f4 l0 l1 l2 l3 l4 i0 i1 i2 i3 i4
  obtain ⟨u0, u1, u2, u3, u4, f0, f1, f2, f3, f4⟩ := A5.out.c
  go_upto_region 7 with fail
  try simp only [set5] at hV5
  try rw [hV5]
  clear hV5 u0 u1 u2 u3 u4 f0 f1 f2 f3 f4
  obtain ⟨k0, k1, k2, k3, k4, -⟩ := P5.out.1.1.1.c
  obtain ⟨l0, l1, l2, l3, l4, -⟩ := P5.out.1.1.2.1.c
  go_wp2_with fail
  refine (ralter1_is _ _ t x _ _ p (by exact P5.out.1.2.1.1) (by exact P5.out.1.2.1.2.1) hp N2.out N3.out).mono ?_
  rintro e w6 ⟨r6, rfl, hb, hr⟩
  rw [HQ5.out] at hr ⊢
  simp only at hr ⊢
  obtain ⟨za, zb, zc, zd, rfl⟩ := hr.form
  have K6 := hidI (P5.out.1.bel hb)
  have A6 := hidI (box_bel hb P5.out.2.1)
  have D6 := hidI (box_bel hb D5b.out)
  have Y6 := hidI (P5.out.2.2.bel hb)
  have Z6 := hidI (hr.weak (nn_of (by have := P5.out.1.2.2.2; omega) (by have := P5.out.1.2.2.2; omega)))
  have P6 := hidI (ps_put (W0 := w) K6.out (.inr rfl) D6.out Z6.out)
  have g1 := set5_gb w6 g10 (.int .i64 r.kind) (.int .i64 r.n) (.string ⟨r.s.toArray⟩) (.slice za r.keys.length zc) (.slice zb r.l.length zd)
  have A6b := hidI (A6.out.grown g1 (by have := P5.out.1.2.2.2; simp; omega))
  have Y6b := hidI (Y6.out.grown g1 (fun k hk => hk.2))
  obtain ⟨V6, hV6⟩ : ∃ W, set5 w6 g10 (.int .i64 r.kind) (.int .i64 r.n) (.string ⟨r.s.toArray⟩) (.slice za r.keys.length zc) (.slice zb r.l.length zd) = W := ⟨_, rfl⟩
  rw [hV6] at P6 A6b Y6b
  clear hb hr g1 k0 k1 k2 k3 k4 l0 l1 l2 l3 l4
  obtain ⟨u0, u1, u2, u3, u4, f0, f1, f2, f3, f4⟩ := D6.out.c
  go_upto_region 8 with fail
  try simp only [set5] at hV6
  try rw [hV6]
  clear hV6 u0 u1 u2 u3 u4 f0 f1 f2 f3 f4
  obtain ⟨u0, u1, u2, u3, u4, -⟩ := A6b.out.c
  obtain ⟨m0, m1, m2, m3, m4, -⟩ := P6.out.2.1.c
  go_wp2_with fail
  refine (rsame_is _ _ _ r r _ _ (by exact Y6b.out) (by exact P6.out.2.2)).mono ?_
  rintro e w7 ⟨rfl, hb⟩
  rw [show decide (r = r) = true from decide_eq_true rfl]
  have K7 := hidI (P6.out.1.bel hb)
  have B8_7 := hidI (box_bel hb A6b.out)
  have B10_7 := hidI (box_bel hb P6.out.2.1)
  clear hb u0 u1 u2 u3 u4 m0 m1 m2 m3 m4
  obtain ⟨i0, i1, i2, i3, i4, -⟩ := K7.out.1.2.2.c
  obtain ⟨u0, u1, u2, u3, u4, f0, f1, f2, f3, f4⟩ := B8_7.out.c
  go_wp2_with fail
  refine (remove_is _ _ t _ p (by exact K7.out.2.1.2.2) hp (by exact MM.out.bel K7.out.2.2.1)).mono ?_
  rintro e w8 ⟨r8, rfl, hb, hr⟩
  obtain ⟨q9, hq9⟩ : ∃ g, changeR removedV (splitP p) t = g := ⟨_, rfl⟩
  have HQ8 := hidI hq9
  rw [hq9] at hr ⊢
  obtain ⟨q, e8⟩ := q9
  simp only at hr ⊢
  obtain ⟨qa, qb, qc, qd, rfl⟩ := hr.form
  have K8 := hidI (K7.out.bel hb)
  have A8 := hidI (box_bel hb B8_7.out)
  have D8 := hidI (box_bel hb B10_7.out)
  have Y8 := hidI (hr.weak (nn_of (by have := K7.out.2.2.2; omega) (by have := K7.out.2.2.2; omega)))
  have P8 := hidI (ps_put (W0 := w) K8.out (.inl rfl) A8.out Y8.out)
  have D8b := hidI (D8.out.grown (set5_gb w8 g8 (.int .i64 q.kind) (.int .i64 q.n) (.string ⟨q.s.toArray⟩) (.slice qa q.keys.length qc) (.slice qb q.l.length qd)) (by have := K7.out.2.2.2; simp; omega))
  obtain ⟨V8, hV8⟩ : ∃ W, set5 w8 g8 (.int .i64 q.kind) (.int .i64 q.n) (.string ⟨q.s.toArray⟩) (.slice qa q.keys.length qc) (.slice qb q.l.length qd) = W := ⟨_, rfl⟩
  rw [hV8] at P8 D8b
  clear hb hr hq9 u0 u1 u2 u3 u4 f0 f1 f2 f3 f4 i0 i1 i2 i3 i4
  obtain ⟨u0, u1, u2, u3, u4, f0, f1, f2, f3, f4⟩ := A8.out.c
  go_upto_region 11 with fail
  try simp only [set5] at hV8
  try rw [hV8]
  clear hV8 u0 u1 u2 u3 u4 f0 f1 f2 f3 f4
  obtain ⟨k0, k1, k2, k3, k4, -⟩ := P8.out.1.1.1.c
  obtain ⟨l0, l1, l2, l3, l4, -⟩ := P8.out.1.1.2.1.c
  go_wp2_with fail
  refine (ralter2_is _ _ t x _ _ p (by exact P8.out.1.2.1.1) (by exact P8.out.1.2.1.2.1) hp N2.out N3.out).mono ?_
  rintro e w9 ⟨r9, rfl, hb, hr⟩
  rw [HQ8.out] at hr ⊢
  simp only at hr ⊢
  obtain ⟨za, zb, zc, zd, rfl⟩ := hr.form
  have K9 := hidI (P8.out.1.bel hb)
  have A9 := hidI (box_bel hb P8.out.2.1)
  have D9 := hidI (box_bel hb D8b.out)
  have Y9 := hidI (P8.out.2.2.bel hb)
  have Z9 := hidI (hr.weak (nn_of (by have := P8.out.1.2.2.2; omega) (by have := P8.out.1.2.2.2; omega)))
  have P9 := hidI (ps_put (W0 := w) K9.out (.inr rfl) D9.out Z9.out)
  have g1 := set5_gb w9 g10 (.int .i64 q.kind) (.int .i64 q.n) (.string ⟨q.s.toArray⟩) (.slice za q.keys.length zc) (.slice zb q.l.length zd)
  have A9b := hidI (A9.out.grown g1 (by have := P8.out.1.2.2.2; simp; omega))
  have Y9b := hidI (Y9.out.grown g1 (fun k hk => hk.2))
  obtain ⟨V9, hV9⟩ : ∃ W, set5 w9 g10 (.int .i64 q.kind) (.int .i64 q.n) (.string ⟨q.s.toArray⟩) (.slice za q.keys.length zc) (.slice zb q.l.length zd) = W := ⟨_, rfl⟩
  rw [hV9] at P9 A9b Y9b
  clear hb hr g1 k0 k1 k2 k3 k4 l0 l1 l2 l3 l4
  obtain ⟨u0, u1, u2, u3, u4, f0, f1, f2, f3, f4⟩ := D9.out.c
  go_upto_region 12 with fail
  try simp only [set5] at hV9
  try rw [hV9]
  clear hV9 u0 u1 u2 u3 u4 f0 f1 f2 f3 f4
  obtain ⟨u0, u1, u2, u3, u4, -⟩ := A9b.out.c
  obtain ⟨m0, m1, m2, m3, m4, -⟩ := P9.out.2.1.c
  go_wp2_with fail
  refine (rsame_is _ _ _ q q _ _ (by exact Y9b.out) (by exact P9.out.2.2)).mono ?_
  rintro e w10 ⟨rfl, hb⟩
  rw [show decide (q = q) = true from decide_eq_true rfl]
  have K10 := hidI (P9.out.1.bel hb)
  have B8_10 := hidI (box_bel hb A9b.out)
  have B10_10 := hidI (box_bel hb P9.out.2.1)
  clear hb u0 u1 u2 u3 u4 m0 m1 m2 m3 m4
  obtain ⟨l0, l1, l2, l3, l4, -⟩ := K10.out.1.2.1.c
  obtain ⟨i0, i1, i2, i3, i4, -⟩ := K10.out.1.2.2.c
  obtain ⟨u0, u1, u2, u3, u4, f0, f1, f2, f3, f4⟩ := B8_10.out.c
  go_wp2_with fail
  refine (put_is _ _ t x _ _ p (by exact K10.out.2.1.2.2) (by exact K10.out.2.1.2.1) hp (by exact MM.out.bel K10.out.2.2.1)).mono ?_
  rintro e w11 ⟨r11, rfl, hb, hr⟩
  obtain ⟨q9, hq9⟩ : ∃ g, layR replacedV p (splitP p) t x = g := ⟨_, rfl⟩
  have HQ11 := hidI hq9
  rw [hq9] at hr ⊢
  obtain ⟨n, e11⟩ := q9
  simp only at hr ⊢
  obtain ⟨na, nb, nc, nd, rfl⟩ := hr.form
  have K11 := hidI (K10.out.bel hb)
  have A11 := hidI (box_bel hb B8_10.out)
  have D11 := hidI (box_bel hb B10_10.out)
  have Y11 := hidI (hr.weak (nn_of (by have := K10.out.2.2.2; omega) (by have := K10.out.2.2.2; omega)))
  have P11 := hidI (ps_put (W0 := w) K11.out (.inl rfl) A11.out Y11.out)
  have D11b := hidI (D11.out.grown (set5_gb w11 g8 (.int .i64 n.kind) (.int .i64 n.n) (.string ⟨n.s.toArray⟩) (.slice na n.keys.length nc) (.slice nb n.l.length nd)) (by have := K10.out.2.2.2; simp; omega))
  obtain ⟨V11, hV11⟩ : ∃ W, set5 w11 g8 (.int .i64 n.kind) (.int .i64 n.n) (.string ⟨n.s.toArray⟩) (.slice na n.keys.length nc) (.slice nb n.l.length nd) = W := ⟨_, rfl⟩
  rw [hV11] at P11 D11b
  clear hb hr hq9 u0 u1 u2 u3 u4 f0 f1 f2 f3 f4 l0 l1 l2 l3 l4 i0 i1 i2 i3 i4
  obtain ⟨u0, u1, u2, u3, u4, f0, f1, f2, f3, f4⟩ := A11.out.c
  go_upto_region 15 with fail
  try simp only [set5] at hV11
  try rw [hV11]
  clear hV11 u0 u1 u2 u3 u4 f0 f1 f2 f3 f4
  obtain ⟨k0, k1, k2, k3, k4, -⟩ := P11.out.1.1.1.c
  obtain ⟨l0, l1, l2, l3, l4, -⟩ := P11.out.1.1.2.1.c
  go_wp2_with fail
  refine (ralter3_is _ _ t x _ _ p (by exact P11.out.1.2.1.1) (by exact P11.out.1.2.1.2.1) hp N2.out N3.out).mono ?_
  rintro e w12 ⟨r12, rfl, hb, hr⟩
  rw [HQ11.out] at hr ⊢
  simp only at hr ⊢
  obtain ⟨za, zb, zc, zd, rfl⟩ := hr.form
  have K12 := hidI (P11.out.1.bel hb)
  have A12 := hidI (box_bel hb P11.out.2.1)
  have D12 := hidI (box_bel hb D11b.out)
  have Y12 := hidI (P11.out.2.2.bel hb)
  have Z12 := hidI (hr.weak (nn_of (by have := P11.out.1.2.2.2; omega) (by have := P11.out.1.2.2.2; omega)))
  have P12 := hidI (ps_put (W0 := w) K12.out (.inr rfl) D12.out Z12.out)
  have g1 := set5_gb w12 g10 (.int .i64 n.kind) (.int .i64 n.n) (.string ⟨n.s.toArray⟩) (.slice za n.keys.length zc) (.slice zb n.l.length zd)
  have A12b := hidI (A12.out.grown g1 (by have := P11.out.1.2.2.2; simp; omega))
  have Y12b := hidI (Y12.out.grown g1 (fun k hk => hk.2))
  obtain ⟨V12, hV12⟩ : ∃ W, set5 w12 g10 (.int .i64 n.kind) (.int .i64 n.n) (.string ⟨n.s.toArray⟩) (.slice za n.keys.length zc) (.slice zb n.l.length zd) = W := ⟨_, rfl⟩
  rw [hV12] at P12 A12b Y12b
  clear hb hr g1 k0 k1 k2 k3 k4 l0 l1 l2 l3 l4
  obtain ⟨u0, u1, u2, u3, u4, f0, f1, f2, f3, f4⟩ := D12.out.c
  go_upto_region 16 with fail
  try simp only [set5] at hV12
  try rw [hV12]
  clear hV12 u0 u1 u2 u3 u4 f0 f1 f2 f3 f4
  obtain ⟨u0, u1, u2, u3, u4, -⟩ := A12b.out.c
  obtain ⟨m0, m1, m2, m3, m4, -⟩ := P12.out.2.1.c
  go_wp2_with fail
  refine (rsame_is _ _ _ n n _ _ (by exact Y12b.out) (by exact P12.out.2.2)).mono ?_
  rintro e w13 ⟨rfl, hb⟩
  rw [show decide (n = n) = true from decide_eq_true rfl]
  have K13 := hidI (P12.out.1.bel hb)
  have B8_13 := hidI (box_bel hb A12b.out)
  have B10_13 := hidI (box_bel hb P12.out.2.1)
  clear hb u0 u1 u2 u3 u4 m0 m1 m2 m3 m4
  obtain ⟨k0, k1, k2, k3, k4, -⟩ := K13.out.1.1.c
  obtain ⟨i0, i1, i2, i3, i4, -⟩ := K13.out.1.2.2.c
  go_wp2_with fail
  refine (rsame_is _ _ _ t t _ _ (by exact K13.out.2.1.2.2) (by exact K13.out.2.1.1)).mono ?_
  rintro e w14 ⟨rfl, hb⟩
  rw [show decide (t = t) = true from decide_eq_true rfl]
  have K14 := hidI (K13.out.bel hb)
  clear hb k0 k1 k2 k3 k4 i0 i1 i2 i3 i4
  go_wp2_with fail
  refine (lpoints_at _ (by exact MM.out.bel K14.out.2.2.1)).mono ?_
  rintro e w15 ⟨rfl, hb⟩
  have B15 := hidI (bel_trans K14.out.2.2.1 hb)
  clear hb
  go_wp2_with fail
  go_ret
  exact ⟨rfl, B15.out⟩
end Go.Proofs.YtaifciobaapehaaDoor
