/- What Clean of package merge does. -/
import Derived.Test.YtfbddgpekbhpfacGreatDoorSl
import Derived.Test.YtfbddgpekbhpfacGreatDoorMa
set_option linter.unusedSimpArgs false
set_option linter.unusedVariables false
namespace Go.Proofs.YtfbddgpekbhpfacGreatDoor
open Go.RowKit

def cln : V → Bool
  | ⟨k, _, _, _, l⟩ => !decide (k = 5) || (l.map fun x => !decide (x.kind = 0) && cln x).all id
def clns (xs : List V) : Bool := (xs.map fun x => !decide (x.kind = 0) && cln x).all id
theorem clns_nil : clns [] = true := rfl
theorem clns_cons (x : V) (xs : List V) : clns (x :: xs) = (!decide (x.kind = 0) && cln x && clns xs) := by simp [clns]
theorem cln_eq (t : V) : cln t = (!decide (t.kind = 5) || clns t.l) := by cases t; rw [cln]; rfl
theorem clns_drop {xs : List V} {k : Nat} (h : k < xs.length) : clns (xs.drop k) = (!decide (xs[k].kind = 0) && cln xs[k] && clns (xs.drop (k + 1))) := by
  rw [List.drop_eq_getElem_cons h, clns_cons]
theorem clns_all : ∀ (D : Nat) (l : List V), (∀ x ∈ l, cleanF D x = cln x) → (l.all fun x => !decide (x.kind = 0) && cleanF D x) = clns l
  | _, [], _ => rfl
  | D, x :: l, h => by
    rw [List.all_cons, clns_cons, h x (by simp), clns_all D l fun y hy => h y (by simp [hy])]
theorem clean_cln (D : Nat) : ∀ (t : V), GoodT D t → cleanF D t = cln t := by
  induction D with
  | zero => intro t h; exact h.elim
  | succ D ih =>
    intro t h
    rw [cleanF, cln_eq, clns_all D t.l fun x hx => ih x (h.2 x hx)]
def CI (w : World) (ok : Nat → Prop) (ls : List (List V)) (lv : Value) (wr : World) : Prop :=
  ∃ g cap, lv = .slice (some ⟨g, 0, none⟩) ls.length cap ∧ Wait wr w.heap.size (fun k => ok k ∧ k < w.heap.size) ls g cap ∧ Below w.heap.size w wr
def CJ (w : World) (ok : Nat → Prop) (t : V) (xs : List V) (xv : Value) (M k : Nat) (lv : Value) (wr : World) : Prop :=
  ∃ ls, cln t = (ls.all clns && clns (xs.drop k)) ∧ mu ls + cnts (xs.drop k) + 1 ≤ M ∧ ValsIn wr (fun k => ok k ∧ k < w.heap.size) xs xv ∧ CI w ok ls lv wr
theorem low_wait {w wr : World} {ok : Nat → Prop} (h : Below w.heap.size w wr) : ∀ k, (fun k => ok k ∧ k < w.heap.size) k → k < wr.heap.size := fun k hk => by have := h.size; have := hk.2; omega

set_option maxRecDepth 100000 in
set_option maxHeartbeats 40000000 in
theorem clean_is (w : World) (ok : Nat → Prop) (t : V) (tv : Value) (h : In w ok t tv) (hN : cnt t ≤ 2000000000000) :
    Calls Tryz.prog 8 #[tv] w fun e w' => e = .returned (.bool (cln t)) ∧ Below w.heap.size w w' := by
  have H := hidI h.low
  obtain ⟨a1, a2, c1, c2, rfl⟩ := h.form
  clear h
  by_cases hk : t.kind = 5
  · have e0 : (t.kind != 5) = false := by rw [hk]; rfl
    have HT : Hid (cln t = clns t.l) := hidI (by rw [cln_eq, hk]; rfl)
    have S0 : Hid (CI w ok [t.l] (.slice (some ⟨w.heap.size + 1, 0, none⟩) 1 1) ((w.alloc (.cells #[.int .i64 t.kind, .int .i64 t.n, .string ⟨t.s.toArray⟩, .slice a1 t.keys.length c1, .slice a2 t.l.length c2] 25)).alloc (.cells #[.slice a2 t.l.length c2] 23))) := by
      have hb : Below w.heap.size w ((w.alloc (.cells #[.int .i64 t.kind, .int .i64 t.n, .string ⟨t.s.toArray⟩, .slice a1 t.keys.length c1, .slice a2 t.l.length c2] 25)).alloc (.cells #[.slice a2 t.l.length c2] 23)) := bel_al (bel_al (Below.refl _ _) _) _
      refine hidI ⟨w.heap.size + 1, 1, rfl, ⟨[.slice a2 t.l.length c2], own_one (h2b _ _ _) (by omega), ⟨rfl, ?_⟩, fun k hk => by have := hk.2; omega⟩, hb⟩
      intro j l c h3 h4
      cases j with
      | zero =>
        simp only [List.getElem?_cons_zero, Option.some.injEq] at h3 h4
        subst h3 h4
        exact (H.out.bel hb).vals
      | succ j => simp at h3
    clear hk
    go_enter Tryz.func8, Tryz.ntmps8
    go_wp2_with fail
    go_loopg [3] (cnt t) (fun gk lv wr => ∃ ls, cln t = ls.all clns ∧ gk = mu ls ∧ mu ls ≤ 2000000000000 ∧ CI w ok ls lv wr)
    case atStart => exact ⟨[t.l], by rw [HT.out]; simp, by rw [cnt_eq]; simp [mu], by have := cnt_eq t; simp only [mu, List.map_cons, List.map_nil, List.sum_cons, List.sum_nil]; omega, S0.out⟩
    case round =>
      obtain ⟨ls, hcl, hgk, hM, g, cap, rfl, hW, hB⟩ := hrel
      rcases ends ls with rfl | ⟨ms, xs, rfl⟩
      · have R : Hid (cln t = true ∧ Below w.heap.size w wr) := hidI ⟨by rw [hcl]; rfl, hB⟩
        clear hcl hgk hM hW hB
        have e1 : ([] : List (List V)).length = 0 := rfl
        rw [e1]
        go_wp2_with fail
        go_ret
        exact ⟨by rw [R.out.1]; rfl, R.out.2⟩
      · obtain ⟨xv, px, vx, hW'⟩ := hW.pop
        obtain ⟨M, hgM⟩ : ∃ M, gk = M := ⟨_, rfl⟩
        rw [hgM] at hgk
        have GKM := hidI hgM
        clear hgM
        have J0 : Hid (CJ w ok t xs xv M 0 (.slice (some ⟨g, 0, none⟩) ms.length cap) wr) := hidI ⟨ms, by rw [hcl]; simp, by rw [hgk, mu_push]; simp; omega, vx, g, cap, rfl, hW', hB⟩
        have zL := hW.cap
        have eL : (ms ++ [xs]).length = ms.length + 1 := by simp
        rw [eL] at zL ⊢
        obtain ⟨z1, z2⟩ := zL
        obtain ⟨xa, xc, rfl⟩ := vx.form
        have lx := vx.len
        have GM : Hid (M ≤ 2000000000000) := hidI (by rw [hgk]; exact hM)
        clear hcl hW hW' hgk hM vx hB eL
        have y1 : (0 : Int) ≤ (ms.length : Int) := by omega
        have y2 : (ms.length : Int) < ((ms.length + 1 : Nat) : Int) := by omega
        have y3 : (ms.length : Int) ≤ (cap : Int) := by omega
        go_wp2_with fail
        go_loopg [3, 29] xs.length (fun gi lv i wi => ∃ k : Nat, k ≤ xs.length ∧ gi = xs.length - k ∧ i = .int .i64 k ∧ CJ w ok t xs (.slice xa xs.length xc) M k lv wi)
        case atStart => exact ⟨0, Nat.zero_le _, rfl, rfl, J0.out⟩
        case round =>
          obtain ⟨k, hk, hgi, rfl, ls, i1, i2, i3, g', cap', rfl, i4, i5⟩ := hrel
          have GI := hidI hgi
          have J : Hid (cln t = (ls.all clns && clns (xs.drop k)) ∧ mu ls + cnts (xs.drop k) + 1 ≤ M ∧ ValsIn wr (fun k => ok k ∧ k < w.heap.size) xs (.slice xa xs.length xc) ∧ Wait wr w.heap.size (fun k => ok k ∧ k < w.heap.size) ls g' cap' ∧ Below w.heap.size w wr) := hidI ⟨i1, i2, i3, i4, i5⟩
          clear hgi i1 i2 i4 i5
          by_cases hlt : k < xs.length
          · obtain ⟨xb, xo, p5, q5, p6, q6, rfl, x1, x2, g0, g1, g2, g3, g4, g5⟩ := i3.item hlt
            have VX := hidI g5.vals
            have w1 : (0 : Int) ≤ (k : Int) := by omega
            have w2 : (k : Int) < (xs.length : Int) := by omega
            have CD := hidI (clns_drop hlt)
            have ND := hidI (cnts_drop hlt)
            have NE := hidI (cnt_eq xs[k])
            have CE := hidI (cln_eq xs[k])
            clear i3 g5
            by_cases hn : xs[k].kind = 0
            · have e1 : (xs[k].kind == 0) = true := by rw [hn]; rfl
              have R : Hid (cln t = false ∧ Below w.heap.size w (wr.alloc (.cells #[.int .i64 xs[k].kind, .int .i64 xs[k].n, .string ⟨xs[k].s.toArray⟩, .slice p5 xs[k].keys.length q5, .slice p6 xs[k].l.length q6] 25))) := hidI ⟨by rw [J.out.1, CD.out, hn]; simp, bel_trans J.out.2.2.2.2 (bel_alloc _ _)⟩
              clear hn
              go_wp2_with fail
              go_ret
              exact ⟨by rw [R.out.1]; rfl, R.out.2⟩
            · have e1 : (xs[k].kind == 0) = false := by rw [beq_eq_false_iff_ne]; exact hn
              have HN := hidI hn
              by_cases h5 : xs[k].kind = 5
              · have e2 : (xs[k].kind == 5) = true := by rw [h5]; rfl
                have H5 := hidI h5
                have nls : ls.length ≤ 5000000000000 := by have := mu_len ls; have := J.out.2.1; have := GM.out; omega
                have FIN : Hid (∀ (g7 c7 : Nat) (w7 : World) (o1 o2 : Obj), Wait w7 w.heap.size (fun k => ok k ∧ k < w.heap.size) (ls ++ [xs[k].l]) g7 c7 → ((wr.alloc o1).alloc o2).grownBy w7 (some g') → CJ w ok t xs (.slice (some ⟨xb, xo, none⟩) xs.length xc) M (k + 1) (.slice (some ⟨g7, 0, none⟩) (ls.length + 1) c7) w7) := by
                  intro g7 c7 w7 o1 o2 h7 q7
                  have hb : Below wr.heap.size wr ((wr.alloc o1).alloc o2) := bel_al (bel_al (Below.refl _ _) _) _
                  obtain ⟨j1, j2, j3, j4, j5⟩ := J.out
                  have e4 := ND.out
                  have e5 := NE.out
                  have lg := j4.lt
                  refine ⟨ls ++ [xs[k].l], ?_, by rw [mu_push]; omega, (j3.bel hb).grown q7 (fun j hj => by have := hj.2; omega), g7, c7, by simp, h7, gb_none (gb_out (gb_below (bel_trans j5 hb)) q7 lg.1)⟩
                  rw [j1, CD.out, CE.out, H5.out]
                  simp [Bool.and_assoc]
                clear hn h5
                go_wp2_with (at_builtin; go_must (refine wpList_push rfl _ _ rfl rfl rfl (J.out.2.2.2.1.bel (bel_al (bel_al (Below.refl _ _) _) _)) (h2b _ _ _) (VX.out.bel (bel_al (bel_al (Below.refl _ _) _) _)) nls (fun j hj => low_wait (bel_trans J.out.2.2.2.2 (bel_al (bel_al (Below.refl _ _) _) _)) j hj) ?_); intro g7 c7 w7 h7 q7 o7; refine Hid.out ?_)
                refine hidI ?_
                have P7 := hidI (FIN.out _ _ _ _ _ h7 q7)
                clear h7 q7 o7
                go_wp2_with fail
                go_roundg (xs.length - (k + 1))
                case measure => rw [GI.out]; omega
                case rel => exact ⟨k + 1, hlt, rfl, by go_num, P7.out⟩
              · have e2 : (xs[k].kind == 5) = false := by rw [beq_eq_false_iff_ne]; exact h5
                have FIN : Hid (CJ w ok t xs (.slice (some ⟨xb, xo, none⟩) xs.length xc) M (k + 1) (.slice (some ⟨g', 0, none⟩) ls.length cap') (wr.alloc (.cells #[.int .i64 xs[k].kind, .int .i64 xs[k].n, .string ⟨xs[k].s.toArray⟩, .slice p5 xs[k].keys.length q5, .slice p6 xs[k].l.length q6] 25))) := by
                  obtain ⟨j1, j2, j3, j4, j5⟩ := J.out
                  have e4 := ND.out
                  refine hidI ⟨ls, ?_, by omega, j3.bel (bel_alloc _ _), g', cap', rfl, j4.bel (bel_alloc _ _), bel_trans j5 (bel_alloc _ _)⟩
                  rw [j1, CD.out, CE.out]
                  simp [hn, h5]
                clear hn h5
                go_wp2_with fail
                go_roundg (xs.length - (k + 1))
                case measure => rw [GI.out]; omega
                case rel => exact ⟨k + 1, hlt, rfl, by go_num, FIN.out⟩
          · have FIN : Hid ((∃ ls2, cln t = ls2.all clns ∧ mu ls = mu ls2 ∧ mu ls2 ≤ 2000000000000 ∧ CI w ok ls2 (.slice (some ⟨g', 0, none⟩) ls.length cap') wr) ∧ mu ls < M) := by
              obtain ⟨j1, j2, j3, j4, j5⟩ := J.out
              have l1 : xs.drop k = [] := List.drop_eq_nil_of_le (by omega)
              have := GM.out
              refine hidI ⟨⟨ls, by rw [j1, l1]; simp [clns_nil], rfl, by omega, g', cap', rfl, j4, j5⟩, by omega⟩
            have d1 : ¬ (k : Int) < (xs.length : Int) := by omega
            clear i3 J
            go_wp2_with fail
            go_roundg (mu ls)
            case measure => rw [GKM.out]; exact FIN.out.2
            case rel => exact FIN.out.1
  · have e0 : (t.kind != 5) = true := by rw [bne_iff_ne]; exact hk
    have HT : Hid (cln t = true) := hidI (by rw [cln_eq]; simp [hk])
    clear hk
    go_enter Tryz.func8, Tryz.ntmps8
    go_wp2_with fail
    go_ret
    exact ⟨by rw [HT.out]; rfl, bel_alloc _ _⟩
end Go.Proofs.YtfbddgpekbhpfacGreatDoor
