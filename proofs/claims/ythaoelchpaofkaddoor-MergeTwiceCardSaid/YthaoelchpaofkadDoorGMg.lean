/- What Merge and Diff of package merge do. -/
import Derived.Test.YthaoelchpaofkadDoorGSm
import Derived.Test.YthaoelchpaofkadDoorGMc
import Derived.Deep.DrawnRows
/- What Clean of package merge does. -/
set_option linter.unusedSimpArgs false
set_option linter.unusedVariables false
namespace Go.Proofs.YthaoelchpaofkadDoor
open Go.RowKit

def cln : V → Bool
  | ⟨k, _, _, _, l⟩ => !decide (k = 5) || (l.map fun x => !decide (x.kind = 0) && cln x).all id
def clns (xs : List V) : Bool := (xs.map fun x => !decide (x.kind = 0) && cln x).all id
theorem clns_nil : clns [] = true := rfl
theorem clns_cons (x : V) (xs : List V) : clns (x :: xs) = (!decide (x.kind = 0) && cln x && clns xs) := by simp [clns]
theorem cln_eq (t : V) : cln t = (!decide (t.kind = 5) || clns t.l) := by cases t; rw [cln]; rfl
theorem clns_drop {xs : List V} {k : Nat} (h : k < xs.length) : clns (xs.drop k) = (!decide (xs[k].kind = 0) && cln xs[k] && clns (xs.drop (k + 1))) := by
  rw [List.drop_eq_getElem_cons h, clns_cons]
theorem clns_all : ∀ (D : Nat) (l : List V), (∀ x ∈ l, cleanF D x = cln x) → (l.all fun x => !decide (x.kind = 0) && cleanF D x) = clns l
  | _, [], _ => rfl
  | D, x :: l, h => by
    rw [List.all_cons, clns_cons, h x (by simp), clns_all D l fun y hy => h y (by simp [hy])]
theorem clean_cln (D : Nat) : ∀ (t : V), GoodT D t → cleanF D t = cln t := by
  induction D with
  | zero => intro t h; exact h.elim
  | succ D ih =>
    intro t h
    rw [cleanF, cln_eq, clns_all D t.l fun x hx => ih x (h.2 x hx)]
def CI (w : World) (ok : Nat → Prop) (ls : List (List V)) (lv : Value) (wr : World) : Prop :=
  ∃ g cap, lv = .slice (some ⟨g, 0, none⟩) ls.length cap ∧ Wait wr w.heap.size (fun k => ok k ∧ k < w.heap.size) ls g cap ∧ Below w.heap.size w wr
def CJ (w : World) (ok : Nat → Prop) (t : V) (xs : List V) (xv : Value) (M k : Nat) (lv : Value) (wr : World) : Prop :=
  ∃ ls, cln t = (ls.all clns && clns (xs.drop k)) ∧ mu ls + cnts (xs.drop k) + 1 ≤ M ∧ ValsIn wr (fun k => ok k ∧ k < w.heap.size) xs xv ∧ CI w ok ls lv wr
theorem low_wait {w wr : World} {ok : Nat → Prop} (h : Below w.heap.size w wr) : ∀ k, (fun k => ok k ∧ k < w.heap.size) k → k < wr.heap.size := fun k hk => by have := h.size; have := hk.2; omega

set_option maxRecDepth 100000 in
set_option maxHeartbeats 40000000 in
theorem clean_is (w : World) (ok : Nat → Prop) (t : V) (tv : Value) (h : In w ok t tv) (hN : cnt t ≤ 2000000000000) :
    Calls Tryd.prog 11 #[tv] w fun e w' => e = .returned (.bool (cln t)) ∧ Below w.heap.size w w' := by
  have H := hidI h.low
  obtain ⟨a1, a2, c1, c2, rfl⟩ := h.form
  clear h
  by_cases hk : t.kind = 5
  · have e0 : (t.kind != 5) = false := by rw [hk]; rfl
    have HT : Hid (cln t = clns t.l) := hidI (by rw [cln_eq, hk]; rfl)
    have S0 : Hid (CI w ok [t.l] (.slice (some ⟨w.heap.size + 1, 0, none⟩) 1 1) ((w.alloc (.cells #[.int .i64 t.kind, .int .i64 t.n, .string ⟨t.s.toArray⟩, .slice a1 t.keys.length c1, .slice a2 t.l.length c2] 25)).alloc (.cells #[.slice a2 t.l.length c2] 23))) := by
      have hb : Below w.heap.size w ((w.alloc (.cells #[.int .i64 t.kind, .int .i64 t.n, .string ⟨t.s.toArray⟩, .slice a1 t.keys.length c1, .slice a2 t.l.length c2] 25)).alloc (.cells #[.slice a2 t.l.length c2] 23)) := bel_al (bel_al (Below.refl _ _) _) _
      refine hidI ⟨w.heap.size + 1, 1, rfl, ⟨[.slice a2 t.l.length c2], own_one (h2b _ _ _) (by omega), ⟨rfl, ?_⟩, fun k hk => by have := hk.2; omega⟩, hb⟩
      intro j l c h3 h4
      cases j with
      | zero =>
        simp only [List.getElem?_cons_zero, Option.some.injEq] at h3 h4
        subst h3 h4
        exact (H.out.bel hb).vals
      | succ j => simp at h3
    clear hk
    go_enter Tryd.func11, Tryd.ntmps11
    go_wp2_with fail
    go_loopg [3] (cnt t) (fun gk lv wr => ∃ ls, cln t = ls.all clns ∧ gk = mu ls ∧ mu ls ≤ 2000000000000 ∧ CI w ok ls lv wr)
    case atStart => exact ⟨[t.l], by rw [HT.out]; simp, by rw [cnt_eq]; simp [mu], by have := cnt_eq t; simp only [mu, List.map_cons, List.map_nil, List.sum_cons, List.sum_nil]; omega, S0.out⟩
    case round =>
      obtain ⟨ls, hcl, hgk, hM, g, cap, rfl, hW, hB⟩ := hrel
      rcases ends ls with rfl | ⟨ms, xs, rfl⟩
      · have R : Hid (cln t = true ∧ Below w.heap.size w wr) := hidI ⟨by rw [hcl]; rfl, hB⟩
        clear hcl hgk hM hW hB
        have e1 : ([] : List (List V)).length = 0 := rfl
        rw [e1]
        go_wp2_with fail
        go_ret
        exact ⟨by rw [R.out.1]; rfl, R.out.2⟩
      · obtain ⟨xv, px, vx, hW'⟩ := hW.pop
        obtain ⟨M, hgM⟩ : ∃ M, gk = M := ⟨_, rfl⟩
        rw [hgM] at hgk
        have GKM := hidI hgM
        clear hgM
        have J0 : Hid (CJ w ok t xs xv M 0 (.slice (some ⟨g, 0, none⟩) ms.length cap) wr) := hidI ⟨ms, by rw [hcl]; simp, by rw [hgk, mu_push]; simp; omega, vx, g, cap, rfl, hW', hB⟩
        have zL := hW.cap
        have eL : (ms ++ [xs]).length = ms.length + 1 := by simp
        rw [eL] at zL ⊢
        obtain ⟨z1, z2⟩ := zL
        obtain ⟨xa, xc, rfl⟩ := vx.form
        have lx := vx.len
        have GM : Hid (M ≤ 2000000000000) := hidI (by rw [hgk]; exact hM)
        clear hcl hW hW' hgk hM vx hB eL
        have y1 : (0 : Int) ≤ (ms.length : Int) := by omega
        have y2 : (ms.length : Int) < ((ms.length + 1 : Nat) : Int) := by omega
        have y3 : (ms.length : Int) ≤ (cap : Int) := by omega
        go_wp2_with fail
        go_loopg [3, 29] xs.length (fun gi lv i wi => ∃ k : Nat, k ≤ xs.length ∧ gi = xs.length - k ∧ i = .int .i64 k ∧ CJ w ok t xs (.slice xa xs.length xc) M k lv wi)
        case atStart => exact ⟨0, Nat.zero_le _, rfl, rfl, J0.out⟩
        case round =>
          obtain ⟨k, hk, hgi, rfl, ls, i1, i2, i3, g', cap', rfl, i4, i5⟩ := hrel
          have GI := hidI hgi
          have J : Hid (cln t = (ls.all clns && clns (xs.drop k)) ∧ mu ls + cnts (xs.drop k) + 1 ≤ M ∧ ValsIn wr (fun k => ok k ∧ k < w.heap.size) xs (.slice xa xs.length xc) ∧ Wait wr w.heap.size (fun k => ok k ∧ k < w.heap.size) ls g' cap' ∧ Below w.heap.size w wr) := hidI ⟨i1, i2, i3, i4, i5⟩
          clear hgi i1 i2 i4 i5
          by_cases hlt : k < xs.length
          · obtain ⟨xb, xo, p5, q5, p6, q6, rfl, x1, x2, g0, g1, g2, g3, g4, g5⟩ := i3.item hlt
            have VX := hidI g5.vals
            have w1 : (0 : Int) ≤ (k : Int) := by omega
            have w2 : (k : Int) < (xs.length : Int) := by omega
            have CD := hidI (clns_drop hlt)
            have ND := hidI (cnts_drop hlt)
            have NE := hidI (cnt_eq xs[k])
            have CE := hidI (cln_eq xs[k])
            clear i3 g5
            by_cases hn : xs[k].kind = 0
            · have e1 : (xs[k].kind == 0) = true := by rw [hn]; rfl
              have R : Hid (cln t = false ∧ Below w.heap.size w (wr.alloc (.cells #[.int .i64 xs[k].kind, .int .i64 xs[k].n, .string ⟨xs[k].s.toArray⟩, .slice p5 xs[k].keys.length q5, .slice p6 xs[k].l.length q6] 25))) := hidI ⟨by rw [J.out.1, CD.out, hn]; simp, bel_trans J.out.2.2.2.2 (bel_alloc _ _)⟩
              clear hn
              go_wp2_with fail
              go_ret
              exact ⟨by rw [R.out.1]; rfl, R.out.2⟩
            · have e1 : (xs[k].kind == 0) = false := by rw [beq_eq_false_iff_ne]; exact hn
              have HN := hidI hn
              by_cases h5 : xs[k].kind = 5
              · have e2 : (xs[k].kind == 5) = true := by rw [h5]; rfl
                have H5 := hidI h5
                have nls : ls.length ≤ 5000000000000 := by have := mu_len ls; have := J.out.2.1; have := GM.out; omega
                have FIN : Hid (∀ (g7 c7 : Nat) (w7 : World) (o1 o2 : Obj), Wait w7 w.heap.size (fun k => ok k ∧ k < w.heap.size) (ls ++ [xs[k].l]) g7 c7 → ((wr.alloc o1).alloc o2).grownBy w7 (some g') → CJ w ok t xs (.slice (some ⟨xb, xo, none⟩) xs.length xc) M (k + 1) (.slice (some ⟨g7, 0, none⟩) (ls.length + 1) c7) w7) := by
                  intro g7 c7 w7 o1 o2 h7 q7
                  have hb : Below wr.heap.size wr ((wr.alloc o1).alloc o2) := bel_al (bel_al (Below.refl _ _) _) _
                  obtain ⟨j1, j2, j3, j4, j5⟩ := J.out
                  have e4 := ND.out
                  have e5 := NE.out
                  have lg := j4.lt
                  refine ⟨ls ++ [xs[k].l], ?_, by rw [mu_push]; omega, (j3.bel hb).grown q7 (fun j hj => by have := hj.2; omega), g7, c7, by simp, h7, gb_none (gb_out (gb_below (bel_trans j5 hb)) q7 lg.1)⟩
                  rw [j1, CD.out, CE.out, H5.out]
                  simp [Bool.and_assoc]
                clear hn h5
                go_wp2_with (at_builtin; go_must (refine wpList_push rfl _ _ rfl rfl rfl (J.out.2.2.2.1.bel (bel_al (bel_al (Below.refl _ _) _) _)) (h2b _ _ _) (VX.out.bel (bel_al (bel_al (Below.refl _ _) _) _)) nls (fun j hj => low_wait (bel_trans J.out.2.2.2.2 (bel_al (bel_al (Below.refl _ _) _) _)) j hj) ?_); intro g7 c7 w7 h7 q7 o7; refine Hid.out ?_)
                refine hidI ?_
                have P7 := hidI (FIN.out _ _ _ _ _ h7 q7)
                clear h7 q7 o7
                go_wp2_with fail
                go_roundg (xs.length - (k + 1))
                case measure => rw [GI.out]; omega
                case rel => exact ⟨k + 1, hlt, rfl, by go_num, P7.out⟩
              · have e2 : (xs[k].kind == 5) = false := by rw [beq_eq_false_iff_ne]; exact h5
                have FIN : Hid (CJ w ok t xs (.slice (some ⟨xb, xo, none⟩) xs.length xc) M (k + 1) (.slice (some ⟨g', 0, none⟩) ls.length cap') (wr.alloc (.cells #[.int .i64 xs[k].kind, .int .i64 xs[k].n, .string ⟨xs[k].s.toArray⟩, .slice p5 xs[k].keys.length q5, .slice p6 xs[k].l.length q6] 25))) := by
                  obtain ⟨j1, j2, j3, j4, j5⟩ := J.out
                  have e4 := ND.out
                  refine hidI ⟨ls, ?_, by omega, j3.bel (bel_alloc _ _), g', cap', rfl, j4.bel (bel_alloc _ _), bel_trans j5 (bel_alloc _ _)⟩
                  rw [j1, CD.out, CE.out]
                  simp [hn, h5]
                clear hn h5
                go_wp2_with fail
                go_roundg (xs.length - (k + 1))
                case measure => rw [GI.out]; omega
                case rel => exact ⟨k + 1, hlt, rfl, by go_num, FIN.out⟩
          · have FIN : Hid ((∃ ls2, cln t = ls2.all clns ∧ mu ls = mu ls2 ∧ mu ls2 ≤ 2000000000000 ∧ CI w ok ls2 (.slice (some ⟨g', 0, none⟩) ls.length cap') wr) ∧ mu ls < M) := by
              obtain ⟨j1, j2, j3, j4, j5⟩ := J.out
              have l1 : xs.drop k = [] := List.drop_eq_nil_of_le (by omega)
              have := GM.out
              refine hidI ⟨⟨ls, by rw [j1, l1]; simp [clns_nil], rfl, by omega, g', cap', rfl, j4, j5⟩, by omega⟩
            have d1 : ¬ (k : Int) < (xs.length : Int) := by omega
            clear i3 J
            go_wp2_with fail
            go_roundg (mu ls)
            case measure => rw [GKM.out]; exact FIN.out.2
            case rel => exact FIN.out.1
  · have e0 : (t.kind != 5) = true := by rw [bne_iff_ne]; exact hk
    have HT : Hid (cln t = true) := hidI (by rw [cln_eq]; simp [hk])
    clear hk
    go_enter Tryd.func11, Tryd.ntmps11
    go_wp2_with fail
    go_ret
    exact ⟨by rw [HT.out]; rfl, bel_alloc _ _⟩
end Go.Proofs.YthaoelchpaofkadDoor

/- What gone of package merge does. -/
set_option linter.unusedSimpArgs false
set_option linter.unusedVariables false
namespace Go.Proofs.YthaoelchpaofkadDoor
open Go.RowKit

theorem foldG_len {b : V} : ∀ (ps : List (List UInt8 × V)) (v : V), (ps.foldl (stepG b) v).l.length ≤ v.l.length + ps.length
  | [], v => by simp
  | p :: ps, v => by
    have h1 := foldG_len (b := b) ps (stepG b v p)
    have h2 : (stepG b v p).l.length ≤ v.l.length + 1 := by
      unfold stepG
      split
      · omega
      · exact with_items _ _ _
    rw [List.foldl_cons, List.length_cons]; omega
theorem gone_at {a b : V} {k : Nat} (ha : Nice a) : Ob (((a.keys.zip a.l).take k).foldl (stepG b) objT) ∧ (((a.keys.zip a.l).take k).foldl (stepG b) objT).l.length ≤ 120 := by
  refine ⟨fold_ob (stepG_ob b) _ _ ob_objT, ?_⟩
  have h1 := foldG_len (b := b) ((a.keys.zip a.l).take k) objT
  have h3 := nice_len ha
  have h4 : ((a.keys.zip a.l).take k).length ≤ a.l.length := by rw [List.length_take, List.length_zip]; omega
  simp only [objT, List.length_nil] at h1 ⊢; omega
theorem h4a (w : World) (o1 o2 o3 o4 : Obj) : ((((w.alloc o1).alloc o2).alloc o3).alloc o4).heap[w.heap.size]? = some o1 := by
  rw [(World.grownBy_alloc (((w.alloc o1).alloc o2).alloc o3) o4 none).block _ (by first | (simp; omega) | simp) (by simp)]; exact h3a w o1 o2 o3
theorem h4b (w : World) (o1 o2 o3 o4 : Obj) : ((((w.alloc o1).alloc o2).alloc o3).alloc o4).heap[w.heap.size + 1]? = some o2 := by
  rw [(World.grownBy_alloc (((w.alloc o1).alloc o2).alloc o3) o4 none).block _ (by first | (simp; omega) | simp) (by simp)]; exact h3b w o1 o2 o3
theorem h4c (w : World) (o1 o2 o3 o4 : Obj) : ((((w.alloc o1).alloc o2).alloc o3).alloc o4).heap[w.heap.size + 2]? = some o3 := by
  rw [(World.grownBy_alloc (((w.alloc o1).alloc o2).alloc o3) o4 none).block _ (by first | (simp; omega) | simp) (by simp)]; exact h3c w o1 o2 o3
theorem h4d (w : World) (o1 o2 o3 o4 : Obj) : ((((w.alloc o1).alloc o2).alloc o3).alloc o4).heap[w.heap.size + 3]? = some o4 := by
  have := heap_alloc_new (((w.alloc o1).alloc o2).alloc o3) o4
  simpa using this
def GnI (w : World) (ok : Nat → Prop) (a b : V) (a1 a2 a3 a4 : Option Addr) (c1 c2 c3 c4 k : Nat) (wr : World) : Prop :=
  ∃ (y : V) (a5 a6 : Option Addr) (c5 c6 : Nat), y = ((a.keys.zip a.l).take k).foldl (stepG b) objT ∧ BoxIs wr w.heap.size (.int .i64 a.kind) (.int .i64 a.n) (.string ⟨a.s.toArray⟩) (.slice a1 a.keys.length c1) (.slice a2 a.l.length c2) ∧ BoxIs wr (w.heap.size + 1) (.int .i64 b.kind) (.int .i64 b.n) (.string ⟨b.s.toArray⟩) (.slice a3 b.keys.length c3) (.slice a4 b.l.length c4) ∧ BoxIs wr (w.heap.size + 2) (.int .i64 0) (.int .i64 0) (.string ⟨#[]⟩) (.slice none 0 0) (.slice none 0 0) ∧ BoxIs wr (w.heap.size + 3) (.int .i64 y.kind) (.int .i64 y.n) (.string ⟨y.s.toArray⟩) (.slice a5 y.keys.length c5) (.slice a6 y.l.length c6) ∧ Below w.heap.size w wr ∧ In wr (lowN ok w.heap.size (w.heap.size + 4)) y (.agg #[.int .i64 y.kind, .int .i64 y.n, .string ⟨y.s.toArray⟩, .slice a5 y.keys.length c5, .slice a6 y.l.length c6])

set_option maxRecDepth 100000 in
set_option maxHeartbeats 40000000 in
theorem gone_is (w : World) (ok : Nat → Prop) (a b : V) (va vb : Value) (h : In w ok a va) (hb : In w ok b vb) (na : Nice a) (oa : Ob a) :
    Calls Tryd.prog 17 #[va, vb] w fun e w' => ∃ r, e = .returned r ∧ Below w.heap.size w w' ∧ In w' (okN ok w.heap.size) (goneV a b) r := by
  have H := hidI h.low
  have HB := hidI hb.low
  have NA := hidI na
  have OA := hidI oa
  have HKL : Hid (a.keys.length = a.l.length) := hidI oa.2.2.2.1
  obtain ⟨l1, l2, l3⟩ := h.lens
  obtain ⟨a1, a2, c1, c2, rfl⟩ := h.form
  obtain ⟨a3, a4, c3, c4, rfl⟩ := hb.form
  clear h hb na oa
  have B4 : Hid (∀ o1 o2 o3 o4, Below w.heap.size w ((((w.alloc o1).alloc o2).alloc o3).alloc o4)) := fun o1 o2 o3 o4 => bel_trans (bel_trans (bel_trans (bel_alloc _ _) (bel_alloc _ _)) (bel_alloc _ _)) (bel_alloc _ _)
  have I0 : Hid (GnI w ok a b a1 a2 a3 a4 c1 c2 c3 c4 0 ((((w.alloc (.cells #[.int .i64 a.kind, .int .i64 a.n, .string ⟨a.s.toArray⟩, .slice a1 a.keys.length c1, .slice a2 a.l.length c2] 25)).alloc (.cells #[.int .i64 b.kind, .int .i64 b.n, .string ⟨b.s.toArray⟩, .slice a3 b.keys.length c3, .slice a4 b.l.length c4] 25)).alloc (.cells #[.int .i64 0, .int .i64 0, .string ⟨#[]⟩, .slice none 0 0, .slice none 0 0] 25)).alloc (.cells #[.int .i64 5, .int .i64 0, .string ⟨#[]⟩, .slice none 0 0, .slice none 0 0] 25))) := hidI ⟨objT, none, none, 0, 0, rfl, h4a w _ _ _ _, h4b w _ _ _ _, h4c w _ _ _ _, h4d w _ _ _ _, B4.out _ _ _ _, in_leaf _ _ 5 0 (by unfold I64; omega) (by unfold I64; omega)⟩
  go_enter Tryd.func17, Tryd.ntmps17
  go_wp2_with fail
  go_loopg [14] a.keys.length (fun gk i wr => ∃ k : Nat, k ≤ a.keys.length ∧ gk = a.keys.length - k ∧ i = .int .i64 k ∧ GnI w ok a b a1 a2 a3 a4 c1 c2 c3 c4 k wr)
  case atStart => exact ⟨0, Nat.zero_le _, rfl, rfl, I0.out⟩
  case round =>
    obtain ⟨k, hk, hgk, rfl, y, a5, a6, c5, c6, i0, i1, i2, i3, i4, i5, i6⟩ := hrel
    have GK := hidI hgk
    have I : Hid (y = ((a.keys.zip a.l).take k).foldl (stepG b) objT ∧ BoxIs wr w.heap.size (.int .i64 a.kind) (.int .i64 a.n) (.string ⟨a.s.toArray⟩) (.slice a1 a.keys.length c1) (.slice a2 a.l.length c2) ∧ BoxIs wr (w.heap.size + 1) (.int .i64 b.kind) (.int .i64 b.n) (.string ⟨b.s.toArray⟩) (.slice a3 b.keys.length c3) (.slice a4 b.l.length c4) ∧ BoxIs wr (w.heap.size + 2) (.int .i64 0) (.int .i64 0) (.string ⟨#[]⟩) (.slice none 0 0) (.slice none 0 0) ∧ BoxIs wr (w.heap.size + 3) (.int .i64 y.kind) (.int .i64 y.n) (.string ⟨y.s.toArray⟩) (.slice a5 y.keys.length c5) (.slice a6 y.l.length c6) ∧ Below w.heap.size w wr ∧ In wr (lowN ok w.heap.size (w.heap.size + 4)) y (.agg #[.int .i64 y.kind, .int .i64 y.n, .string ⟨y.s.toArray⟩, .slice a5 y.keys.length c5, .slice a6 y.l.length c6])) := hidI ⟨i0, i1, i2, i3, i4, i5, i6⟩
    have hwsz := i4.lt
    obtain ⟨p0, p1, p2, p3, p4, -⟩ := i2.c
    clear hgk i0 i1 i2 i3 i4 i5 i6
    by_cases hlt : k < a.keys.length
    · have hlt' : k < a.l.length := by have := HKL.out; omega
      obtain ⟨kb, ko, rfl, j1, j2, jk, jl⟩ := H.out.key hlt
      replace jk := cell_bel I.out.2.2.2.2.2.1 jk
      have w1 : (0 : Int) ≤ (k : Int) := by omega
      have w3 : (k : Int) < (a.keys.length : Int) := by omega
      have GA : Hid (Ob y ∧ y.l.length ≤ 120) := hidI (by rw [I.out.1]; exact gone_at NA.out)
      have ST : Hid (∀ u, u = stepG b y (a.keys[k], a.l[k]) → u = ((a.keys.zip a.l).take (k + 1)).foldl (stepG b) objT) := hidI (by rintro u rfl; rw [zip_step hlt hlt', ← I.out.1])
      go_wp2_with fail
      refine (member_was _ (fun j => ok j ∧ j < w.heap.size) b _ a.keys[k] (by exact HB.out.bel I.out.2.2.2.2.2.1)).mono ?_
      rintro e w4 ⟨r, rfl, hb4, hr⟩
      obtain ⟨q, hq⟩ : ∃ q, (memV b a.keys[k]).getD zeroT = q := ⟨_, rfl⟩
      rw [hq] at hr
      obtain ⟨a7, a8, c7, c8, rfl⟩ := hr.form
      have hbb := bel_trans hb4 (bel_alloc w4 (.cells #[.int .i64 q.kind, .int .i64 q.n, .string ⟨q.s.toArray⟩, .slice a7 q.keys.length c7, .slice a8 q.l.length c8] 25))
      have K : Hid (BoxIs (w4.alloc (.cells #[.int .i64 q.kind, .int .i64 q.n, .string ⟨q.s.toArray⟩, .slice a7 q.keys.length c7, .slice a8 q.l.length c8] 25)) w.heap.size (.int .i64 a.kind) (.int .i64 a.n) (.string ⟨a.s.toArray⟩) (.slice (some ⟨kb, ko, none⟩) a.keys.length c1) (.slice a2 a.l.length c2) ∧ BoxIs (w4.alloc (.cells #[.int .i64 q.kind, .int .i64 q.n, .string ⟨q.s.toArray⟩, .slice a7 q.keys.length c7, .slice a8 q.l.length c8] 25)) (w.heap.size + 1) (.int .i64 b.kind) (.int .i64 b.n) (.string ⟨b.s.toArray⟩) (.slice a3 b.keys.length c3) (.slice a4 b.l.length c4) ∧ BoxIs (w4.alloc (.cells #[.int .i64 q.kind, .int .i64 q.n, .string ⟨q.s.toArray⟩, .slice a7 q.keys.length c7, .slice a8 q.l.length c8] 25)) (w.heap.size + 2) (.int .i64 0) (.int .i64 0) (.string ⟨#[]⟩) (.slice none 0 0) (.slice none 0 0) ∧ BoxIs (w4.alloc (.cells #[.int .i64 q.kind, .int .i64 q.n, .string ⟨q.s.toArray⟩, .slice a7 q.keys.length c7, .slice a8 q.l.length c8] 25)) (w.heap.size + 3) (.int .i64 y.kind) (.int .i64 y.n) (.string ⟨y.s.toArray⟩) (.slice a5 y.keys.length c5) (.slice a6 y.l.length c6) ∧ Below w.heap.size w (w4.alloc (.cells #[.int .i64 q.kind, .int .i64 q.n, .string ⟨q.s.toArray⟩, .slice a7 q.keys.length c7, .slice a8 q.l.length c8] 25)) ∧ In (w4.alloc (.cells #[.int .i64 q.kind, .int .i64 q.n, .string ⟨q.s.toArray⟩, .slice a7 q.keys.length c7, .slice a8 q.l.length c8] 25)) (lowN ok w.heap.size (w.heap.size + 4)) y (.agg #[.int .i64 y.kind, .int .i64 y.n, .string ⟨y.s.toArray⟩, .slice a5 y.keys.length c5, .slice a6 y.l.length c6]) ∧ w.heap.size + 4 ≤ (w4.alloc (.cells #[.int .i64 q.kind, .int .i64 q.n, .string ⟨q.s.toArray⟩, .slice a7 q.keys.length c7, .slice a8 q.l.length c8] 25)).heap.size) := hidI ⟨box_bel hbb I.out.2.1, box_bel hbb I.out.2.2.1, box_bel hbb I.out.2.2.2.1, box_bel hbb I.out.2.2.2.2.1, bel_trans I.out.2.2.2.2.2.1 hbb, I.out.2.2.2.2.2.2.bel hbb, Nat.le_trans hwsz hbb.size⟩
      clear hq hr hb4 hbb p0 p1 p2 p3 p4 jk
      cases hmb : (memV b a.keys[k]).isSome with
      | true =>
        have FIN : Hid (GnI w ok a b (some ⟨kb, ko, none⟩) a2 a3 a4 c1 c2 c3 c4 (k + 1) (w4.alloc (.cells #[.int .i64 q.kind, .int .i64 q.n, .string ⟨q.s.toArray⟩, .slice a7 q.keys.length c7, .slice a8 q.l.length c8] 25))) := hidI ⟨y, a5, a6, c5, c6, ST.out y (by unfold stepG; rw [if_pos hmb]), K.out.1, K.out.2.1, K.out.2.2.1, K.out.2.2.2.1, K.out.2.2.2.2.1, K.out.2.2.2.2.2.1⟩
        clear hmb
        go_wp2_with fail
        go_roundg (a.keys.length - (k + 1))
        case measure => rw [GK.out]; omega
        case rel => exact ⟨k + 1, hlt, rfl, by go_num, FIN.out⟩
      | false =>
        have HS : Hid (stepG b y (a.keys[k], a.l[k]) = withV y a.keys[k] zeroT) := hidI (by unfold stepG; rw [if_neg (by rw [hmb]; simp)])
        clear hmb
        obtain ⟨y0, y1, y2, y3, y4, -⟩ := K.out.2.2.2.1.c
        go_wp2_with fail
        refine (with_is _ (lowN ok w.heap.size (w.heap.size + 4)) y zeroT _ _ a.keys[k] (by exact K.out.2.2.2.2.2.1) (by exact in_zero _ _) GA.out.1.paired (by have := GA.out.2; omega) jl).mono ?_
        rintro e w6 ⟨r, rfl, hr, hb6⟩
        obtain ⟨u, hu⟩ : ∃ u, withV y a.keys[k] zeroT = u := ⟨_, rfl⟩
        rw [hu] at hr
        obtain ⟨e5, e6, f5, f6, rfl⟩ := hr.form
        have FIN : Hid (GnI w ok a b (some ⟨kb, ko, none⟩) a2 a3 a4 c1 c2 c3 c4 (k + 1) (set5 w6 (w.heap.size + 3) (.int .i64 u.kind) (.int .i64 u.n) (.string ⟨u.s.toArray⟩) (.slice e5 u.keys.length f5) (.slice e6 u.l.length f6))) := by
          have gs := set5_gb w6 (w.heap.size + 3) (.int .i64 u.kind) (.int .i64 u.n) (.string ⟨u.s.toArray⟩) (.slice e5 u.keys.length f5) (.slice e6 u.l.length f6)
          refine hidI ⟨u, e5, e6, f5, f6, ST.out u (by rw [HS.out, hu]), (box_bel hb6 K.out.1).grown gs (by simp), (box_bel hb6 K.out.2.1).grown gs (by simp), (box_bel hb6 K.out.2.2.1).grown gs (by simp), (box_bel hb6 K.out.2.2.2.1).set _ _ _ _ _, bel_set5 (bel_trans K.out.2.2.2.2.1 hb6) (by omega) _ _ _ _ _, (hr.weak (lowN_up K.out.2.2.2.2.2.2)).box (by omega) (by omega) _ _ _ _ _⟩
        obtain ⟨t0, t1, t2, t3, t4, t5, t6, t7, t8, t9⟩ := (box_bel hb6 K.out.2.2.2.1).c
        clear hu hr hb6 y0 y1 y2 y3 y4
        go_wp2_with fail
        go_roundg (a.keys.length - (k + 1))
        case measure => rw [GK.out]; omega
        case rel => exact ⟨k + 1, hlt, rfl, by go_num, FIN.out⟩
    · have HY : Hid (goneV a b = y) := hidI (by rw [goneV, I.out.1, List.take_of_length_le (by rw [List.length_zip]; have := HKL.out; omega)])
      have d1 : ¬ (k : Int) < (a.keys.length : Int) := by omega
      obtain ⟨y0, y1, y2, y3, y4, -⟩ := I.out.2.2.2.2.1.c
      obtain ⟨z0, z1, z2, z3, z4, z5, z6, z7, z8, z9⟩ := I.out.2.2.2.1.c
      have Z : Hid (_ ∧ _) := hidI (sto_out (g := w.heap.size + 2) I.out.2.2.2.2.2.2 I.out.2.2.2.2.2.1 (by omega) (by omega))
      have ZB : Hid _ := hidI (I.out.2.2.2.1.set (.int .i64 y.kind) (.int .i64 y.n) (.string ⟨y.s.toArray⟩) (.slice a5 y.keys.length c5) (.slice a6 y.l.length c6))
      go_wp2_with fail
      obtain ⟨q0, q1, q2, q3, q4, -⟩ := ZB.out.c
      refine bodyPost_ret (v := .agg #[.int .i64 y.kind, .int .i64 y.n, .string ⟨y.s.toArray⟩, .slice a5 y.keys.length c5, .slice a6 y.l.length c6]) ?_ rfl ?_
      · simp only [set5] at q0 q1 q2 q3 q4
        simp [results, Tryd.results17, go_sem, q0, q1, q2, q3, q4]
      · exact ⟨_, rfl, Z.out.1, by rw [HY.out]; exact Z.out.2⟩
end Go.Proofs.YthaoelchpaofkadDoor

/- What other of package merge does. -/
set_option linter.unusedSimpArgs false
set_option linter.unusedVariables false
namespace Go.Proofs.YthaoelchpaofkadDoor
open Go.RowKit
attribute [local go_sem ↓] Go.wp_at_zero Go.wp_at_succ

def okE (ok : Nat → Prop) (B C g : Nat) : Nat → Prop := fun k => (ok k ∧ k < B) ∨ (C ≤ k ∧ k ≠ g)
theorem okE_low {ok : Nat → Prop} {B C g : Nat} : ∀ k, (ok k ∧ k < B) → okE ok B C g k := fun _ h => .inl h
theorem okE_up {ok : Nat → Prop} {B C g H : Nat} (h1 : C ≤ H) (h2 : g < H) : ∀ k, okN (okE ok B C g) H k → okE ok B C g k := by
  intro k hk
  rcases hk with hk | hk
  · exact hk
  · exact .inr ⟨by omega, by omega⟩
theorem okE_out {ok : Nat → Prop} {B C g : Nat} (h : B ≤ C) : ∀ k, okE ok B C g k → okN ok B k := by
  intro k hk
  rcases hk with hk | hk
  · exact .inl hk.1
  · exact .inr (by omega)
theorem okE_ne {ok : Nat → Prop} {B C g : Nat} (h : B ≤ g) : ∀ k, okE ok B C g k → k ≠ g := by
  intro k hk
  rcases hk with hk | hk <;> omega
theorem okE_ne2 {ok : Nat → Prop} {B C g x : Nat} (h1 : B ≤ x) (h2 : x < C) : ∀ k, okE ok B C g k → k ≠ x := by
  intro k hk
  rcases hk with hk | hk <;> omega
theorem foldD_len {f : V → V → V} {a : V} : ∀ (ps : List (List UInt8 × V)) (v : V), (ps.foldl (stepD f a) v).l.length ≤ v.l.length + ps.length
  | [], v => by simp
  | p :: ps, v => by
    have h1 := foldD_len (f := f) (a := a) ps (stepD f a v p)
    have h2 : (stepD f a v p).l.length ≤ v.l.length + 1 := by
      unfold stepD
      split
      · exact with_items _ _ _
      · split
        · omega
        · exact with_items _ _ _
    rw [List.foldl_cons, List.length_cons]; omega
theorem diff_at {E : Nat} {a b : V} {k : Nat} (ha : Nice a) (hb : Nice b) : Ob (((b.keys.zip b.l).take k).foldl (stepD (diffF E) a) (goneV a b)) ∧ (((b.keys.zip b.l).take k).foldl (stepD (diffF E) a) (goneV a b)).l.length ≤ 240 := by
  refine ⟨fold_ob (stepD_ob _ _) _ _ (gone_ob a b), ?_⟩
  have h1 := foldD_len (f := diffF E) (a := a) ((b.keys.zip b.l).take k) (goneV a b)
  have h2 : (goneV a b).l.length ≤ 120 := by
    have h5 := (gone_at (a := a) (b := b) (k := (a.keys.zip a.l).length) ha).2
    rw [List.take_of_length_le (Nat.le_refl _)] at h5
    exact h5
  have h3 := nice_len hb
  have h4 : ((b.keys.zip b.l).take k).length ≤ b.l.length := by rw [List.length_take, List.length_zip]; omega
  omega
def OtC (E : Nat) : Prop := ∀ (w : World) (ok : Nat → Prop) (a b : V) (va vb : Value), In w ok a va → In w ok b vb → Nice a → Nice b → Dep E b →
  Calls Tryd.prog 12 #[va, vb] w fun e w' => ∃ r, e = .returned r ∧ Below w.heap.size w w' ∧ In w' (okN ok w.heap.size) (diffF E a b) r
def OtI (w : World) (ok : Nat → Prop) (E : Nat) (a b : V) (a1 a2 a3 a4 : Option Addr) (c1 c2 c3 c4 gd k : Nat) (wr : World) : Prop :=
  ∃ (y : V) (a5 a6 : Option Addr) (c5 c6 : Nat), y = ((b.keys.zip b.l).take k).foldl (stepD (diffF E) a) (goneV a b) ∧ (BoxIs wr w.heap.size (.int .i64 a.kind) (.int .i64 a.n) (.string ⟨a.s.toArray⟩) (.slice a1 a.keys.length c1) (.slice a2 a.l.length c2) ∧ BoxIs wr (w.heap.size + 1) (.int .i64 b.kind) (.int .i64 b.n) (.string ⟨b.s.toArray⟩) (.slice a3 b.keys.length c3) (.slice a4 b.l.length c4) ∧ BoxIs wr (w.heap.size + 2) (.int .i64 0) (.int .i64 0) (.string ⟨#[]⟩) (.slice none 0 0) (.slice none 0 0) ∧ BoxIs wr gd (.int .i64 y.kind) (.int .i64 y.n) (.string ⟨y.s.toArray⟩) (.slice a5 y.keys.length c5) (.slice a6 y.l.length c6)) ∧ Below w.heap.size w wr ∧ In wr (okE ok w.heap.size (w.heap.size + 3) gd) y (.agg #[.int .i64 y.kind, .int .i64 y.n, .string ⟨y.s.toArray⟩, .slice a5 y.keys.length c5, .slice a6 y.l.length c6])

set_option maxRecDepth 100000 in
set_option maxHeartbeats 40000000 in
theorem other_succ (E : Nat) (ih : OtC E) : OtC (E + 1) := by
  intro w ok a b va vb h hb na nb hd
  have H := hidI h.low
  have HB := hidI hb.low
  have NA := hidI na
  have NB := hidI nb
  have HD := hidI hd
  have IH := hidI ih
  obtain ⟨l1, l2, l3⟩ := h.lens
  obtain ⟨l4, l5, l6⟩ := hb.lens
  obtain ⟨a1, a2, c1, c2, rfl⟩ := h.form
  obtain ⟨a3, a4, c3, c4, rfl⟩ := hb.form
  clear h hb ih na nb hd
  have B3 : Hid (∀ o1 o2 o3, Below w.heap.size w (((w.alloc o1).alloc o2).alloc o3)) := fun o1 o2 o3 => bel_trans (bel_trans (bel_alloc _ _) (bel_alloc _ _)) (bel_alloc _ _)
  by_cases hab : a.kind = 5 ∧ b.kind = 5
  · obtain ⟨hka, hkb⟩ := hab
    have e0 : (a.kind != 5) = false := by rw [hka]; rfl
    have e1 : (b.kind != 5) = false := by rw [hkb]; rfl
    have OA : Hid (Ob a) := hidI (nice_ob NA.out hka)
    have OB : Hid (Ob b) := hidI (nice_ob NB.out hkb)
    have HM : Hid (diffF (E + 1) a b = (b.keys.zip b.l).foldl (stepD (diffF E) a) (goneV a b)) := hidI (by rw [diffF, if_pos ⟨hka, hkb⟩])
    have HKL : Hid (b.keys.length = b.l.length) := hidI OB.out.2.2.2.1
    clear hka hkb
    go_enter Tryd.func12, Tryd.ntmps12
    go_wp2_with fail
    refine (gone_is _ (fun j => ok j ∧ j < w.heap.size) a b _ _ (by exact H.out.bel (B3.out _ _ _)) (by exact HB.out.bel (B3.out _ _ _)) NA.out OA.out).mono ?_
    rintro e w1 ⟨r, rfl, hb1, hr⟩
    obtain ⟨y, hy⟩ : ∃ y, goneV a b = y := ⟨_, rfl⟩
    rw [hy] at hr
    obtain ⟨a5, a6, c5, c6, rfl⟩ := hr.form
    obtain ⟨gd, hgd⟩ : ∃ gd, w1.heap.size = gd := ⟨_, rfl⟩
    have hbb := bel_trans (B3.out (.cells #[.int .i64 a.kind, .int .i64 a.n, .string ⟨a.s.toArray⟩, .slice a1 a.keys.length c1, .slice a2 a.l.length c2] 25) (.cells #[.int .i64 b.kind, .int .i64 b.n, .string ⟨b.s.toArray⟩, .slice a3 b.keys.length c3, .slice a4 b.l.length c4] 25) (.cells #[.int .i64 0, .int .i64 0, .string ⟨#[]⟩, .slice none 0 0, .slice none 0 0] 25)) (bel_trans hb1 (bel_alloc w1 (.cells #[.int .i64 y.kind, .int .i64 y.n, .string ⟨y.s.toArray⟩, .slice a5 y.keys.length c5, .slice a6 y.l.length c6] 25)))
    have hgl : w.heap.size + 3 ≤ gd := by
      have := hb1.size
      simp at this
      omega
    have I0 : Hid (OtI w ok E a b a1 a2 a3 a4 c1 c2 c3 c4 gd 0 (w1.alloc (.cells #[.int .i64 y.kind, .int .i64 y.n, .string ⟨y.s.toArray⟩, .slice a5 y.keys.length c5, .slice a6 y.l.length c6] 25))) := by
      have hbc := bel_trans hb1 (bel_alloc w1 (.cells #[.int .i64 y.kind, .int .i64 y.n, .string ⟨y.s.toArray⟩, .slice a5 y.keys.length c5, .slice a6 y.l.length c6] 25))
      refine hidI ⟨y, a5, a6, c5, c6, hy.symm, ⟨box_bel hbc (h3a w _ _ _), box_bel hbc (h3b w _ _ _), box_bel hbc (h3c w _ _ _), by rw [← hgd]; exact heap_alloc_new w1 _⟩, hbb, ((hr.low.bel (bel_alloc w1 _)).weak ?_)⟩
      rintro j ⟨hj, hj2⟩
      rcases hj with hj | hj
      · exact .inl hj
      · refine .inr ⟨?_, by omega⟩
        have : (((w.alloc (.cells #[.int .i64 a.kind, .int .i64 a.n, .string ⟨a.s.toArray⟩, .slice a1 a.keys.length c1, .slice a2 a.l.length c2] 25)).alloc (.cells #[.int .i64 b.kind, .int .i64 b.n, .string ⟨b.s.toArray⟩, .slice a3 b.keys.length c3, .slice a4 b.l.length c4] 25)).alloc (.cells #[.int .i64 0, .int .i64 0, .string ⟨#[]⟩, .slice none 0 0, .slice none 0 0] 25)).heap.size = w.heap.size + 3 := by simp
        omega
    have HGD := hidI hgd
    have p3 := (box_bel (bel_trans hb1 (bel_alloc w1 (.cells #[.int .i64 y.kind, .int .i64 y.n, .string ⟨y.s.toArray⟩, .slice a5 y.keys.length c5, .slice a6 y.l.length c6] 25))) (h3b w _ _ _)).c.2.2.2.1
    clear hy hr hb1 hbb
    go_wp2_with fail
    clear hgd
    go_loopg [25] b.keys.length (fun gk i wr => ∃ k : Nat, k ≤ b.keys.length ∧ gk = b.keys.length - k ∧ i = .int .i64 k ∧ OtI w ok E a b a1 a2 a3 a4 c1 c2 c3 c4 gd k wr)
    case atStart => exact ⟨0, Nat.zero_le _, rfl, rfl, by first | exact I0.out | (rw [HGD.out] at I0; exact I0.out)⟩
    case round =>
      obtain ⟨k, hk, hgk, rfl, y, a5, a6, c5, c6, i0, i1, i5, i6⟩ := hrel
      have GK := hidI hgk
      have I : Hid (y = ((b.keys.zip b.l).take k).foldl (stepD (diffF E) a) (goneV a b) ∧ (BoxIs wr w.heap.size (.int .i64 a.kind) (.int .i64 a.n) (.string ⟨a.s.toArray⟩) (.slice a1 a.keys.length c1) (.slice a2 a.l.length c2) ∧ BoxIs wr (w.heap.size + 1) (.int .i64 b.kind) (.int .i64 b.n) (.string ⟨b.s.toArray⟩) (.slice a3 b.keys.length c3) (.slice a4 b.l.length c4) ∧ BoxIs wr (w.heap.size + 2) (.int .i64 0) (.int .i64 0) (.string ⟨#[]⟩) (.slice none 0 0) (.slice none 0 0) ∧ BoxIs wr gd (.int .i64 y.kind) (.int .i64 y.n) (.string ⟨y.s.toArray⟩) (.slice a5 y.keys.length c5) (.slice a6 y.l.length c6)) ∧ Below w.heap.size w wr ∧ In wr (okE ok w.heap.size (w.heap.size + 3) gd) y (.agg #[.int .i64 y.kind, .int .i64 y.n, .string ⟨y.s.toArray⟩, .slice a5 y.keys.length c5, .slice a6 y.l.length c6])) := hidI ⟨i0, i1, i5, i6⟩
      have hwsz := i1.2.2.2.lt
      obtain ⟨p0, p1, p2, p3, p4, -⟩ := i1.1.c
      clear hgk i0 i1 i5 i6
      by_cases hlt : k < b.keys.length
      · have hlt' : k < b.l.length := by have := HKL.out; omega
        obtain ⟨kb, ko, rfl, j1, j2, jk, jl⟩ := HB.out.key hlt
        obtain ⟨xb, xo, b5, d5, b6, d6, rfl, j3, j4, g0, g1, g2, g3, g4, g5⟩ := HB.out.item hlt'
        replace jk := cell_bel I.out.2.2.1 jk
        have w1 : (0 : Int) ≤ (k : Int) := by omega
        have w2 : (k : Int) < (b.l.length : Int) := by omega
        have w3 : (k : Int) < (b.keys.length : Int) := by omega
        have DA : Hid (Ob y ∧ y.l.length ≤ 240) := hidI (by rw [I.out.1]; exact diff_at NA.out NB.out)
        have ST : Hid (∀ u, u = stepD (diffF E) a y (b.keys[k], b.l[k]) → u = ((b.keys.zip b.l).take (k + 1)).foldl (stepD (diffF E) a) (goneV a b)) := hidI (by rintro u rfl; rw [zip_step hlt hlt', ← I.out.1])
        go_wp2_with fail
        refine (member_was _ (okE ok w.heap.size (w.heap.size + 3) gd) a _ b.keys[k] (by exact (H.out.bel I.out.2.2.1).weak okE_low)).mono ?_
        rintro e w4 ⟨r, rfl, hb4, hr⟩
        obtain ⟨q, hq⟩ : ∃ q, (memV a b.keys[k]).getD zeroT = q := ⟨_, rfl⟩
        rw [hq] at hr
        have NQ : Hid (Nice q) := hidI (by
          rw [← hq]
          cases hm : memV a b.keys[k] with
          | none => exact nice_zero
          | some x => exact nice_mem NA.out (mem_in hm))
        have HQ := hidI hq
        obtain ⟨a7, a8, c7, c8, rfl⟩ := hr.form
        have hbb := bel_trans hb4 (bel_alloc w4 (.cells #[.int .i64 q.kind, .int .i64 q.n, .string ⟨q.s.toArray⟩, .slice a7 q.keys.length c7, .slice a8 q.l.length c8] 25))
        have hbw := bel_trans I.out.2.2.1 hbb
        have K : Hid ((BoxIs (w4.alloc (.cells #[.int .i64 q.kind, .int .i64 q.n, .string ⟨q.s.toArray⟩, .slice a7 q.keys.length c7, .slice a8 q.l.length c8] 25)) w.heap.size (.int .i64 a.kind) (.int .i64 a.n) (.string ⟨a.s.toArray⟩) (.slice a1 a.keys.length c1) (.slice a2 a.l.length c2) ∧ BoxIs (w4.alloc (.cells #[.int .i64 q.kind, .int .i64 q.n, .string ⟨q.s.toArray⟩, .slice a7 q.keys.length c7, .slice a8 q.l.length c8] 25)) (w.heap.size + 1) (.int .i64 b.kind) (.int .i64 b.n) (.string ⟨b.s.toArray⟩) (.slice (some ⟨kb, ko, none⟩) b.keys.length c3) (.slice (some ⟨xb, xo, none⟩) b.l.length c4) ∧ BoxIs (w4.alloc (.cells #[.int .i64 q.kind, .int .i64 q.n, .string ⟨q.s.toArray⟩, .slice a7 q.keys.length c7, .slice a8 q.l.length c8] 25)) (w.heap.size + 2) (.int .i64 0) (.int .i64 0) (.string ⟨#[]⟩) (.slice none 0 0) (.slice none 0 0) ∧ BoxIs (w4.alloc (.cells #[.int .i64 q.kind, .int .i64 q.n, .string ⟨q.s.toArray⟩, .slice a7 q.keys.length c7, .slice a8 q.l.length c8] 25)) gd (.int .i64 y.kind) (.int .i64 y.n) (.string ⟨y.s.toArray⟩) (.slice a5 y.keys.length c5) (.slice a6 y.l.length c6)) ∧ BoxIs (w4.alloc (.cells #[.int .i64 q.kind, .int .i64 q.n, .string ⟨q.s.toArray⟩, .slice a7 q.keys.length c7, .slice a8 q.l.length c8] 25)) w4.heap.size (.int .i64 q.kind) (.int .i64 q.n) (.string ⟨q.s.toArray⟩) (.slice a7 q.keys.length c7) (.slice a8 q.l.length c8) ∧ Below w.heap.size w (w4.alloc (.cells #[.int .i64 q.kind, .int .i64 q.n, .string ⟨q.s.toArray⟩, .slice a7 q.keys.length c7, .slice a8 q.l.length c8] 25)) ∧ In (w4.alloc (.cells #[.int .i64 q.kind, .int .i64 q.n, .string ⟨q.s.toArray⟩, .slice a7 q.keys.length c7, .slice a8 q.l.length c8] 25)) (okE ok w.heap.size (w.heap.size + 3) gd) y (.agg #[.int .i64 y.kind, .int .i64 y.n, .string ⟨y.s.toArray⟩, .slice a5 y.keys.length c5, .slice a6 y.l.length c6]) ∧ In (w4.alloc (.cells #[.int .i64 q.kind, .int .i64 q.n, .string ⟨q.s.toArray⟩, .slice a7 q.keys.length c7, .slice a8 q.l.length c8] 25)) (okE ok w.heap.size (w.heap.size + 3) gd) q (.agg #[.int .i64 q.kind, .int .i64 q.n, .string ⟨q.s.toArray⟩, .slice a7 q.keys.length c7, .slice a8 q.l.length c8]) ∧ In (w4.alloc (.cells #[.int .i64 q.kind, .int .i64 q.n, .string ⟨q.s.toArray⟩, .slice a7 q.keys.length c7, .slice a8 q.l.length c8] 25)) (okE ok w.heap.size (w.heap.size + 3) gd) b.l[k] (.agg #[.int .i64 b.l[k].kind, .int .i64 b.l[k].n, .string ⟨b.l[k].s.toArray⟩, .slice b5 b.l[k].keys.length d5, .slice b6 b.l[k].l.length d6]) ∧ gd < (w4.alloc (.cells #[.int .i64 q.kind, .int .i64 q.n, .string ⟨q.s.toArray⟩, .slice a7 q.keys.length c7, .slice a8 q.l.length c8] 25)).heap.size) := hidI ⟨⟨box_bel hbb I.out.2.1.1, box_bel hbb I.out.2.1.2.1, box_bel hbb I.out.2.1.2.2.1, box_bel hbb I.out.2.1.2.2.2⟩, heap_alloc_new w4 _, hbw, I.out.2.2.2.bel hbb, hr.bel (bel_alloc _ _), (g5.bel hbw).weak okE_low, Nat.lt_of_lt_of_le hwsz hbb.size⟩
        replace g0 := cell_bel hbw g0
        replace g1 := cell_bel hbw g1
        replace g2 := cell_bel hbw g2
        replace g3 := cell_bel hbw g3
        replace g4 := cell_bel hbw g4
        have conW : Hid (∀ (w5 : World) (z : V) (b7 b8 : Option Addr) (d7 d8 : Nat), Below (w4.alloc (.cells #[.int .i64 q.kind, .int .i64 q.n, .string ⟨q.s.toArray⟩, .slice a7 q.keys.length c7, .slice a8 q.l.length c8] 25)).heap.size (w4.alloc (.cells #[.int .i64 q.kind, .int .i64 q.n, .string ⟨q.s.toArray⟩, .slice a7 q.keys.length c7, .slice a8 q.l.length c8] 25)) w5 → In w5 (okE ok w.heap.size (w.heap.size + 3) gd) z (.agg #[.int .i64 z.kind, .int .i64 z.n, .string ⟨z.s.toArray⟩, .slice b7 z.keys.length d7, .slice b8 z.l.length d8]) → ∀ W, W.heap = w5.heap → W.os = w5.os → W.tape = w5.tape → W.output = w5.output → Calls Tryd.prog 19 #[.agg #[.int .i64 y.kind, .int .i64 y.n, .string ⟨y.s.toArray⟩, .slice a5 y.keys.length c5, .slice a6 y.l.length c6], .string ⟨b.keys[k].toArray⟩, .agg #[.int .i64 z.kind, .int .i64 z.n, .string ⟨z.s.toArray⟩, .slice b7 z.keys.length d7, .slice b8 z.l.length d8]] W fun e w6 => ∃ (u : V) (e5 e6 : Option Addr) (f5 f6 : Nat), e = .returned (.agg #[.int .i64 u.kind, .int .i64 u.n, .string ⟨u.s.toArray⟩, .slice e5 u.keys.length f5, .slice e6 u.l.length f6]) ∧ u = withV y b.keys[k] z ∧ Below w5.heap.size w5 w6 ∧ In w6 (okE ok w.heap.size (w.heap.size + 3) gd) u (.agg #[.int .i64 u.kind, .int .i64 u.n, .string ⟨u.s.toArray⟩, .slice e5 u.keys.length f5, .slice e6 u.l.length f6])) := by
          intro w5 z b7 b8 d7 d8 hb5 hz W e1 e2 e3 e4
          have hbW : Below w5.heap.size w5 W := be0 e1 e2 e3 e4
          refine (with_is W (okE ok w.heap.size (w.heap.size + 3) gd) y z _ _ b.keys[k] ((K.out.2.2.2.1.bel hb5).bel hbW) (hz.bel hbW) DA.out.1.paired (by have := DA.out.2; omega) jl).mono ?_
          rintro e w6 ⟨r, rfl, hr, hb⟩
          obtain ⟨e5, e6, f5, f6, rfl⟩ := hr.form
          have s1 := hb5.size
          have s2 := hbW.size
          have s3 := K.out.2.2.2.2.2.2
          exact ⟨_, e5, e6, f5, f6, rfl, rfl, bel_trans hbW hb, hr.weak (okE_up (by omega) (by omega))⟩
        have FIN : Hid (∀ (w6 : World) (u : V) (e5 e6 : Option Addr) (f5 f6 : Nat), Below (w4.alloc (.cells #[.int .i64 q.kind, .int .i64 q.n, .string ⟨q.s.toArray⟩, .slice a7 q.keys.length c7, .slice a8 q.l.length c8] 25)).heap.size (w4.alloc (.cells #[.int .i64 q.kind, .int .i64 q.n, .string ⟨q.s.toArray⟩, .slice a7 q.keys.length c7, .slice a8 q.l.length c8] 25)) w6 → u = stepD (diffF E) a y (b.keys[k], b.l[k]) → In w6 (okE ok w.heap.size (w.heap.size + 3) gd) u (.agg #[.int .i64 u.kind, .int .i64 u.n, .string ⟨u.s.toArray⟩, .slice e5 u.keys.length f5, .slice e6 u.l.length f6]) → OtI w ok E a b a1 a2 (some ⟨kb, ko, none⟩) (some ⟨xb, xo, none⟩) c1 c2 c3 c4 gd (k + 1) (set5 w6 gd (.int .i64 u.kind) (.int .i64 u.n) (.string ⟨u.s.toArray⟩) (.slice e5 u.keys.length f5) (.slice e6 u.l.length f6))) := by
          intro w6 u e5 e6 f5 f6 hb6 hu hr
          have gs := set5_gb w6 gd (.int .i64 u.kind) (.int .i64 u.n) (.string ⟨u.s.toArray⟩) (.slice e5 u.keys.length f5) (.slice e6 u.l.length f6)
          refine ⟨u, e5, e6, f5, f6, ST.out u hu, ⟨(box_bel hb6 K.out.1.1).grown gs (by simp; omega), (box_bel hb6 K.out.1.2.1).grown gs (by simp; omega), (box_bel hb6 K.out.1.2.2.1).grown gs (by simp; omega), (box_bel hb6 K.out.1.2.2.2).set _ _ _ _ _⟩, bel_set5 (bel_trans K.out.2.2.1 hb6) (by omega) _ _ _ _ _, hr.grown gs (okE_ne (by omega))⟩
        clear hq hr hb4 hbb hbw p0 p1 p2 p3 p4 jk g5
        obtain ⟨y0, y1, y2, y3, y4, -⟩ := K.out.1.2.2.2.c
        have p4 := K.out.1.2.1.c.2.2.2.2.1
        cases hm : memV a b.keys[k] with
        | none =>
          have HS : Hid (∀ z, z = b.l[k] → withV y b.keys[k] z = stepD (diffF E) a y (b.keys[k], b.l[k])) := hidI (by rintro z rfl; unfold stepD; simp only [hm])
          clear hm
          rw [show (none : Option V).isSome = false from rfl]
          go_wp2_with fail
          go_region_with ((go_at_call 19; refine (conW.out _ _ _ _ _ _ (Below.refl _ _) K.out.2.2.2.2.2.1 _ (by rfl) (by rfl) (by rfl) (by rfl)).mono ?_; rintro e w6 ⟨u, e5, e6, f5, f6, rfl, hu1, hu2, hu3⟩; have U := hidI (FIN.out _ _ _ _ _ _ hu2 (hu1.trans (HS.out _ rfl)) hu3); obtain ⟨t0, t1, t2, t3, t4, t5, t6, t7, t8, t9⟩ := (box_bel hu2 K.out.1.2.2.2).c; clear hu1 hu2 hu3))
          all_goals
            go_wp2_with fail
            go_roundg (b.keys.length - (k + 1))
            case measure => rw [GK.out]; omega
            case rel => exact ⟨k + 1, hlt, rfl, by go_num, U.out⟩
        | some q' =>
          have hqq : q = q' := by have := HQ.out; rw [hm] at this; exact this.symm
          subst hqq
          have HM2 := hidI hm
          clear hm
          rw [show (some q).isSome = true from rfl]
          have bk := K.out.1.2.1.c.2.2.2.2.1
          obtain ⟨q0, q1, q2, q3, q4, -⟩ := K.out.2.1.c
          by_cases hsm : q = b.l[k]
          · have FIN0 : Hid (∀ w5, Below (w4.alloc (.cells #[.int .i64 q.kind, .int .i64 q.n, .string ⟨q.s.toArray⟩, .slice a7 q.keys.length c7, .slice a8 q.l.length c8] 25)).heap.size (w4.alloc (.cells #[.int .i64 q.kind, .int .i64 q.n, .string ⟨q.s.toArray⟩, .slice a7 q.keys.length c7, .slice a8 q.l.length c8] 25)) w5 → OtI w ok E a b a1 a2 (some ⟨kb, ko, none⟩) (some ⟨xb, xo, none⟩) c1 c2 c3 c4 gd (k + 1) w5) := hidI (fun w5 hb5 => ⟨y, a5, a6, c5, c6, ST.out y (by unfold stepD; simp only [HM2.out, if_pos hsm]), ⟨box_bel hb5 K.out.1.1, box_bel hb5 K.out.1.2.1, box_bel hb5 K.out.1.2.2.1, box_bel hb5 K.out.1.2.2.2⟩, bel_trans K.out.2.2.1 hb5, K.out.2.2.2.1.bel hb5⟩)
            have conS : Hid (∀ W, W.heap = (w4.alloc (.cells #[.int .i64 q.kind, .int .i64 q.n, .string ⟨q.s.toArray⟩, .slice a7 q.keys.length c7, .slice a8 q.l.length c8] 25)).heap → W.os = w4.os → W.tape = w4.tape → W.output = w4.output → Calls Tryd.prog 20 #[.agg #[.int .i64 q.kind, .int .i64 q.n, .string ⟨q.s.toArray⟩, .slice a7 q.keys.length c7, .slice a8 q.l.length c8], .agg #[.int .i64 b.l[k].kind, .int .i64 b.l[k].n, .string ⟨b.l[k].s.toArray⟩, .slice b5 b.l[k].keys.length d5, .slice b6 b.l[k].l.length d6]] W fun e w5 => e = .returned (.bool true) ∧ Below (w4.alloc (.cells #[.int .i64 q.kind, .int .i64 q.n, .string ⟨q.s.toArray⟩, .slice a7 q.keys.length c7, .slice a8 q.l.length c8] 25)).heap.size (w4.alloc (.cells #[.int .i64 q.kind, .int .i64 q.n, .string ⟨q.s.toArray⟩, .slice a7 q.keys.length c7, .slice a8 q.l.length c8] 25)) w5) := by
              intro W e1 e2 e3 e4
              have hbW : Below (w4.alloc (.cells #[.int .i64 q.kind, .int .i64 q.n, .string ⟨q.s.toArray⟩, .slice a7 q.keys.length c7, .slice a8 q.l.length c8] 25)).heap.size (w4.alloc (.cells #[.int .i64 q.kind, .int .i64 q.n, .string ⟨q.s.toArray⟩, .slice a7 q.keys.length c7, .slice a8 q.l.length c8] 25)) W := be0 e1 e2 e3 e4
              refine (same_run W (okE ok w.heap.size (w.heap.size + 3) gd) (okE ok w.heap.size (w.heap.size + 3) gd) q b.l[k] _ _ (K.out.2.2.2.2.1.bel hbW) (K.out.2.2.2.2.2.1.bel hbW) (by have := nice_cnt NQ.out; omega)).mono ?_
              rintro e w5 ⟨r, rfl, hr, hb⟩
              exact ⟨by rw [hr.2 hsm], bel_trans hbW hb⟩
            have HSM := hidI hsm
            clear hsm
            go_wp2_with fail
            go_region_with ((go_at_call 20; refine (conS.out _ (by rfl) (by rfl) (by rfl) (by rfl)).mono ?_; rintro e w5 ⟨rfl, hb5⟩; have U := hidI (FIN0.out _ hb5); clear hb5))
            all_goals
              go_wp2_with fail
              go_roundg (b.keys.length - (k + 1))
              case measure => rw [GK.out]; omega
              case rel => exact ⟨k + 1, hlt, rfl, by go_num, U.out⟩
          · have HS : Hid (withV y b.keys[k] (diffF E q b.l[k]) = stepD (diffF E) a y (b.keys[k], b.l[k])) := hidI (by unfold stepD; simp only [HM2.out, if_neg hsm])
            have conS : Hid (∀ W, W.heap = (w4.alloc (.cells #[.int .i64 q.kind, .int .i64 q.n, .string ⟨q.s.toArray⟩, .slice a7 q.keys.length c7, .slice a8 q.l.length c8] 25)).heap → W.os = w4.os → W.tape = w4.tape → W.output = w4.output → Calls Tryd.prog 20 #[.agg #[.int .i64 q.kind, .int .i64 q.n, .string ⟨q.s.toArray⟩, .slice a7 q.keys.length c7, .slice a8 q.l.length c8], .agg #[.int .i64 b.l[k].kind, .int .i64 b.l[k].n, .string ⟨b.l[k].s.toArray⟩, .slice b5 b.l[k].keys.length d5, .slice b6 b.l[k].l.length d6]] W fun e w5 => e = .returned (.bool false) ∧ Below (w4.alloc (.cells #[.int .i64 q.kind, .int .i64 q.n, .string ⟨q.s.toArray⟩, .slice a7 q.keys.length c7, .slice a8 q.l.length c8] 25)).heap.size (w4.alloc (.cells #[.int .i64 q.kind, .int .i64 q.n, .string ⟨q.s.toArray⟩, .slice a7 q.keys.length c7, .slice a8 q.l.length c8] 25)) w5) := by
              intro W e1 e2 e3 e4
              have hbW : Below (w4.alloc (.cells #[.int .i64 q.kind, .int .i64 q.n, .string ⟨q.s.toArray⟩, .slice a7 q.keys.length c7, .slice a8 q.l.length c8] 25)).heap.size (w4.alloc (.cells #[.int .i64 q.kind, .int .i64 q.n, .string ⟨q.s.toArray⟩, .slice a7 q.keys.length c7, .slice a8 q.l.length c8] 25)) W := be0 e1 e2 e3 e4
              refine (same_run W (okE ok w.heap.size (w.heap.size + 3) gd) (okE ok w.heap.size (w.heap.size + 3) gd) q b.l[k] _ _ (K.out.2.2.2.2.1.bel hbW) (K.out.2.2.2.2.2.1.bel hbW) (by have := nice_cnt NQ.out; omega)).mono ?_
              rintro e w5 ⟨r, rfl, hr, hb⟩
              cases r with
              | false => exact ⟨rfl, bel_trans hbW hb⟩
              | true => exact absurd (hr.1 rfl) hsm
            have conO : Hid (∀ (w5 : World), Below (w4.alloc (.cells #[.int .i64 q.kind, .int .i64 q.n, .string ⟨q.s.toArray⟩, .slice a7 q.keys.length c7, .slice a8 q.l.length c8] 25)).heap.size (w4.alloc (.cells #[.int .i64 q.kind, .int .i64 q.n, .string ⟨q.s.toArray⟩, .slice a7 q.keys.length c7, .slice a8 q.l.length c8] 25)) w5 → ∀ W, W.heap = w5.heap → W.os = w5.os → W.tape = w5.tape → W.output = w5.output → Calls Tryd.prog 12 #[.agg #[.int .i64 q.kind, .int .i64 q.n, .string ⟨q.s.toArray⟩, .slice a7 q.keys.length c7, .slice a8 q.l.length c8], .agg #[.int .i64 b.l[k].kind, .int .i64 b.l[k].n, .string ⟨b.l[k].s.toArray⟩, .slice b5 b.l[k].keys.length d5, .slice b6 b.l[k].l.length d6]] W fun e w6 => ∃ (z : V) (b7 b8 : Option Addr) (d7 d8 : Nat), e = .returned (.agg #[.int .i64 z.kind, .int .i64 z.n, .string ⟨z.s.toArray⟩, .slice b7 z.keys.length d7, .slice b8 z.l.length d8]) ∧ z = diffF E q b.l[k] ∧ Below (w4.alloc (.cells #[.int .i64 q.kind, .int .i64 q.n, .string ⟨q.s.toArray⟩, .slice a7 q.keys.length c7, .slice a8 q.l.length c8] 25)).heap.size (w4.alloc (.cells #[.int .i64 q.kind, .int .i64 q.n, .string ⟨q.s.toArray⟩, .slice a7 q.keys.length c7, .slice a8 q.l.length c8] 25)) w6 ∧ In w6 (okE ok w.heap.size (w.heap.size + 3) gd) z (.agg #[.int .i64 z.kind, .int .i64 z.n, .string ⟨z.s.toArray⟩, .slice b7 z.keys.length d7, .slice b8 z.l.length d8])) := by
              intro w5 hb5 W e1 e2 e3 e4
              have hbW : Below (w4.alloc (.cells #[.int .i64 q.kind, .int .i64 q.n, .string ⟨q.s.toArray⟩, .slice a7 q.keys.length c7, .slice a8 q.l.length c8] 25)).heap.size (w4.alloc (.cells #[.int .i64 q.kind, .int .i64 q.n, .string ⟨q.s.toArray⟩, .slice a7 q.keys.length c7, .slice a8 q.l.length c8] 25)) W := bel_trans hb5 (be0 e1 e2 e3 e4)
              refine (IH.out W (okE ok w.heap.size (w.heap.size + 3) gd) q b.l[k] _ _ (K.out.2.2.2.2.1.bel hbW) (K.out.2.2.2.2.2.1.bel hbW) NQ.out (nice_mem NB.out (List.getElem_mem hlt')) (HD.out _ (List.getElem_mem hlt'))).mono ?_
              rintro e w6 ⟨r, rfl, hb, hr⟩
              obtain ⟨b7, b8, d7, d8, rfl⟩ := hr.form
              have s2 := hbW.size
              have s3 := K.out.2.2.2.2.2.2
              exact ⟨_, b7, b8, d7, d8, rfl, rfl, bel_trans hbW hb, hr.weak (okE_up (by omega) (by omega))⟩
            clear hsm
            go_wp2_with fail
            go_region_with ((go_at_call 20; refine (conS.out _ (by rfl) (by rfl) (by rfl) (by rfl)).mono ?_; rintro e w5 ⟨rfl, hb5⟩; have B5 := hidI hb5; clear hb5))
            all_goals
              obtain ⟨s0, s1, s2, s3, s4, -⟩ := (box_bel B5.out K.out.1.2.2.2).c
              have s5 := (box_bel B5.out K.out.1.2.1).c.2.2.2.2.1
              obtain ⟨r0, r1, r2, r3, r4, -⟩ := (box_bel B5.out K.out.2.1).c
              have h0 := cell_bel B5.out g0
              have h1 := cell_bel B5.out g1
              have h2 := cell_bel B5.out g2
              have h3 := cell_bel B5.out g3
              have h4 := cell_bel B5.out g4
              clear y0 y1 y2 y3 y4 q0 q1 q2 q3 q4 p4 bk g0 g1 g2 g3 g4
              go_wp2_with fail
              go_region_with (first
                | (go_at_call 12; refine (conO.out _ B5.out _ (by rfl) (by rfl) (by rfl) (by rfl)).mono ?_; rintro e w6 ⟨z, b7, b8, d7, d8, rfl, hz1, hz2, hz3⟩; have Z1 := hidI hz1; have Z2 := hidI hz2; have Z3 := hidI hz3; obtain ⟨m0, m1, m2, m3, m4, -⟩ := (box_bel hz2 K.out.1.2.2.2).c; clear hz1 hz2 hz3)
                | (go_at_call 19; refine (conW.out _ _ _ _ _ _ Z2.out Z3.out _ (by rfl) (by rfl) (by rfl) (by rfl)).mono ?_; rintro e w7 ⟨u, e5, e6, f5, f6, rfl, hu1, hu2, hu3⟩; have U := hidI (FIN.out _ _ _ _ _ _ (bel_trans Z2.out hu2) (by rw [hu1, Z1.out]; exact HS.out) hu3); obtain ⟨t0, t1, t2, t3, t4, t5, t6, t7, t8, t9⟩ := (box_bel (bel_trans Z2.out hu2) K.out.1.2.2.2).c; clear hu1 hu2 hu3))
              all_goals
                go_wp2_with fail
                go_roundg (b.keys.length - (k + 1))
                case measure => rw [GK.out]; omega
                case rel => exact ⟨k + 1, hlt, rfl, by go_num, U.out⟩
      · have HY : Hid (diffF (E + 1) a b = y) := hidI (by rw [HM.out, I.out.1, List.take_of_length_le (by rw [List.length_zip]; have := HKL.out; omega)])
        have d1 : ¬ (k : Int) < (b.keys.length : Int) := by omega
        obtain ⟨y0, y1, y2, y3, y4, -⟩ := I.out.2.1.2.2.2.c
        obtain ⟨z0, z1, z2, z3, z4, z5, z6, z7, z8, z9⟩ := I.out.2.1.2.2.1.c
        have gs := set5_gb wr (w.heap.size + 2) (.int .i64 y.kind) (.int .i64 y.n) (.string ⟨y.s.toArray⟩) (.slice a5 y.keys.length c5) (.slice a6 y.l.length c6)
        have Z : Hid (Below w.heap.size w (set5 wr (w.heap.size + 2) (.int .i64 y.kind) (.int .i64 y.n) (.string ⟨y.s.toArray⟩) (.slice a5 y.keys.length c5) (.slice a6 y.l.length c6)) ∧ In (set5 wr (w.heap.size + 2) (.int .i64 y.kind) (.int .i64 y.n) (.string ⟨y.s.toArray⟩) (.slice a5 y.keys.length c5) (.slice a6 y.l.length c6)) (okN ok w.heap.size) y (.agg #[.int .i64 y.kind, .int .i64 y.n, .string ⟨y.s.toArray⟩, .slice a5 y.keys.length c5, .slice a6 y.l.length c6])) := hidI ⟨bel_set5 I.out.2.2.1 (by omega) _ _ _ _ _, (I.out.2.2.2.grown gs (okE_ne2 (by omega) (by omega))).weak (okE_out (by omega))⟩
        have ZB : Hid _ := hidI (I.out.2.1.2.2.1.set (.int .i64 y.kind) (.int .i64 y.n) (.string ⟨y.s.toArray⟩) (.slice a5 y.keys.length c5) (.slice a6 y.l.length c6))
        clear gs
        go_wp2_with fail
        obtain ⟨q0, q1, q2, q3, q4, -⟩ := ZB.out.c
        refine bodyPost_ret (v := .agg #[.int .i64 y.kind, .int .i64 y.n, .string ⟨y.s.toArray⟩, .slice a5 y.keys.length c5, .slice a6 y.l.length c6]) ?_ rfl ?_
        · simp only [set5] at q0 q1 q2 q3 q4
          simp [results, Tryd.results12, go_sem, q0, q1, q2, q3, q4]
        · exact ⟨_, rfl, Z.out.1, by rw [HY.out]; exact Z.out.2⟩
  · have HM : Hid (diffF (E + 1) a b = b) := hidI (by rw [diffF, if_neg hab])
    have K := hidI ((HB.out.bel (B3.out (.cells #[.int .i64 a.kind, .int .i64 a.n, .string ⟨a.s.toArray⟩, .slice a1 a.keys.length c1, .slice a2 a.l.length c2] 25) (.cells #[.int .i64 b.kind, .int .i64 b.n, .string ⟨b.s.toArray⟩, .slice a3 b.keys.length c3, .slice a4 b.l.length c4] 25) (.cells #[.int .i64 b.kind, .int .i64 b.n, .string ⟨b.s.toArray⟩, .slice a3 b.keys.length c3, .slice a4 b.l.length c4] 25))).weak low_out)
    by_cases hka : a.kind = 5
    · have e0 : (a.kind != 5) = false := by rw [hka]; rfl
      have e1 : (b.kind != 5) = true := by rw [bne_iff_ne]; exact fun e => hab ⟨hka, e⟩
      clear hab hka
      go_enter Tryd.func12, Tryd.ntmps12
      go_wp2_with fail
      refine bodyPost_ret (v := .agg #[.int .i64 b.kind, .int .i64 b.n, .string ⟨b.s.toArray⟩, .slice a3 b.keys.length c3, .slice a4 b.l.length c4]) ?_ rfl ?_
      · simp [results, Tryd.results12, go_sem]
      · exact ⟨_, rfl, B3.out _ _ _, by rw [HM.out]; exact K.out⟩
    · have e0 : (a.kind != 5) = true := by rw [bne_iff_ne]; exact hka
      clear hab hka
      go_enter Tryd.func12, Tryd.ntmps12
      go_wp2_with fail
      refine bodyPost_ret (v := .agg #[.int .i64 b.kind, .int .i64 b.n, .string ⟨b.s.toArray⟩, .slice a3 b.keys.length c3, .slice a4 b.l.length c4]) ?_ rfl ?_
      · simp [results, Tryd.results12, go_sem]
      · exact ⟨_, rfl, B3.out _ _ _, by rw [HM.out]; exact K.out⟩
theorem other_is (E : Nat) : OtC E := by
  induction E with
  | zero => intro w ok a b va vb _ _ _ _ h; exact h.elim
  | succ E ih => exact other_succ E ih
end Go.Proofs.YthaoelchpaofkadDoor

set_option linter.unusedSimpArgs false
set_option linter.unusedVariables false
namespace Go.Proofs.YthaoelchpaofkadDoor
open Go.RowKit

def mergeR (v p : V) : V × Int := if (!goodV v || !goodV p) = true then (v, 1) else if goodV (mergeF 12 v p) = true then (mergeF 12 v p, 0) else (v, 2)
noncomputable def diffR (v p : V) : V × Int := if (!goodV v || !goodV p || !cleanF 12 p) = true then (zeroT, 1) else if goodV (diffF 12 v p) = true then (diffF 12 v p, 0) else (zeroT, 2)

set_option maxRecDepth 100000 in
set_option maxHeartbeats 40000000 in
theorem merge_is (w : World) (ok : Nat → Prop) (v p : V) (vv pv : Value) (h : In w ok v vv) (hp : In w ok p pv) :
    Calls Tryd.prog 9 #[vv, pv] w fun e w' => ∃ r, e = .returned (.tuple #[r, .int .i64 (mergeR v p).2]) ∧ Below w.heap.size w w' ∧ In w' (okN ok w.heap.size) (mergeR v p).1 r := by
  have H := hidI h.low
  have HP := hidI hp.low
  obtain ⟨l1, l2, l3⟩ := h.lens
  obtain ⟨l4, l5, l6⟩ := hp.lens
  obtain ⟨a1, a2, c1, c2, rfl⟩ := h.form
  obtain ⟨a3, a4, c3, c4, rfl⟩ := hp.form
  clear h hp
  have B3 : Hid (∀ o1 o2 o3, Below w.heap.size w (((w.alloc o1).alloc o2).alloc o3)) := fun o1 o2 o3 => bel_trans (bel_trans (bel_alloc _ _) (bel_alloc _ _)) (bel_alloc _ _)
  cases gv : goodV v with
  | false =>
    have GV := hidI gv
    clear gv
    go_enter Tryd.func9, Tryd.ntmps9
    go_wp2_with fail
    refine (good_is _ _ v _ (by exact H.out.bel (B3.out _ _ _))).mono ?_
    rintro e w1 ⟨rfl, hb1⟩
    rw [GV.out]
    have K1 : Hid (BoxIs w1 w.heap.size (.int .i64 v.kind) (.int .i64 v.n) (.string ⟨v.s.toArray⟩) (.slice a1 v.keys.length c1) (.slice a2 v.l.length c2) ∧ BoxIs w1 (w.heap.size + 1) (.int .i64 p.kind) (.int .i64 p.n) (.string ⟨p.s.toArray⟩) (.slice a3 p.keys.length c3) (.slice a4 p.l.length c4) ∧ BoxIs w1 (w.heap.size + 2) (.int .i64 0) (.int .i64 0) (.string ⟨#[]⟩) (.slice none 0 0) (.slice none 0 0) ∧ Below w.heap.size w w1) := hidI ⟨box_bel hb1 (h3a w _ _ _), box_bel hb1 (h3b w _ _ _), box_bel hb1 (h3c w _ _ _), bel_trans (B3.out _ _ _) hb1⟩
    clear hb1
    obtain ⟨y0, y1, y2, y3, y4, -⟩ := K1.out.1.c
    obtain ⟨z0, z1, z2, z3, z4, z5, z6, z7, z8, z9⟩ := K1.out.2.2.1.c
    have Z : Hid (_ ∧ _) := hidI (sto_out (ok := ok) (g := w.heap.size + 2) (C := w.heap.size + 3) ((H.out.bel K1.out.2.2.2).weak lowN_low) K1.out.2.2.2 (by omega) (by omega))
    have ZB : Hid _ := hidI (K1.out.2.2.1.set (.int .i64 v.kind) (.int .i64 v.n) (.string ⟨v.s.toArray⟩) (.slice a1 v.keys.length c1) (.slice a2 v.l.length c2))
    have HA : Hid (mergeR v p = (v, 1)) := hidI (by unfold mergeR; rw [if_pos (by simp [GV.out])])
    go_wp2_with fail
    obtain ⟨q0, q1, q2, q3, q4, -⟩ := ZB.out.c
    refine bodyPost_ret (v := .tuple #[.agg #[.int .i64 v.kind, .int .i64 v.n, .string ⟨v.s.toArray⟩, .slice a1 v.keys.length c1, .slice a2 v.l.length c2], .int .i64 1]) ?_ rfl ?_
    · simp only [set5] at q0 q1 q2 q3 q4
      simp [results, Tryd.results9, go_sem, q0, q1, q2, q3, q4]
    · exact ⟨_, by rw [HA.out], Z.out.1, by rw [HA.out]; exact Z.out.2⟩
  | true =>
    have GV := hidI gv
    have NV : Hid (Nice v) := hidI (nice_of gv)
    clear gv
    cases gp : goodV p with
    | false =>
      have GP := hidI gp
      clear gp
      go_enter Tryd.func9, Tryd.ntmps9
      go_wp2_with fail
      refine (good_is _ _ v _ (by exact H.out.bel (B3.out _ _ _))).mono ?_
      rintro e w1 ⟨rfl, hb1⟩
      rw [GV.out]
      have K1 : Hid (BoxIs w1 w.heap.size (.int .i64 v.kind) (.int .i64 v.n) (.string ⟨v.s.toArray⟩) (.slice a1 v.keys.length c1) (.slice a2 v.l.length c2) ∧ BoxIs w1 (w.heap.size + 1) (.int .i64 p.kind) (.int .i64 p.n) (.string ⟨p.s.toArray⟩) (.slice a3 p.keys.length c3) (.slice a4 p.l.length c4) ∧ BoxIs w1 (w.heap.size + 2) (.int .i64 0) (.int .i64 0) (.string ⟨#[]⟩) (.slice none 0 0) (.slice none 0 0) ∧ Below w.heap.size w w1) := hidI ⟨box_bel hb1 (h3a w _ _ _), box_bel hb1 (h3b w _ _ _), box_bel hb1 (h3c w _ _ _), bel_trans (B3.out _ _ _) hb1⟩
      clear hb1
      obtain ⟨p0, p1, p2, p3, p4, -⟩ := K1.out.2.1.c
      go_wp2_with fail
      refine (good_is _ _ p _ (by exact HP.out.bel K1.out.2.2.2)).mono ?_
      rintro e w2 ⟨rfl, hb2⟩
      rw [GP.out]
      have K2 : Hid (BoxIs w2 w.heap.size (.int .i64 v.kind) (.int .i64 v.n) (.string ⟨v.s.toArray⟩) (.slice a1 v.keys.length c1) (.slice a2 v.l.length c2) ∧ BoxIs w2 (w.heap.size + 1) (.int .i64 p.kind) (.int .i64 p.n) (.string ⟨p.s.toArray⟩) (.slice a3 p.keys.length c3) (.slice a4 p.l.length c4) ∧ BoxIs w2 (w.heap.size + 2) (.int .i64 0) (.int .i64 0) (.string ⟨#[]⟩) (.slice none 0 0) (.slice none 0 0) ∧ Below w.heap.size w w2) := hidI ⟨box_bel hb2 K1.out.1, box_bel hb2 K1.out.2.1, box_bel hb2 K1.out.2.2.1, bel_trans K1.out.2.2.2 hb2⟩
      clear hb2 p0 p1 p2 p3 p4
      obtain ⟨y0, y1, y2, y3, y4, -⟩ := K2.out.1.c
      obtain ⟨z0, z1, z2, z3, z4, z5, z6, z7, z8, z9⟩ := K2.out.2.2.1.c
      have Z : Hid (_ ∧ _) := hidI (sto_out (ok := ok) (g := w.heap.size + 2) (C := w.heap.size + 3) ((H.out.bel K2.out.2.2.2).weak lowN_low) K2.out.2.2.2 (by omega) (by omega))
      have ZB : Hid _ := hidI (K2.out.2.2.1.set (.int .i64 v.kind) (.int .i64 v.n) (.string ⟨v.s.toArray⟩) (.slice a1 v.keys.length c1) (.slice a2 v.l.length c2))
      have HA : Hid (mergeR v p = (v, 1)) := hidI (by unfold mergeR; rw [if_pos (by simp [GV.out, GP.out])])
      go_wp2_with fail
      obtain ⟨q0, q1, q2, q3, q4, -⟩ := ZB.out.c
      refine bodyPost_ret (v := .tuple #[.agg #[.int .i64 v.kind, .int .i64 v.n, .string ⟨v.s.toArray⟩, .slice a1 v.keys.length c1, .slice a2 v.l.length c2], .int .i64 1]) ?_ rfl ?_
      · simp only [set5] at q0 q1 q2 q3 q4
        simp [results, Tryd.results9, go_sem, q0, q1, q2, q3, q4]
      · exact ⟨_, by rw [HA.out], Z.out.1, by rw [HA.out]; exact Z.out.2⟩
    | true =>
      have GP := hidI gp
      have NP : Hid (Nice p) := hidI (nice_of gp)
      have DP : Hid (Dep 12 p) := hidI (GoodT.dep 12 (goodV_tree gp))
      clear gp
      go_enter Tryd.func9, Tryd.ntmps9
      go_wp2_with fail
      refine (good_is _ _ v _ (by exact H.out.bel (B3.out _ _ _))).mono ?_
      rintro e w1 ⟨rfl, hb1⟩
      rw [GV.out]
      have K1 : Hid (BoxIs w1 w.heap.size (.int .i64 v.kind) (.int .i64 v.n) (.string ⟨v.s.toArray⟩) (.slice a1 v.keys.length c1) (.slice a2 v.l.length c2) ∧ BoxIs w1 (w.heap.size + 1) (.int .i64 p.kind) (.int .i64 p.n) (.string ⟨p.s.toArray⟩) (.slice a3 p.keys.length c3) (.slice a4 p.l.length c4) ∧ BoxIs w1 (w.heap.size + 2) (.int .i64 0) (.int .i64 0) (.string ⟨#[]⟩) (.slice none 0 0) (.slice none 0 0) ∧ Below w.heap.size w w1) := hidI ⟨box_bel hb1 (h3a w _ _ _), box_bel hb1 (h3b w _ _ _), box_bel hb1 (h3c w _ _ _), bel_trans (B3.out _ _ _) hb1⟩
      clear hb1
      obtain ⟨p0, p1, p2, p3, p4, -⟩ := K1.out.2.1.c
      go_wp2_with fail
      refine (good_is _ _ p _ (by exact HP.out.bel K1.out.2.2.2)).mono ?_
      rintro e w2 ⟨rfl, hb2⟩
      rw [GP.out]
      have K2 : Hid (BoxIs w2 w.heap.size (.int .i64 v.kind) (.int .i64 v.n) (.string ⟨v.s.toArray⟩) (.slice a1 v.keys.length c1) (.slice a2 v.l.length c2) ∧ BoxIs w2 (w.heap.size + 1) (.int .i64 p.kind) (.int .i64 p.n) (.string ⟨p.s.toArray⟩) (.slice a3 p.keys.length c3) (.slice a4 p.l.length c4) ∧ BoxIs w2 (w.heap.size + 2) (.int .i64 0) (.int .i64 0) (.string ⟨#[]⟩) (.slice none 0 0) (.slice none 0 0) ∧ Below w.heap.size w w2) := hidI ⟨box_bel hb2 K1.out.1, box_bel hb2 K1.out.2.1, box_bel hb2 K1.out.2.2.1, bel_trans K1.out.2.2.2 hb2⟩
      clear hb2 p0 p1 p2 p3 p4
      obtain ⟨p0, p1, p2, p3, p4, -⟩ := K2.out.2.1.c
      obtain ⟨y0, y1, y2, y3, y4, -⟩ := K2.out.1.c
      go_wp2_with fail
      refine (merged_is 12 _ (lowN ok w.heap.size (w.heap.size + 3)) v p _ _ (by exact (H.out.bel K2.out.2.2.2).weak lowN_low) (by exact (HP.out.bel K2.out.2.2.2).weak lowN_low) NV.out NP.out DP.out).mono ?_
      rintro e w4 ⟨r, rfl, hb4, hr⟩
      obtain ⟨m, hm⟩ : ∃ m, mergeF 12 v p = m := ⟨_, rfl⟩
      rw [hm] at hr
      obtain ⟨a5, a6, c5, c6, rfl⟩ := hr.form
      have hbb := bel_trans hb4 (bel_alloc w4 (.cells #[.int .i64 m.kind, .int .i64 m.n, .string ⟨m.s.toArray⟩, .slice a5 m.keys.length c5, .slice a6 m.l.length c6] 25))
      have K4 : Hid (BoxIs (w4.alloc (.cells #[.int .i64 m.kind, .int .i64 m.n, .string ⟨m.s.toArray⟩, .slice a5 m.keys.length c5, .slice a6 m.l.length c6] 25)) w.heap.size (.int .i64 v.kind) (.int .i64 v.n) (.string ⟨v.s.toArray⟩) (.slice a1 v.keys.length c1) (.slice a2 v.l.length c2) ∧ BoxIs (w4.alloc (.cells #[.int .i64 m.kind, .int .i64 m.n, .string ⟨m.s.toArray⟩, .slice a5 m.keys.length c5, .slice a6 m.l.length c6] 25)) (w.heap.size + 1) (.int .i64 p.kind) (.int .i64 p.n) (.string ⟨p.s.toArray⟩) (.slice a3 p.keys.length c3) (.slice a4 p.l.length c4) ∧ BoxIs (w4.alloc (.cells #[.int .i64 m.kind, .int .i64 m.n, .string ⟨m.s.toArray⟩, .slice a5 m.keys.length c5, .slice a6 m.l.length c6] 25)) (w.heap.size + 2) (.int .i64 0) (.int .i64 0) (.string ⟨#[]⟩) (.slice none 0 0) (.slice none 0 0) ∧ Below w.heap.size w (w4.alloc (.cells #[.int .i64 m.kind, .int .i64 m.n, .string ⟨m.s.toArray⟩, .slice a5 m.keys.length c5, .slice a6 m.l.length c6] 25))) := hidI ⟨box_bel hbb K2.out.1, box_bel hbb K2.out.2.1, box_bel hbb K2.out.2.2.1, bel_trans K2.out.2.2.2 hbb⟩
      have M4 : Hid (In (w4.alloc (.cells #[.int .i64 m.kind, .int .i64 m.n, .string ⟨m.s.toArray⟩, .slice a5 m.keys.length c5, .slice a6 m.l.length c6] 25)) (lowN ok w.heap.size (w.heap.size + 3)) m (.agg #[.int .i64 m.kind, .int .i64 m.n, .string ⟨m.s.toArray⟩, .slice a5 m.keys.length c5, .slice a6 m.l.length c6]) ∧ BoxIs (w4.alloc (.cells #[.int .i64 m.kind, .int .i64 m.n, .string ⟨m.s.toArray⟩, .slice a5 m.keys.length c5, .slice a6 m.l.length c6] 25)) w4.heap.size (.int .i64 m.kind) (.int .i64 m.n) (.string ⟨m.s.toArray⟩) (.slice a5 m.keys.length c5) (.slice a6 m.l.length c6)) := hidI ⟨(hr.weak (lowN_up K2.out.2.2.1.lt)).bel (bel_alloc _ _), heap_alloc_new w4 _⟩
      have HM := hidI hm
      clear hm hr hb4 hbb p0 p1 p2 p3 p4 y0 y1 y2 y3 y4
      go_wp2_with fail
      refine (good_is _ _ m _ (by exact M4.out.1)).mono ?_
      rintro e w5 ⟨rfl, hb5⟩
      have K5 : Hid (BoxIs w5 w.heap.size (.int .i64 v.kind) (.int .i64 v.n) (.string ⟨v.s.toArray⟩) (.slice a1 v.keys.length c1) (.slice a2 v.l.length c2) ∧ BoxIs w5 (w.heap.size + 1) (.int .i64 p.kind) (.int .i64 p.n) (.string ⟨p.s.toArray⟩) (.slice a3 p.keys.length c3) (.slice a4 p.l.length c4) ∧ BoxIs w5 (w.heap.size + 2) (.int .i64 0) (.int .i64 0) (.string ⟨#[]⟩) (.slice none 0 0) (.slice none 0 0) ∧ Below w.heap.size w w5) := hidI ⟨box_bel hb5 K4.out.1, box_bel hb5 K4.out.2.1, box_bel hb5 K4.out.2.2.1, bel_trans K4.out.2.2.2 hb5⟩
      have M5 : Hid (In w5 (lowN ok w.heap.size (w.heap.size + 3)) m (.agg #[.int .i64 m.kind, .int .i64 m.n, .string ⟨m.s.toArray⟩, .slice a5 m.keys.length c5, .slice a6 m.l.length c6]) ∧ BoxIs w5 w4.heap.size (.int .i64 m.kind) (.int .i64 m.n) (.string ⟨m.s.toArray⟩) (.slice a5 m.keys.length c5) (.slice a6 m.l.length c6)) := hidI ⟨M4.out.1.bel hb5, box_bel hb5 M4.out.2⟩
      clear hb5
      cases gm : goodV m with
      | false =>
        have GM := hidI gm
        clear gm
        obtain ⟨y0, y1, y2, y3, y4, -⟩ := K5.out.1.c
        obtain ⟨z0, z1, z2, z3, z4, z5, z6, z7, z8, z9⟩ := K5.out.2.2.1.c
        have Z : Hid (_ ∧ _) := hidI (sto_out (ok := ok) (g := w.heap.size + 2) (C := w.heap.size + 3) ((H.out.bel K5.out.2.2.2).weak lowN_low) K5.out.2.2.2 (by omega) (by omega))
        have ZB : Hid _ := hidI (K5.out.2.2.1.set (.int .i64 v.kind) (.int .i64 v.n) (.string ⟨v.s.toArray⟩) (.slice a1 v.keys.length c1) (.slice a2 v.l.length c2))
        have HA : Hid (mergeR v p = (v, 2)) := hidI (by unfold mergeR; rw [if_neg (by simp [GV.out, GP.out]), HM.out, if_neg (by simp [GM.out])])
        go_wp2_with fail
        obtain ⟨q0, q1, q2, q3, q4, -⟩ := ZB.out.c
        refine bodyPost_ret (v := .tuple #[.agg #[.int .i64 v.kind, .int .i64 v.n, .string ⟨v.s.toArray⟩, .slice a1 v.keys.length c1, .slice a2 v.l.length c2], .int .i64 2]) ?_ rfl ?_
        · simp only [set5] at q0 q1 q2 q3 q4
          simp [results, Tryd.results9, go_sem, q0, q1, q2, q3, q4]
        · exact ⟨_, by rw [HA.out], Z.out.1, by rw [HA.out]; exact Z.out.2⟩
      | true =>
        have GM := hidI gm
        clear gm
        obtain ⟨y0, y1, y2, y3, y4, -⟩ := M5.out.2.c
        obtain ⟨z0, z1, z2, z3, z4, z5, z6, z7, z8, z9⟩ := K5.out.2.2.1.c
        have Z : Hid (_ ∧ _) := hidI (sto_out (ok := ok) (g := w.heap.size + 2) (C := w.heap.size + 3) M5.out.1 K5.out.2.2.2 (by omega) (by omega))
        have ZB : Hid _ := hidI (K5.out.2.2.1.set (.int .i64 m.kind) (.int .i64 m.n) (.string ⟨m.s.toArray⟩) (.slice a5 m.keys.length c5) (.slice a6 m.l.length c6))
        have HA : Hid (mergeR v p = (m, 0)) := hidI (by unfold mergeR; rw [if_neg (by simp [GV.out, GP.out]), HM.out, if_pos GM.out])
        go_wp2_with fail
        obtain ⟨q0, q1, q2, q3, q4, -⟩ := ZB.out.c
        refine bodyPost_ret (v := .tuple #[.agg #[.int .i64 m.kind, .int .i64 m.n, .string ⟨m.s.toArray⟩, .slice a5 m.keys.length c5, .slice a6 m.l.length c6], .int .i64 0]) ?_ rfl ?_
        · simp only [set5] at q0 q1 q2 q3 q4
          simp [results, Tryd.results9, go_sem, q0, q1, q2, q3, q4]
        · exact ⟨_, by rw [HA.out], Z.out.1, by rw [HA.out]; exact Z.out.2⟩

set_option maxRecDepth 100000 in
set_option maxHeartbeats 40000000 in
theorem diff_is (w : World) (ok : Nat → Prop) (v p : V) (vv pv : Value) (h : In w ok v vv) (hp : In w ok p pv) :
    Calls Tryd.prog 6 #[vv, pv] w fun e w' => ∃ r, e = .returned (.tuple #[r, .int .i64 (diffR v p).2]) ∧ Below w.heap.size w w' ∧ In w' (okN ok w.heap.size) (diffR v p).1 r := by
  have H := hidI h.low
  have HP := hidI hp.low
  obtain ⟨l1, l2, l3⟩ := h.lens
  obtain ⟨l4, l5, l6⟩ := hp.lens
  obtain ⟨a1, a2, c1, c2, rfl⟩ := h.form
  obtain ⟨a3, a4, c3, c4, rfl⟩ := hp.form
  clear h hp
  have B3 : Hid (∀ o1 o2 o3, Below w.heap.size w (((w.alloc o1).alloc o2).alloc o3)) := fun o1 o2 o3 => bel_trans (bel_trans (bel_alloc _ _) (bel_alloc _ _)) (bel_alloc _ _)
  cases gv : goodV v with
  | false =>
    have GV := hidI gv
    clear gv
    go_enter Tryd.func6, Tryd.ntmps6
    go_wp2_with fail
    refine (good_is _ _ v _ (by exact H.out.bel (B3.out _ _ _))).mono ?_
    rintro e w1 ⟨rfl, hb1⟩
    rw [GV.out]
    have K1 : Hid (BoxIs w1 w.heap.size (.int .i64 v.kind) (.int .i64 v.n) (.string ⟨v.s.toArray⟩) (.slice a1 v.keys.length c1) (.slice a2 v.l.length c2) ∧ BoxIs w1 (w.heap.size + 1) (.int .i64 p.kind) (.int .i64 p.n) (.string ⟨p.s.toArray⟩) (.slice a3 p.keys.length c3) (.slice a4 p.l.length c4) ∧ BoxIs w1 (w.heap.size + 2) (.int .i64 0) (.int .i64 0) (.string ⟨#[]⟩) (.slice none 0 0) (.slice none 0 0) ∧ Below w.heap.size w w1) := hidI ⟨box_bel hb1 (h3a w _ _ _), box_bel hb1 (h3b w _ _ _), box_bel hb1 (h3c w _ _ _), bel_trans (B3.out _ _ _) hb1⟩
    clear hb1
    obtain ⟨z0, z1, z2, z3, z4, z5, z6, z7, z8, z9⟩ := K1.out.2.2.1.c
    have Z : Hid (_ ∧ _) := hidI (sto_out (ok := ok) (g := w.heap.size + 2) (C := w.heap.size + 3) (in_zero _ _) K1.out.2.2.2 (by omega) (by omega))
    have ZB : Hid _ := hidI (K1.out.2.2.1.set (.int .i64 0) (.int .i64 0) (.string ⟨#[]⟩) (.slice none 0 0) (.slice none 0 0))
    have HA : Hid (diffR v p = (zeroT, 1)) := hidI (by unfold diffR; rw [if_pos (by simp [GV.out])])
    go_wp2_with fail
    obtain ⟨q0, q1, q2, q3, q4, -⟩ := ZB.out.c
    refine bodyPost_ret (v := .tuple #[.agg #[.int .i64 0, .int .i64 0, .string ⟨#[]⟩, .slice none 0 0, .slice none 0 0], .int .i64 1]) ?_ rfl ?_
    · simp only [set5] at q0 q1 q2 q3 q4
      simp [results, Tryd.results6, go_sem, q0, q1, q2, q3, q4]
    · exact ⟨_, by rw [HA.out], Z.out.1, by rw [HA.out]; exact Z.out.2⟩
  | true =>
    have GV := hidI gv
    have NV : Hid (Nice v) := hidI (nice_of gv)
    clear gv
    cases gp : goodV p with
    | false =>
      have GP := hidI gp
      clear gp
      go_enter Tryd.func6, Tryd.ntmps6
      go_wp2_with fail
      refine (good_is _ _ v _ (by exact H.out.bel (B3.out _ _ _))).mono ?_
      rintro e w1 ⟨rfl, hb1⟩
      rw [GV.out]
      have K1 : Hid (BoxIs w1 w.heap.size (.int .i64 v.kind) (.int .i64 v.n) (.string ⟨v.s.toArray⟩) (.slice a1 v.keys.length c1) (.slice a2 v.l.length c2) ∧ BoxIs w1 (w.heap.size + 1) (.int .i64 p.kind) (.int .i64 p.n) (.string ⟨p.s.toArray⟩) (.slice a3 p.keys.length c3) (.slice a4 p.l.length c4) ∧ BoxIs w1 (w.heap.size + 2) (.int .i64 0) (.int .i64 0) (.string ⟨#[]⟩) (.slice none 0 0) (.slice none 0 0) ∧ Below w.heap.size w w1) := hidI ⟨box_bel hb1 (h3a w _ _ _), box_bel hb1 (h3b w _ _ _), box_bel hb1 (h3c w _ _ _), bel_trans (B3.out _ _ _) hb1⟩
      clear hb1
      obtain ⟨p0, p1, p2, p3, p4, -⟩ := K1.out.2.1.c
      go_wp2_with fail
      refine (good_is _ _ p _ (by exact HP.out.bel K1.out.2.2.2)).mono ?_
      rintro e w2 ⟨rfl, hb2⟩
      rw [GP.out]
      have K2 : Hid (BoxIs w2 w.heap.size (.int .i64 v.kind) (.int .i64 v.n) (.string ⟨v.s.toArray⟩) (.slice a1 v.keys.length c1) (.slice a2 v.l.length c2) ∧ BoxIs w2 (w.heap.size + 1) (.int .i64 p.kind) (.int .i64 p.n) (.string ⟨p.s.toArray⟩) (.slice a3 p.keys.length c3) (.slice a4 p.l.length c4) ∧ BoxIs w2 (w.heap.size + 2) (.int .i64 0) (.int .i64 0) (.string ⟨#[]⟩) (.slice none 0 0) (.slice none 0 0) ∧ Below w.heap.size w w2) := hidI ⟨box_bel hb2 K1.out.1, box_bel hb2 K1.out.2.1, box_bel hb2 K1.out.2.2.1, bel_trans K1.out.2.2.2 hb2⟩
      clear hb2 p0 p1 p2 p3 p4
      obtain ⟨z0, z1, z2, z3, z4, z5, z6, z7, z8, z9⟩ := K2.out.2.2.1.c
      have Z : Hid (_ ∧ _) := hidI (sto_out (ok := ok) (g := w.heap.size + 2) (C := w.heap.size + 3) (in_zero _ _) K2.out.2.2.2 (by omega) (by omega))
      have ZB : Hid _ := hidI (K2.out.2.2.1.set (.int .i64 0) (.int .i64 0) (.string ⟨#[]⟩) (.slice none 0 0) (.slice none 0 0))
      have HA : Hid (diffR v p = (zeroT, 1)) := hidI (by unfold diffR; rw [if_pos (by simp [GV.out, GP.out])])
      go_wp2_with fail
      obtain ⟨q0, q1, q2, q3, q4, -⟩ := ZB.out.c
      refine bodyPost_ret (v := .tuple #[.agg #[.int .i64 0, .int .i64 0, .string ⟨#[]⟩, .slice none 0 0, .slice none 0 0], .int .i64 1]) ?_ rfl ?_
      · simp only [set5] at q0 q1 q2 q3 q4
        simp [results, Tryd.results6, go_sem, q0, q1, q2, q3, q4]
      · exact ⟨_, by rw [HA.out], Z.out.1, by rw [HA.out]; exact Z.out.2⟩
    | true =>
      have GP := hidI gp
      have NP : Hid (Nice p) := hidI (nice_of gp)
      have DP : Hid (Dep 12 p) := hidI (GoodT.dep 12 (goodV_tree gp))
      clear gp
      have CP : Hid (cleanF 12 p = cln p) := hidI (clean_cln 12 p (goodV_tree GP.out))
      cases gc : cln p with
      | false =>
        have GC := hidI gc
        clear gc
        go_enter Tryd.func6, Tryd.ntmps6
        go_wp2_with fail
        refine (good_is _ _ v _ (by exact H.out.bel (B3.out _ _ _))).mono ?_
        rintro e w1 ⟨rfl, hb1⟩
        rw [GV.out]
        have K1 : Hid (BoxIs w1 w.heap.size (.int .i64 v.kind) (.int .i64 v.n) (.string ⟨v.s.toArray⟩) (.slice a1 v.keys.length c1) (.slice a2 v.l.length c2) ∧ BoxIs w1 (w.heap.size + 1) (.int .i64 p.kind) (.int .i64 p.n) (.string ⟨p.s.toArray⟩) (.slice a3 p.keys.length c3) (.slice a4 p.l.length c4) ∧ BoxIs w1 (w.heap.size + 2) (.int .i64 0) (.int .i64 0) (.string ⟨#[]⟩) (.slice none 0 0) (.slice none 0 0) ∧ Below w.heap.size w w1) := hidI ⟨box_bel hb1 (h3a w _ _ _), box_bel hb1 (h3b w _ _ _), box_bel hb1 (h3c w _ _ _), bel_trans (B3.out _ _ _) hb1⟩
        clear hb1
        obtain ⟨p0, p1, p2, p3, p4, -⟩ := K1.out.2.1.c
        go_wp2_with fail
        refine (good_is _ _ p _ (by exact HP.out.bel K1.out.2.2.2)).mono ?_
        rintro e w2 ⟨rfl, hb2⟩
        rw [GP.out]
        have K2 : Hid (BoxIs w2 w.heap.size (.int .i64 v.kind) (.int .i64 v.n) (.string ⟨v.s.toArray⟩) (.slice a1 v.keys.length c1) (.slice a2 v.l.length c2) ∧ BoxIs w2 (w.heap.size + 1) (.int .i64 p.kind) (.int .i64 p.n) (.string ⟨p.s.toArray⟩) (.slice a3 p.keys.length c3) (.slice a4 p.l.length c4) ∧ BoxIs w2 (w.heap.size + 2) (.int .i64 0) (.int .i64 0) (.string ⟨#[]⟩) (.slice none 0 0) (.slice none 0 0) ∧ Below w.heap.size w w2) := hidI ⟨box_bel hb2 K1.out.1, box_bel hb2 K1.out.2.1, box_bel hb2 K1.out.2.2.1, bel_trans K1.out.2.2.2 hb2⟩
        clear hb2 p0 p1 p2 p3 p4
        obtain ⟨p0, p1, p2, p3, p4, -⟩ := K2.out.2.1.c
        go_wp2_with fail
        refine (clean_is _ _ p _ (by exact HP.out.bel K2.out.2.2.2) (by have := nice_cnt NP.out; omega)).mono ?_
        rintro e w3 ⟨rfl, hb3⟩
        rw [GC.out]
        have K3 : Hid (BoxIs w3 w.heap.size (.int .i64 v.kind) (.int .i64 v.n) (.string ⟨v.s.toArray⟩) (.slice a1 v.keys.length c1) (.slice a2 v.l.length c2) ∧ BoxIs w3 (w.heap.size + 1) (.int .i64 p.kind) (.int .i64 p.n) (.string ⟨p.s.toArray⟩) (.slice a3 p.keys.length c3) (.slice a4 p.l.length c4) ∧ BoxIs w3 (w.heap.size + 2) (.int .i64 0) (.int .i64 0) (.string ⟨#[]⟩) (.slice none 0 0) (.slice none 0 0) ∧ Below w.heap.size w w3) := hidI ⟨box_bel hb3 K2.out.1, box_bel hb3 K2.out.2.1, box_bel hb3 K2.out.2.2.1, bel_trans K2.out.2.2.2 hb3⟩
        clear hb3 p0 p1 p2 p3 p4
        obtain ⟨z0, z1, z2, z3, z4, z5, z6, z7, z8, z9⟩ := K3.out.2.2.1.c
        have Z : Hid (_ ∧ _) := hidI (sto_out (ok := ok) (g := w.heap.size + 2) (C := w.heap.size + 3) (in_zero _ _) K3.out.2.2.2 (by omega) (by omega))
        have ZB : Hid _ := hidI (K3.out.2.2.1.set (.int .i64 0) (.int .i64 0) (.string ⟨#[]⟩) (.slice none 0 0) (.slice none 0 0))
        have HA : Hid (diffR v p = (zeroT, 1)) := hidI (by unfold diffR; rw [if_pos (by simp [GV.out, GP.out, CP.out, GC.out])])
        go_wp2_with fail
        obtain ⟨q0, q1, q2, q3, q4, -⟩ := ZB.out.c
        refine bodyPost_ret (v := .tuple #[.agg #[.int .i64 0, .int .i64 0, .string ⟨#[]⟩, .slice none 0 0, .slice none 0 0], .int .i64 1]) ?_ rfl ?_
        · simp only [set5] at q0 q1 q2 q3 q4
          simp [results, Tryd.results6, go_sem, q0, q1, q2, q3, q4]
        · exact ⟨_, by rw [HA.out], Z.out.1, by rw [HA.out]; exact Z.out.2⟩
      | true =>
        have GC := hidI gc
        clear gc
        go_enter Tryd.func6, Tryd.ntmps6
        go_wp2_with fail
        refine (good_is _ _ v _ (by exact H.out.bel (B3.out _ _ _))).mono ?_
        rintro e w1 ⟨rfl, hb1⟩
        rw [GV.out]
        have K1 : Hid (BoxIs w1 w.heap.size (.int .i64 v.kind) (.int .i64 v.n) (.string ⟨v.s.toArray⟩) (.slice a1 v.keys.length c1) (.slice a2 v.l.length c2) ∧ BoxIs w1 (w.heap.size + 1) (.int .i64 p.kind) (.int .i64 p.n) (.string ⟨p.s.toArray⟩) (.slice a3 p.keys.length c3) (.slice a4 p.l.length c4) ∧ BoxIs w1 (w.heap.size + 2) (.int .i64 0) (.int .i64 0) (.string ⟨#[]⟩) (.slice none 0 0) (.slice none 0 0) ∧ Below w.heap.size w w1) := hidI ⟨box_bel hb1 (h3a w _ _ _), box_bel hb1 (h3b w _ _ _), box_bel hb1 (h3c w _ _ _), bel_trans (B3.out _ _ _) hb1⟩
        clear hb1
        obtain ⟨p0, p1, p2, p3, p4, -⟩ := K1.out.2.1.c
        go_wp2_with fail
        refine (good_is _ _ p _ (by exact HP.out.bel K1.out.2.2.2)).mono ?_
        rintro e w2 ⟨rfl, hb2⟩
        rw [GP.out]
        have K2 : Hid (BoxIs w2 w.heap.size (.int .i64 v.kind) (.int .i64 v.n) (.string ⟨v.s.toArray⟩) (.slice a1 v.keys.length c1) (.slice a2 v.l.length c2) ∧ BoxIs w2 (w.heap.size + 1) (.int .i64 p.kind) (.int .i64 p.n) (.string ⟨p.s.toArray⟩) (.slice a3 p.keys.length c3) (.slice a4 p.l.length c4) ∧ BoxIs w2 (w.heap.size + 2) (.int .i64 0) (.int .i64 0) (.string ⟨#[]⟩) (.slice none 0 0) (.slice none 0 0) ∧ Below w.heap.size w w2) := hidI ⟨box_bel hb2 K1.out.1, box_bel hb2 K1.out.2.1, box_bel hb2 K1.out.2.2.1, bel_trans K1.out.2.2.2 hb2⟩
        clear hb2 p0 p1 p2 p3 p4
        obtain ⟨p0, p1, p2, p3, p4, -⟩ := K2.out.2.1.c
        go_wp2_with fail
        refine (clean_is _ _ p _ (by exact HP.out.bel K2.out.2.2.2) (by have := nice_cnt NP.out; omega)).mono ?_
        rintro e w3 ⟨rfl, hb3⟩
        rw [GC.out]
        have K3 : Hid (BoxIs w3 w.heap.size (.int .i64 v.kind) (.int .i64 v.n) (.string ⟨v.s.toArray⟩) (.slice a1 v.keys.length c1) (.slice a2 v.l.length c2) ∧ BoxIs w3 (w.heap.size + 1) (.int .i64 p.kind) (.int .i64 p.n) (.string ⟨p.s.toArray⟩) (.slice a3 p.keys.length c3) (.slice a4 p.l.length c4) ∧ BoxIs w3 (w.heap.size + 2) (.int .i64 0) (.int .i64 0) (.string ⟨#[]⟩) (.slice none 0 0) (.slice none 0 0) ∧ Below w.heap.size w w3) := hidI ⟨box_bel hb3 K2.out.1, box_bel hb3 K2.out.2.1, box_bel hb3 K2.out.2.2.1, bel_trans K2.out.2.2.2 hb3⟩
        clear hb3 p0 p1 p2 p3 p4
        obtain ⟨p0, p1, p2, p3, p4, -⟩ := K3.out.2.1.c
        obtain ⟨y0, y1, y2, y3, y4, -⟩ := K3.out.1.c
        go_wp2_with fail
        refine (other_is 12 _ (lowN ok w.heap.size (w.heap.size + 3)) v p _ _ (by exact (H.out.bel K3.out.2.2.2).weak lowN_low) (by exact (HP.out.bel K3.out.2.2.2).weak lowN_low) NV.out NP.out DP.out).mono ?_
        rintro e w4 ⟨r, rfl, hb4, hr⟩
        obtain ⟨m, hm⟩ : ∃ m, diffF 12 v p = m := ⟨_, rfl⟩
        rw [hm] at hr
        obtain ⟨a5, a6, c5, c6, rfl⟩ := hr.form
        have hbb := bel_trans hb4 (bel_alloc w4 (.cells #[.int .i64 m.kind, .int .i64 m.n, .string ⟨m.s.toArray⟩, .slice a5 m.keys.length c5, .slice a6 m.l.length c6] 25))
        have K4 : Hid (BoxIs (w4.alloc (.cells #[.int .i64 m.kind, .int .i64 m.n, .string ⟨m.s.toArray⟩, .slice a5 m.keys.length c5, .slice a6 m.l.length c6] 25)) w.heap.size (.int .i64 v.kind) (.int .i64 v.n) (.string ⟨v.s.toArray⟩) (.slice a1 v.keys.length c1) (.slice a2 v.l.length c2) ∧ BoxIs (w4.alloc (.cells #[.int .i64 m.kind, .int .i64 m.n, .string ⟨m.s.toArray⟩, .slice a5 m.keys.length c5, .slice a6 m.l.length c6] 25)) (w.heap.size + 1) (.int .i64 p.kind) (.int .i64 p.n) (.string ⟨p.s.toArray⟩) (.slice a3 p.keys.length c3) (.slice a4 p.l.length c4) ∧ BoxIs (w4.alloc (.cells #[.int .i64 m.kind, .int .i64 m.n, .string ⟨m.s.toArray⟩, .slice a5 m.keys.length c5, .slice a6 m.l.length c6] 25)) (w.heap.size + 2) (.int .i64 0) (.int .i64 0) (.string ⟨#[]⟩) (.slice none 0 0) (.slice none 0 0) ∧ Below w.heap.size w (w4.alloc (.cells #[.int .i64 m.kind, .int .i64 m.n, .string ⟨m.s.toArray⟩, .slice a5 m.keys.length c5, .slice a6 m.l.length c6] 25))) := hidI ⟨box_bel hbb K3.out.1, box_bel hbb K3.out.2.1, box_bel hbb K3.out.2.2.1, bel_trans K3.out.2.2.2 hbb⟩
        have M4 : Hid (In (w4.alloc (.cells #[.int .i64 m.kind, .int .i64 m.n, .string ⟨m.s.toArray⟩, .slice a5 m.keys.length c5, .slice a6 m.l.length c6] 25)) (lowN ok w.heap.size (w.heap.size + 3)) m (.agg #[.int .i64 m.kind, .int .i64 m.n, .string ⟨m.s.toArray⟩, .slice a5 m.keys.length c5, .slice a6 m.l.length c6]) ∧ BoxIs (w4.alloc (.cells #[.int .i64 m.kind, .int .i64 m.n, .string ⟨m.s.toArray⟩, .slice a5 m.keys.length c5, .slice a6 m.l.length c6] 25)) w4.heap.size (.int .i64 m.kind) (.int .i64 m.n) (.string ⟨m.s.toArray⟩) (.slice a5 m.keys.length c5) (.slice a6 m.l.length c6)) := hidI ⟨(hr.weak (lowN_up K3.out.2.2.1.lt)).bel (bel_alloc _ _), heap_alloc_new w4 _⟩
        have HM := hidI hm
        clear hm hr hb4 hbb p0 p1 p2 p3 p4 y0 y1 y2 y3 y4
        go_wp2_with fail
        refine (good_is _ _ m _ (by exact M4.out.1)).mono ?_
        rintro e w5 ⟨rfl, hb5⟩
        have K5 : Hid (BoxIs w5 w.heap.size (.int .i64 v.kind) (.int .i64 v.n) (.string ⟨v.s.toArray⟩) (.slice a1 v.keys.length c1) (.slice a2 v.l.length c2) ∧ BoxIs w5 (w.heap.size + 1) (.int .i64 p.kind) (.int .i64 p.n) (.string ⟨p.s.toArray⟩) (.slice a3 p.keys.length c3) (.slice a4 p.l.length c4) ∧ BoxIs w5 (w.heap.size + 2) (.int .i64 0) (.int .i64 0) (.string ⟨#[]⟩) (.slice none 0 0) (.slice none 0 0) ∧ Below w.heap.size w w5) := hidI ⟨box_bel hb5 K4.out.1, box_bel hb5 K4.out.2.1, box_bel hb5 K4.out.2.2.1, bel_trans K4.out.2.2.2 hb5⟩
        have M5 : Hid (In w5 (lowN ok w.heap.size (w.heap.size + 3)) m (.agg #[.int .i64 m.kind, .int .i64 m.n, .string ⟨m.s.toArray⟩, .slice a5 m.keys.length c5, .slice a6 m.l.length c6]) ∧ BoxIs w5 w4.heap.size (.int .i64 m.kind) (.int .i64 m.n) (.string ⟨m.s.toArray⟩) (.slice a5 m.keys.length c5) (.slice a6 m.l.length c6)) := hidI ⟨M4.out.1.bel hb5, box_bel hb5 M4.out.2⟩
        clear hb5
        cases gm : goodV m with
        | false =>
          have GM := hidI gm
          clear gm
          obtain ⟨z0, z1, z2, z3, z4, z5, z6, z7, z8, z9⟩ := K5.out.2.2.1.c
          have Z : Hid (_ ∧ _) := hidI (sto_out (ok := ok) (g := w.heap.size + 2) (C := w.heap.size + 3) (in_zero _ _) K5.out.2.2.2 (by omega) (by omega))
          have ZB : Hid _ := hidI (K5.out.2.2.1.set (.int .i64 0) (.int .i64 0) (.string ⟨#[]⟩) (.slice none 0 0) (.slice none 0 0))
          have HA : Hid (diffR v p = (zeroT, 2)) := hidI (by unfold diffR; rw [if_neg (by simp [GV.out, GP.out, CP.out, GC.out]), HM.out, if_neg (by simp [GM.out])])
          go_wp2_with fail
          obtain ⟨q0, q1, q2, q3, q4, -⟩ := ZB.out.c
          refine bodyPost_ret (v := .tuple #[.agg #[.int .i64 0, .int .i64 0, .string ⟨#[]⟩, .slice none 0 0, .slice none 0 0], .int .i64 2]) ?_ rfl ?_
          · simp only [set5] at q0 q1 q2 q3 q4
            simp [results, Tryd.results6, go_sem, q0, q1, q2, q3, q4]
          · exact ⟨_, by rw [HA.out], Z.out.1, by rw [HA.out]; exact Z.out.2⟩
        | true =>
          have GM := hidI gm
          clear gm
          obtain ⟨y0, y1, y2, y3, y4, -⟩ := M5.out.2.c
          obtain ⟨z0, z1, z2, z3, z4, z5, z6, z7, z8, z9⟩ := K5.out.2.2.1.c
          have Z : Hid (_ ∧ _) := hidI (sto_out (ok := ok) (g := w.heap.size + 2) (C := w.heap.size + 3) M5.out.1 K5.out.2.2.2 (by omega) (by omega))
          have ZB : Hid _ := hidI (K5.out.2.2.1.set (.int .i64 m.kind) (.int .i64 m.n) (.string ⟨m.s.toArray⟩) (.slice a5 m.keys.length c5) (.slice a6 m.l.length c6))
          have HA : Hid (diffR v p = (m, 0)) := hidI (by unfold diffR; rw [if_neg (by simp [GV.out, GP.out, CP.out, GC.out]), HM.out, if_pos GM.out])
          go_wp2_with fail
          obtain ⟨q0, q1, q2, q3, q4, -⟩ := ZB.out.c
          refine bodyPost_ret (v := .tuple #[.agg #[.int .i64 m.kind, .int .i64 m.n, .string ⟨m.s.toArray⟩, .slice a5 m.keys.length c5, .slice a6 m.l.length c6], .int .i64 0]) ?_ rfl ?_
          · simp only [set5] at q0 q1 q2 q3 q4
            simp [results, Tryd.results6, go_sem, q0, q1, q2, q3, q4]
          · exact ⟨_, by rw [HA.out], Z.out.1, by rw [HA.out]; exact Z.out.2⟩
end Go.Proofs.YthaoelchpaofkadDoor
