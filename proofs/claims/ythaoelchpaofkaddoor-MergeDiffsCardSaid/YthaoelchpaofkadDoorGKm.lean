/- Whatever it is handed, MergeDiffs answers true and leaves all as it was.
   Its conditions: a text or a list takes at most 2^47 - 4096 bytes; the listed package-level variables hold what the program's text lays (the card ties them, over a pruned copy of the project). -/
import Derived.Test.YthaoelchpaofkadDoorGMg
import Derived.Test.YthaoelchpaofkadDoorQf
import Derived.Test.YthaoelchpaofkadDoorKd
import Derived.Test.YthaoelchpaofkadDoorKa
/- That merges of package stairwellkeep answers yes. -/
set_option linter.unusedSimpArgs false
set_option linter.unusedVariables false
namespace Go.Proofs.YthaoelchpaofkadDoor
open Go.RowKit

theorem vis_dep {w : World} {ok : Nat → Prop} : ∀ (d : Nat) {t : V} {v : Value}, VIs w ok d t v → Dep d t
  | 0, _, _, h => h.elim
  | d + 1, t, v, h => by
    obtain ⟨ks, ls, e, h1, h2, h3, h4, h5⟩ := h
    intro x hx
    obtain ⟨y, hy⟩ := vals_mem h5 hx
    exact vis_dep d hy
theorem pair_congr {f g : V → List UInt8} {ks : List (List UInt8)} {l : List V} (h : ∀ x ∈ l, f x = g x) : pairS f ks l = pairS g ks l := by
  unfold pairS
  induction ks generalizing l with
  | nil => rfl
  | cons k ks ih =>
    cases l with
    | nil => rfl
    | cons x l =>
      rw [List.zipWith_cons_cons, List.zipWith_cons_cons, h x (by simp), ih fun y hy => h y (by simp [hy])]
theorem print_fu (d : Nat) : ∀ (d' : Nat) (t : V), Dep d t → Dep d' t → printS d t = printS d' t := by
  induction d with
  | zero => intro d' t h; exact h.elim
  | succ d ih =>
    intro d' t h h'
    cases d' with
    | zero => exact h'.elim
    | succ d' =>
      have e : ∀ x ∈ t.l, printS d x = printS d' x := fun x hx => ih d' x (h x hx) (h' x hx)
      simp only [printS]
      rw [List.map_congr_left e, pair_congr e]
theorem print_any {m : V} {l : List UInt8} {d : Nat} (h : printR 12 m = (l, 0)) (hd : Dep d m) : printR d m = (l, 0) := by
  cases hg : goodV m with
  | false => unfold printR at h; rw [hg] at h; simp at h
  | true =>
    have e := print_fu d 12 m hd (GoodT.dep 12 (goodV_tree hg))
    unfold printR at h ⊢
    rw [e]; exact h
def mgA : List UInt8 := [123, 34, 97, 34, 58, 49, 44, 34, 98, 34, 58, 123, 34, 99, 34, 58, 50, 125, 125]
def mgB : List UInt8 := [123, 34, 97, 34, 58, 110, 117, 108, 108, 44, 34, 98, 34, 58, 123, 34, 100, 34, 58, 51, 125, 125]
def mgO : List UInt8 := [123, 34, 98, 34, 58, 123, 34, 99, 34, 58, 50, 44, 34, 100, 34, 58, 51, 125, 125]
theorem mg_ok : (mergeR (parseS mgA).1 (parseS mgB).1).2 = 0 ∧ printR 12 (mergeR (parseS mgA).1 (parseS mgB).1).1 = (mgO, 0) := by decide +kernel

set_option maxRecDepth 100000 in
set_option maxHeartbeats 4000000 in
theorem merges_at (w : World) (hG : Glob w) : Calls Tryd.prog 7 #[] w fun e w' => e = .returned (.bool true) ∧ Below w.heap.size w w' := by
  have HG := hidI hG
  clear hG
  go_enter Tryd.func7, Tryd.ntmps7
  go_wp2_with fail
  refine (parse_at _ mgA (by decide) HG.out).mono ?_
  rintro e w1 ⟨t, ee, a1, b1, c1, d1, rfl, hp, hv, hb⟩
  have HP1 := hidI hp
  have HV1 := hidI (hv.is.weak fun _ _ => trivial : In w1 (fun _ => True) t _)
  have HB1 := hidI hb
  clear hp hv hb
  have HG1 : Hid (Glob (w1.alloc (.cells #[.int .i64 t.kind, .int .i64 t.n, .string ⟨t.s.toArray⟩, .slice a1 t.keys.length c1, .slice b1 t.l.length d1] 25))) := hidI (HG.out.grown (gb_below (r := none) (bel_trans HB1.out (bel_alloc _ _))) (by simp))
  go_wp2_with fail
  refine (parse_at _ mgB (by decide) (by exact HG1.out)).mono ?_
  rintro e w2 ⟨u, ef, a2, b2, c2, d2, rfl, hp, hv, hb⟩
  have HP2 := hidI hp
  have hbb := bel_trans hb (bel_alloc w2 (.cells #[.int .i64 u.kind, .int .i64 u.n, .string ⟨u.s.toArray⟩, .slice a2 u.keys.length c2, .slice b2 u.l.length d2] 25))
  have K2 : Hid (BoxIs (w2.alloc (.cells #[.int .i64 u.kind, .int .i64 u.n, .string ⟨u.s.toArray⟩, .slice a2 u.keys.length c2, .slice b2 u.l.length d2] 25)) w1.heap.size (.int .i64 t.kind) (.int .i64 t.n) (.string ⟨t.s.toArray⟩) (.slice a1 t.keys.length c1) (.slice b1 t.l.length d1) ∧ BoxIs (w2.alloc (.cells #[.int .i64 u.kind, .int .i64 u.n, .string ⟨u.s.toArray⟩, .slice a2 u.keys.length c2, .slice b2 u.l.length d2] 25)) w2.heap.size (.int .i64 u.kind) (.int .i64 u.n) (.string ⟨u.s.toArray⟩) (.slice a2 u.keys.length c2) (.slice b2 u.l.length d2) ∧ In (w2.alloc (.cells #[.int .i64 u.kind, .int .i64 u.n, .string ⟨u.s.toArray⟩, .slice a2 u.keys.length c2, .slice b2 u.l.length d2] 25)) (fun _ => True) t (.agg #[.int .i64 t.kind, .int .i64 t.n, .string ⟨t.s.toArray⟩, .slice a1 t.keys.length c1, .slice b1 t.l.length d1]) ∧ In (w2.alloc (.cells #[.int .i64 u.kind, .int .i64 u.n, .string ⟨u.s.toArray⟩, .slice a2 u.keys.length c2, .slice b2 u.l.length d2] 25)) (fun _ => True) u (.agg #[.int .i64 u.kind, .int .i64 u.n, .string ⟨u.s.toArray⟩, .slice a2 u.keys.length c2, .slice b2 u.l.length d2]) ∧ Below w.heap.size w (w2.alloc (.cells #[.int .i64 u.kind, .int .i64 u.n, .string ⟨u.s.toArray⟩, .slice a2 u.keys.length c2, .slice b2 u.l.length d2] 25))) := hidI ⟨box_bel hbb (heap_alloc_new w1 _), heap_alloc_new w2 _, HV1.out.bel (bel_trans (bel_alloc _ _) hbb), (hv.is.weak fun _ _ => trivial : In w2 (fun _ => True) u _).bel (bel_alloc _ _), bel_trans (bel_trans HB1.out (bel_alloc _ _)) hbb⟩
  clear hp hv hb hbb HB1 HV1
  obtain ⟨p0, p1, p2, p3, p4, -⟩ := K2.out.1.c
  obtain ⟨q0, q1, q2, q3, q4, -⟩ := K2.out.2.1.c
  go_wp2_with fail
  refine (merge_is _ (fun _ => True) t u _ _ (by exact K2.out.2.2.1) (by exact K2.out.2.2.2.1)).mono ?_
  rintro e w3 ⟨r, rfl, hb, hr⟩
  have hm := mg_ok
  rw [HP1.out, HP2.out] at hm
  simp only at hm
  rw [hm.1]
  obtain ⟨m, hme⟩ : ∃ m, (mergeR t u).1 = m := ⟨_, rfl⟩
  rw [hme] at hr hm
  obtain ⟨a3, b3, c3, d3, rfl⟩ := hr.form
  have HM := hidI hm.2
  have hbb := bel_trans hb (bel_alloc w3 (.cells #[.int .i64 m.kind, .int .i64 m.n, .string ⟨m.s.toArray⟩, .slice a3 m.keys.length c3, .slice b3 m.l.length d3] 25))
  have K3 : Hid (BoxIs (w3.alloc (.cells #[.int .i64 m.kind, .int .i64 m.n, .string ⟨m.s.toArray⟩, .slice a3 m.keys.length c3, .slice b3 m.l.length d3] 25)) w3.heap.size (.int .i64 m.kind) (.int .i64 m.n) (.string ⟨m.s.toArray⟩) (.slice a3 m.keys.length c3) (.slice b3 m.l.length d3) ∧ In (w3.alloc (.cells #[.int .i64 m.kind, .int .i64 m.n, .string ⟨m.s.toArray⟩, .slice a3 m.keys.length c3, .slice b3 m.l.length d3] 25)) (okN (fun _ => True) (w2.alloc (.cells #[.int .i64 u.kind, .int .i64 u.n, .string ⟨u.s.toArray⟩, .slice a2 u.keys.length c2, .slice b2 u.l.length d2] 25)).heap.size) m (.agg #[.int .i64 m.kind, .int .i64 m.n, .string ⟨m.s.toArray⟩, .slice a3 m.keys.length c3, .slice b3 m.l.length d3]) ∧ Below w.heap.size w (w3.alloc (.cells #[.int .i64 m.kind, .int .i64 m.n, .string ⟨m.s.toArray⟩, .slice a3 m.keys.length c3, .slice b3 m.l.length d3] 25))) := hidI ⟨heap_alloc_new w3 _, hr.bel (bel_alloc _ _), bel_trans K2.out.2.2.2.2 hbb⟩
  clear hm hme hr hb hbb p0 p1 p2 p3 p4 q0 q1 q2 q3 q4
  obtain ⟨dd, hdd⟩ := K3.out.2.1
  have HD := hidI hdd
  have HPR : Hid (printR dd m = (mgO, 0)) := hidI (print_any HM.out (vis_dep dd hdd))
  clear hdd
  obtain ⟨p0, p1, p2, p3, p4, -⟩ := K3.out.1.c
  go_wp2_with fail
  refine (Print_at _ _ dd m _ (by exact HD.out) (by exact HG.out.grown (gb_below (r := none) K3.out.2.2) (by simp))).mono ?_
  rintro e w4 ⟨l, ef', rfl, hq, hb2⟩
  rw [HPR.out] at hq
  simp only [Prod.mk.injEq] at hq
  obtain ⟨rfl, rfl⟩ := hq
  have B4 := hidI (bel_trans K3.out.2.2 hb2)
  clear hb2 p0 p1 p2 p3 p4
  have hs : (ByteArray.mk mgO.toArray == ByteArray.mk #[123, 34, 98, 34, 58, 123, 34, 99, 34, 58, 50, 44, 34, 100, 34, 58, 51, 125, 125]) = true := ba_eq rfl
  go_wp2_with fail
  go_ret
  exact ⟨rfl, B4.out⟩
end Go.Proofs.YthaoelchpaofkadDoor

/- What is other makes the other: MergeDiffs, MergeTwice, MergeSame. -/
set_option linter.unusedSimpArgs false
set_option linter.unusedVariables false
namespace Go.Proofs.YthaoelchpaofkadDoor
open Go.RowKit

theorem merge_ok {v p x : V} (h : mergeR v p = (x, 0)) : goodV v = true ∧ goodV p = true ∧ goodV x = true ∧ x = mergeF 12 v p := by
  unfold mergeR at h
  split at h
  · simp at h
  · rename_i h1
    split at h
    · rename_i h2
      simp only [Prod.mk.injEq, and_true] at h
      simp only [Bool.or_eq_true, Bool.not_eq_true', not_or, Bool.not_eq_false] at h1
      exact ⟨h1.1, h1.2, by rw [← h]; exact h2, h.symm⟩
    · simp at h
theorem merge_err {v p x : V} {e : Int} (h : mergeR v p = (x, e)) (he : e ≠ 0) : x = v := by
  unfold mergeR at h
  split at h
  · simp only [Prod.mk.injEq] at h; exact h.1.symm
  · split at h
    · simp only [Prod.mk.injEq] at h; exact absurd h.2.symm he
    · simp only [Prod.mk.injEq] at h; exact h.1.symm
theorem merge_mk {v p : V} (h1 : goodV v = true) (h2 : goodV p = true) (h3 : goodV (mergeF 12 v p) = true) : mergeR v p = (mergeF 12 v p, 0) := by
  unfold mergeR
  rw [if_neg (by simp [h1, h2]), if_pos h3]
theorem merge_again {v p x : V} (h : mergeR v p = (x, 0)) : mergeR x p = (x, 0) := by
  obtain ⟨h1, h2, h3, h4⟩ := merge_ok h
  have e : mergeF 12 x p = x := by rw [h4]; exact merge_twice 12 v p (goodV_tree h2) (nice_of h1)
  have := merge_mk h3 h2 (by rw [e]; exact h3)
  rw [e] at this; exact this
theorem merge_obj {v p x : V} (h : mergeR v p = (x, 0)) (hk : p.kind = 5) : x.kind = 5 := by
  obtain ⟨h1, h2, h3, h4⟩ := merge_ok h
  rw [h4]; exact merge_kind hk (nice_of h1)
theorem diff_ok {a b p : V} (h : diffR a b = (p, 0)) : goodV a = true ∧ goodV b = true ∧ cleanF 12 b = true ∧ goodV p = true ∧ p = diffF 12 a b := by
  unfold diffR at h
  split at h
  · simp at h
  · rename_i h1
    split at h
    · rename_i h2
      simp only [Prod.mk.injEq, and_true] at h
      simp only [Bool.or_eq_true, Bool.not_eq_true', not_or, Bool.not_eq_false] at h1
      exact ⟨h1.1.1, h1.1.2, h1.2, by rw [← h]; exact h2, h.symm⟩
    · simp at h
theorem diff_err {a b p : V} {e : Int} (h : diffR a b = (p, e)) (he : e ≠ 0) : p = zeroT := by
  unfold diffR at h
  split at h
  · simp only [Prod.mk.injEq] at h; exact h.1.symm
  · split at h
    · simp only [Prod.mk.injEq] at h; exact absurd h.2.symm he
    · simp only [Prod.mk.injEq] at h; exact h.1.symm
theorem diff_back {a b p : V} (h : diffR a b = (p, 0)) : mergeR a p = (b, 0) := by
  obtain ⟨h1, h2, h3, h4, h5⟩ := diff_ok h
  have e : mergeF 12 a p = b := by rw [h5]; exact merge_diff 12 12 a b (goodV_tree h2) h3 (nice_of h1) (Nat.le_refl _)
  have := merge_mk h1 h4 (by rw [e]; exact h2)
  rw [e] at this; exact this
theorem good_objT : goodV objT = true := by decide +kernel
theorem diff_self {a : V} (h1 : goodV a = true) (h2 : cleanF 12 a = true) (hk : a.kind = 5) : diffR a a = (objT, 0) := by
  unfold diffR
  rw [if_neg (by simp [h1, h2]), diff_same (nice_ob (nice_of h1) hk), if_pos good_objT]
theorem merge_self {a : V} (h1 : goodV a = true) (hk : a.kind = 5) : mergeR a objT = (a, 0) := by
  have e : mergeF 12 a objT = a := merge_none hk
  have := merge_mk h1 good_objT (by rw [e]; exact h1)
  rw [e] at this; exact this

set_option maxRecDepth 100000 in
set_option maxHeartbeats 40000000 in
theorem mergeTwice_walk (w : World) (oka : Nat → Prop) (da : Nat) (a : V) (va : Value) (ha : VIs w oka da a va) (okp : Nat → Prop) (dp : Nat) (p : V) (vp : Value) (hp : VIs w okp dp p vp) (hG : Glob w) :
    Calls Tryd.prog 4 #[va, vp] w fun e w' => e = .returned (.bool true) ∧ Below w.heap.size w w' := by
  have HG := hidI hG
  have qa : In w (fun _ => True) a va := ha.is.weak fun _ _ => trivial
  have Ha := hidI qa
  obtain ⟨la1, lb1, lc1⟩ := qa.lens
  obtain ⟨a1, b1, c1, d1, rfl⟩ := qa.form
  clear qa ha
  have qp : In w (fun _ => True) p vp := hp.is.weak fun _ _ => trivial
  have Hp := hidI qp
  obtain ⟨la2, lb2, lc2⟩ := qp.lens
  obtain ⟨a2, b2, c2, d2, rfl⟩ := qp.form
  clear qp hp
  clear hG
  have B0 : Hid (Below w.heap.size w ((w.alloc (.cells #[.int .i64 a.kind, .int .i64 a.n, .string ⟨a.s.toArray⟩, .slice a1 a.keys.length c1, .slice b1 a.l.length d1] 25)).alloc (.cells #[.int .i64 p.kind, .int .i64 p.n, .string ⟨p.s.toArray⟩, .slice a2 p.keys.length c2, .slice b2 p.l.length d2] 25))) := hidI (bel_trans (bel_alloc _ _) (bel_alloc _ _))
  have K0 : Hid ((BoxIs ((w.alloc (.cells #[.int .i64 a.kind, .int .i64 a.n, .string ⟨a.s.toArray⟩, .slice a1 a.keys.length c1, .slice b1 a.l.length d1] 25)).alloc (.cells #[.int .i64 p.kind, .int .i64 p.n, .string ⟨p.s.toArray⟩, .slice a2 p.keys.length c2, .slice b2 p.l.length d2] 25)) w.heap.size (.int .i64 a.kind) (.int .i64 a.n) (.string ⟨a.s.toArray⟩) (.slice a1 a.keys.length c1) (.slice b1 a.l.length d1) ∧ BoxIs ((w.alloc (.cells #[.int .i64 a.kind, .int .i64 a.n, .string ⟨a.s.toArray⟩, .slice a1 a.keys.length c1, .slice b1 a.l.length d1] 25)).alloc (.cells #[.int .i64 p.kind, .int .i64 p.n, .string ⟨p.s.toArray⟩, .slice a2 p.keys.length c2, .slice b2 p.l.length d2] 25)) (w.heap.size + 1) (.int .i64 p.kind) (.int .i64 p.n) (.string ⟨p.s.toArray⟩) (.slice a2 p.keys.length c2) (.slice b2 p.l.length d2)) ∧ (In ((w.alloc (.cells #[.int .i64 a.kind, .int .i64 a.n, .string ⟨a.s.toArray⟩, .slice a1 a.keys.length c1, .slice b1 a.l.length d1] 25)).alloc (.cells #[.int .i64 p.kind, .int .i64 p.n, .string ⟨p.s.toArray⟩, .slice a2 p.keys.length c2, .slice b2 p.l.length d2] 25)) (fun _ => True) a (.agg #[.int .i64 a.kind, .int .i64 a.n, .string ⟨a.s.toArray⟩, .slice a1 a.keys.length c1, .slice b1 a.l.length d1]) ∧ In ((w.alloc (.cells #[.int .i64 a.kind, .int .i64 a.n, .string ⟨a.s.toArray⟩, .slice a1 a.keys.length c1, .slice b1 a.l.length d1] 25)).alloc (.cells #[.int .i64 p.kind, .int .i64 p.n, .string ⟨p.s.toArray⟩, .slice a2 p.keys.length c2, .slice b2 p.l.length d2] 25)) (fun _ => True) p (.agg #[.int .i64 p.kind, .int .i64 p.n, .string ⟨p.s.toArray⟩, .slice a2 p.keys.length c2, .slice b2 p.l.length d2])) ∧ Below w.heap.size w ((w.alloc (.cells #[.int .i64 a.kind, .int .i64 a.n, .string ⟨a.s.toArray⟩, .slice a1 a.keys.length c1, .slice b1 a.l.length d1] 25)).alloc (.cells #[.int .i64 p.kind, .int .i64 p.n, .string ⟨p.s.toArray⟩, .slice a2 p.keys.length c2, .slice b2 p.l.length d2] 25))) := hidI ⟨⟨h2a w _ _, h2b w _ _⟩, ⟨Ha.out.bel B0.out, Hp.out.bel B0.out⟩, B0.out⟩
  obtain ⟨x00, x01, x02, x03, x04, -⟩ := K0.out.1.1.c
  obtain ⟨x10, x11, x12, x13, x14, -⟩ := K0.out.1.2.c
  go_enter Tryd.func4, Tryd.ntmps4
  go_wp2_with fail
  refine (merge_is _ (fun _ => True) a p _ _ (by exact K0.out.2.1.1) (by exact K0.out.2.1.2)).mono ?_
  rintro e w1 ⟨r3, rfl, hb1, hr3⟩
  obtain ⟨g3, hg3⟩ : ∃ g, mergeR a p = g := ⟨_, rfl⟩
  rw [hg3] at hr3 ⊢
  obtain ⟨x, ze⟩ := g3
  simp only at hr3 ⊢
  obtain ⟨a3, b3, c3, d3, rfl⟩ := hr3.form
  have HG3 := hidI hg3
  have hbb3 := bel_trans hb1 (bel_alloc w1 (.cells #[.int .i64 x.kind, .int .i64 x.n, .string ⟨x.s.toArray⟩, .slice a3 x.keys.length c3, .slice b3 x.l.length d3] 25))
  have K1 : Hid ((BoxIs (w1.alloc (.cells #[.int .i64 x.kind, .int .i64 x.n, .string ⟨x.s.toArray⟩, .slice a3 x.keys.length c3, .slice b3 x.l.length d3] 25)) w.heap.size (.int .i64 a.kind) (.int .i64 a.n) (.string ⟨a.s.toArray⟩) (.slice a1 a.keys.length c1) (.slice b1 a.l.length d1) ∧ BoxIs (w1.alloc (.cells #[.int .i64 x.kind, .int .i64 x.n, .string ⟨x.s.toArray⟩, .slice a3 x.keys.length c3, .slice b3 x.l.length d3] 25)) (w.heap.size + 1) (.int .i64 p.kind) (.int .i64 p.n) (.string ⟨p.s.toArray⟩) (.slice a2 p.keys.length c2) (.slice b2 p.l.length d2) ∧ BoxIs (w1.alloc (.cells #[.int .i64 x.kind, .int .i64 x.n, .string ⟨x.s.toArray⟩, .slice a3 x.keys.length c3, .slice b3 x.l.length d3] 25)) w1.heap.size (.int .i64 x.kind) (.int .i64 x.n) (.string ⟨x.s.toArray⟩) (.slice a3 x.keys.length c3) (.slice b3 x.l.length d3)) ∧ (In (w1.alloc (.cells #[.int .i64 x.kind, .int .i64 x.n, .string ⟨x.s.toArray⟩, .slice a3 x.keys.length c3, .slice b3 x.l.length d3] 25)) (fun _ => True) a (.agg #[.int .i64 a.kind, .int .i64 a.n, .string ⟨a.s.toArray⟩, .slice a1 a.keys.length c1, .slice b1 a.l.length d1]) ∧ In (w1.alloc (.cells #[.int .i64 x.kind, .int .i64 x.n, .string ⟨x.s.toArray⟩, .slice a3 x.keys.length c3, .slice b3 x.l.length d3] 25)) (fun _ => True) p (.agg #[.int .i64 p.kind, .int .i64 p.n, .string ⟨p.s.toArray⟩, .slice a2 p.keys.length c2, .slice b2 p.l.length d2]) ∧ In (w1.alloc (.cells #[.int .i64 x.kind, .int .i64 x.n, .string ⟨x.s.toArray⟩, .slice a3 x.keys.length c3, .slice b3 x.l.length d3] 25)) (fun _ => True) x (.agg #[.int .i64 x.kind, .int .i64 x.n, .string ⟨x.s.toArray⟩, .slice a3 x.keys.length c3, .slice b3 x.l.length d3])) ∧ Below w.heap.size w (w1.alloc (.cells #[.int .i64 x.kind, .int .i64 x.n, .string ⟨x.s.toArray⟩, .slice a3 x.keys.length c3, .slice b3 x.l.length d3] 25))) := hidI ⟨⟨box_bel hbb3 K0.out.1.1, box_bel hbb3 K0.out.1.2, heap_alloc_new w1 _⟩, ⟨K0.out.2.1.1.bel hbb3, K0.out.2.1.2.bel hbb3, (hr3.bel (bel_alloc _ _)).weak fun _ _ => trivial⟩, bel_trans K0.out.2.2 hbb3⟩
  clear hg3 hr3 hb1 hbb3 x00 x01 x02 x03 x04 x10 x11 x12 x13 x14
  obtain ⟨x00, x01, x02, x03, x04, -⟩ := K1.out.1.1.c
  obtain ⟨x10, x11, x12, x13, x14, -⟩ := K1.out.1.2.1.c
  obtain ⟨x20, x21, x22, x23, x24, -⟩ := K1.out.1.2.2.c
  by_cases hze : ze = 0
  · subst hze
    have AG : Hid (mergeR x p = (x, 0)) := hidI (merge_again HG3.out)
    have KD : Hid (p.kind = 5 → x.kind = 5) := hidI (merge_obj HG3.out)
    go_wp2_with fail
    refine (merges_at _ (by exact HG.out.grown (gb_below (r := none) K1.out.2.2) (by simp))).mono ?_
    rintro e w2 ⟨rfl, hb2⟩
    have K2 : Hid ((BoxIs w2 w.heap.size (.int .i64 a.kind) (.int .i64 a.n) (.string ⟨a.s.toArray⟩) (.slice a1 a.keys.length c1) (.slice b1 a.l.length d1) ∧ BoxIs w2 (w.heap.size + 1) (.int .i64 p.kind) (.int .i64 p.n) (.string ⟨p.s.toArray⟩) (.slice a2 p.keys.length c2) (.slice b2 p.l.length d2) ∧ BoxIs w2 w1.heap.size (.int .i64 x.kind) (.int .i64 x.n) (.string ⟨x.s.toArray⟩) (.slice a3 x.keys.length c3) (.slice b3 x.l.length d3)) ∧ (In w2 (fun _ => True) a (.agg #[.int .i64 a.kind, .int .i64 a.n, .string ⟨a.s.toArray⟩, .slice a1 a.keys.length c1, .slice b1 a.l.length d1]) ∧ In w2 (fun _ => True) p (.agg #[.int .i64 p.kind, .int .i64 p.n, .string ⟨p.s.toArray⟩, .slice a2 p.keys.length c2, .slice b2 p.l.length d2]) ∧ In w2 (fun _ => True) x (.agg #[.int .i64 x.kind, .int .i64 x.n, .string ⟨x.s.toArray⟩, .slice a3 x.keys.length c3, .slice b3 x.l.length d3])) ∧ Below w.heap.size w w2) := hidI ⟨⟨box_bel hb2 K1.out.1.1, box_bel hb2 K1.out.1.2.1, box_bel hb2 K1.out.1.2.2⟩, ⟨K1.out.2.1.1.bel hb2, K1.out.2.1.2.1.bel hb2, K1.out.2.1.2.2.bel hb2⟩, bel_trans K1.out.2.2 hb2⟩
    clear hb2 x00 x01 x02 x03 x04 x10 x11 x12 x13 x14 x20 x21 x22 x23 x24
    obtain ⟨x00, x01, x02, x03, x04, -⟩ := K2.out.1.1.c
    obtain ⟨x10, x11, x12, x13, x14, -⟩ := K2.out.1.2.1.c
    obtain ⟨x20, x21, x22, x23, x24, -⟩ := K2.out.1.2.2.c
    go_wp2_with fail
    refine (merge_is _ (fun _ => True) x p _ _ (by exact K2.out.2.1.2.2) (by exact K2.out.2.1.2.1)).mono ?_
    rintro e w3 ⟨r4, rfl, hb3, hr4⟩
    obtain ⟨g4, hg4⟩ : ∃ g, mergeR x p = g := ⟨_, rfl⟩
    rw [hg4] at hr4 ⊢
    obtain ⟨y, zf⟩ := g4
    simp only at hr4 ⊢
    obtain ⟨a4, b4, c4, d4, rfl⟩ := hr4.form
    have HG4 := hidI hg4
    have hbb4 := bel_trans hb3 (bel_alloc w3 (.cells #[.int .i64 y.kind, .int .i64 y.n, .string ⟨y.s.toArray⟩, .slice a4 y.keys.length c4, .slice b4 y.l.length d4] 25))
    have K3 : Hid ((BoxIs (w3.alloc (.cells #[.int .i64 y.kind, .int .i64 y.n, .string ⟨y.s.toArray⟩, .slice a4 y.keys.length c4, .slice b4 y.l.length d4] 25)) w.heap.size (.int .i64 a.kind) (.int .i64 a.n) (.string ⟨a.s.toArray⟩) (.slice a1 a.keys.length c1) (.slice b1 a.l.length d1) ∧ BoxIs (w3.alloc (.cells #[.int .i64 y.kind, .int .i64 y.n, .string ⟨y.s.toArray⟩, .slice a4 y.keys.length c4, .slice b4 y.l.length d4] 25)) (w.heap.size + 1) (.int .i64 p.kind) (.int .i64 p.n) (.string ⟨p.s.toArray⟩) (.slice a2 p.keys.length c2) (.slice b2 p.l.length d2) ∧ BoxIs (w3.alloc (.cells #[.int .i64 y.kind, .int .i64 y.n, .string ⟨y.s.toArray⟩, .slice a4 y.keys.length c4, .slice b4 y.l.length d4] 25)) w1.heap.size (.int .i64 x.kind) (.int .i64 x.n) (.string ⟨x.s.toArray⟩) (.slice a3 x.keys.length c3) (.slice b3 x.l.length d3) ∧ BoxIs (w3.alloc (.cells #[.int .i64 y.kind, .int .i64 y.n, .string ⟨y.s.toArray⟩, .slice a4 y.keys.length c4, .slice b4 y.l.length d4] 25)) w3.heap.size (.int .i64 y.kind) (.int .i64 y.n) (.string ⟨y.s.toArray⟩) (.slice a4 y.keys.length c4) (.slice b4 y.l.length d4)) ∧ (In (w3.alloc (.cells #[.int .i64 y.kind, .int .i64 y.n, .string ⟨y.s.toArray⟩, .slice a4 y.keys.length c4, .slice b4 y.l.length d4] 25)) (fun _ => True) a (.agg #[.int .i64 a.kind, .int .i64 a.n, .string ⟨a.s.toArray⟩, .slice a1 a.keys.length c1, .slice b1 a.l.length d1]) ∧ In (w3.alloc (.cells #[.int .i64 y.kind, .int .i64 y.n, .string ⟨y.s.toArray⟩, .slice a4 y.keys.length c4, .slice b4 y.l.length d4] 25)) (fun _ => True) p (.agg #[.int .i64 p.kind, .int .i64 p.n, .string ⟨p.s.toArray⟩, .slice a2 p.keys.length c2, .slice b2 p.l.length d2]) ∧ In (w3.alloc (.cells #[.int .i64 y.kind, .int .i64 y.n, .string ⟨y.s.toArray⟩, .slice a4 y.keys.length c4, .slice b4 y.l.length d4] 25)) (fun _ => True) x (.agg #[.int .i64 x.kind, .int .i64 x.n, .string ⟨x.s.toArray⟩, .slice a3 x.keys.length c3, .slice b3 x.l.length d3]) ∧ In (w3.alloc (.cells #[.int .i64 y.kind, .int .i64 y.n, .string ⟨y.s.toArray⟩, .slice a4 y.keys.length c4, .slice b4 y.l.length d4] 25)) (fun _ => True) y (.agg #[.int .i64 y.kind, .int .i64 y.n, .string ⟨y.s.toArray⟩, .slice a4 y.keys.length c4, .slice b4 y.l.length d4])) ∧ Below w.heap.size w (w3.alloc (.cells #[.int .i64 y.kind, .int .i64 y.n, .string ⟨y.s.toArray⟩, .slice a4 y.keys.length c4, .slice b4 y.l.length d4] 25))) := hidI ⟨⟨box_bel hbb4 K2.out.1.1, box_bel hbb4 K2.out.1.2.1, box_bel hbb4 K2.out.1.2.2, heap_alloc_new w3 _⟩, ⟨K2.out.2.1.1.bel hbb4, K2.out.2.1.2.1.bel hbb4, K2.out.2.1.2.2.bel hbb4, (hr4.bel (bel_alloc _ _)).weak fun _ _ => trivial⟩, bel_trans K2.out.2.2 hbb4⟩
    clear hg4 hr4 hb3 hbb4 x00 x01 x02 x03 x04 x10 x11 x12 x13 x14 x20 x21 x22 x23 x24
    obtain ⟨x00, x01, x02, x03, x04, -⟩ := K3.out.1.1.c
    obtain ⟨x10, x11, x12, x13, x14, -⟩ := K3.out.1.2.1.c
    obtain ⟨x20, x21, x22, x23, x24, -⟩ := K3.out.1.2.2.1.c
    obtain ⟨x30, x31, x32, x33, x34, -⟩ := K3.out.1.2.2.2.c
    have hyx := HG4.out
    rw [AG.out] at hyx
    simp only [Prod.mk.injEq] at hyx
    obtain ⟨rfl, rfl⟩ := hyx
    go_wp2_with fail
    refine (same_is _ (fun _ => True) (fun _ => True) x _ _ (by exact K3.out.2.1.2.2.1) (by exact K3.out.2.1.2.2.2)).mono ?_
    rintro e w4 ⟨rfl, hb4⟩
    have K4 : Hid ((BoxIs w4 w.heap.size (.int .i64 a.kind) (.int .i64 a.n) (.string ⟨a.s.toArray⟩) (.slice a1 a.keys.length c1) (.slice b1 a.l.length d1) ∧ BoxIs w4 (w.heap.size + 1) (.int .i64 p.kind) (.int .i64 p.n) (.string ⟨p.s.toArray⟩) (.slice a2 p.keys.length c2) (.slice b2 p.l.length d2) ∧ BoxIs w4 w1.heap.size (.int .i64 x.kind) (.int .i64 x.n) (.string ⟨x.s.toArray⟩) (.slice a3 x.keys.length c3) (.slice b3 x.l.length d3) ∧ BoxIs w4 w3.heap.size (.int .i64 x.kind) (.int .i64 x.n) (.string ⟨x.s.toArray⟩) (.slice a4 x.keys.length c4) (.slice b4 x.l.length d4)) ∧ (In w4 (fun _ => True) a (.agg #[.int .i64 a.kind, .int .i64 a.n, .string ⟨a.s.toArray⟩, .slice a1 a.keys.length c1, .slice b1 a.l.length d1]) ∧ In w4 (fun _ => True) p (.agg #[.int .i64 p.kind, .int .i64 p.n, .string ⟨p.s.toArray⟩, .slice a2 p.keys.length c2, .slice b2 p.l.length d2]) ∧ In w4 (fun _ => True) x (.agg #[.int .i64 x.kind, .int .i64 x.n, .string ⟨x.s.toArray⟩, .slice a3 x.keys.length c3, .slice b3 x.l.length d3]) ∧ In w4 (fun _ => True) x (.agg #[.int .i64 x.kind, .int .i64 x.n, .string ⟨x.s.toArray⟩, .slice a4 x.keys.length c4, .slice b4 x.l.length d4])) ∧ Below w.heap.size w w4) := hidI ⟨⟨box_bel hb4 K3.out.1.1, box_bel hb4 K3.out.1.2.1, box_bel hb4 K3.out.1.2.2.1, box_bel hb4 K3.out.1.2.2.2⟩, ⟨K3.out.2.1.1.bel hb4, K3.out.2.1.2.1.bel hb4, K3.out.2.1.2.2.1.bel hb4, K3.out.2.1.2.2.2.bel hb4⟩, bel_trans K3.out.2.2 hb4⟩
    clear hb4 x00 x01 x02 x03 x04 x10 x11 x12 x13 x14 x20 x21 x22 x23 x24 x30 x31 x32 x33 x34
    obtain ⟨x00, x01, x02, x03, x04, -⟩ := K4.out.1.1.c
    obtain ⟨x10, x11, x12, x13, x14, -⟩ := K4.out.1.2.1.c
    obtain ⟨x20, x21, x22, x23, x24, -⟩ := K4.out.1.2.2.1.c
    obtain ⟨x30, x31, x32, x33, x34, -⟩ := K4.out.1.2.2.2.c
    by_cases hk : p.kind = 5
    · have e1 : (p.kind != 5) = false := by rw [hk]; rfl
      have e2 : (x.kind == 5) = true := by rw [KD.out hk]; rfl
      clear hk
      go_wp2_with fail
      go_ret
      exact ⟨rfl, K4.out.2.2⟩
    · have e1 : (p.kind != 5) = true := by rw [bne_iff_ne]; exact hk
      clear hk
      go_wp2_with fail
      go_ret
      exact ⟨rfl, K4.out.2.2⟩
  · have e1 : (ze != 0) = true := by rw [bne_iff_ne]; exact hze
    have e2 : (ze == 0) = false := by rw [beq_eq_false_iff_ne]; exact hze
    have hxa := merge_err HG3.out hze
    subst hxa
    clear hze
    go_wp2_with fail
    refine (same_is _ (fun _ => True) (fun _ => True) x _ _ (by exact K1.out.2.1.2.2) (by exact K1.out.2.1.1)).mono ?_
    rintro e w2 ⟨rfl, hb2⟩
    have K2 : Hid ((BoxIs w2 w.heap.size (.int .i64 x.kind) (.int .i64 x.n) (.string ⟨x.s.toArray⟩) (.slice a1 x.keys.length c1) (.slice b1 x.l.length d1) ∧ BoxIs w2 (w.heap.size + 1) (.int .i64 p.kind) (.int .i64 p.n) (.string ⟨p.s.toArray⟩) (.slice a2 p.keys.length c2) (.slice b2 p.l.length d2) ∧ BoxIs w2 w1.heap.size (.int .i64 x.kind) (.int .i64 x.n) (.string ⟨x.s.toArray⟩) (.slice a3 x.keys.length c3) (.slice b3 x.l.length d3)) ∧ (In w2 (fun _ => True) x (.agg #[.int .i64 x.kind, .int .i64 x.n, .string ⟨x.s.toArray⟩, .slice a1 x.keys.length c1, .slice b1 x.l.length d1]) ∧ In w2 (fun _ => True) p (.agg #[.int .i64 p.kind, .int .i64 p.n, .string ⟨p.s.toArray⟩, .slice a2 p.keys.length c2, .slice b2 p.l.length d2]) ∧ In w2 (fun _ => True) x (.agg #[.int .i64 x.kind, .int .i64 x.n, .string ⟨x.s.toArray⟩, .slice a3 x.keys.length c3, .slice b3 x.l.length d3])) ∧ Below w.heap.size w w2) := hidI ⟨⟨box_bel hb2 K1.out.1.1, box_bel hb2 K1.out.1.2.1, box_bel hb2 K1.out.1.2.2⟩, ⟨K1.out.2.1.1.bel hb2, K1.out.2.1.2.1.bel hb2, K1.out.2.1.2.2.bel hb2⟩, bel_trans K1.out.2.2 hb2⟩
    clear hb2 x00 x01 x02 x03 x04 x10 x11 x12 x13 x14 x20 x21 x22 x23 x24
    obtain ⟨x00, x01, x02, x03, x04, -⟩ := K2.out.1.1.c
    obtain ⟨x10, x11, x12, x13, x14, -⟩ := K2.out.1.2.1.c
    obtain ⟨x20, x21, x22, x23, x24, -⟩ := K2.out.1.2.2.c
    go_wp2_with fail
    refine (merges_at _ (by exact HG.out.grown (gb_below (r := none) K2.out.2.2) (by simp))).mono ?_
    rintro e w3 ⟨rfl, hb3⟩
    have K3 : Hid ((BoxIs w3 w.heap.size (.int .i64 x.kind) (.int .i64 x.n) (.string ⟨x.s.toArray⟩) (.slice a1 x.keys.length c1) (.slice b1 x.l.length d1) ∧ BoxIs w3 (w.heap.size + 1) (.int .i64 p.kind) (.int .i64 p.n) (.string ⟨p.s.toArray⟩) (.slice a2 p.keys.length c2) (.slice b2 p.l.length d2) ∧ BoxIs w3 w1.heap.size (.int .i64 x.kind) (.int .i64 x.n) (.string ⟨x.s.toArray⟩) (.slice a3 x.keys.length c3) (.slice b3 x.l.length d3)) ∧ (In w3 (fun _ => True) x (.agg #[.int .i64 x.kind, .int .i64 x.n, .string ⟨x.s.toArray⟩, .slice a1 x.keys.length c1, .slice b1 x.l.length d1]) ∧ In w3 (fun _ => True) p (.agg #[.int .i64 p.kind, .int .i64 p.n, .string ⟨p.s.toArray⟩, .slice a2 p.keys.length c2, .slice b2 p.l.length d2]) ∧ In w3 (fun _ => True) x (.agg #[.int .i64 x.kind, .int .i64 x.n, .string ⟨x.s.toArray⟩, .slice a3 x.keys.length c3, .slice b3 x.l.length d3])) ∧ Below w.heap.size w w3) := hidI ⟨⟨box_bel hb3 K2.out.1.1, box_bel hb3 K2.out.1.2.1, box_bel hb3 K2.out.1.2.2⟩, ⟨K2.out.2.1.1.bel hb3, K2.out.2.1.2.1.bel hb3, K2.out.2.1.2.2.bel hb3⟩, bel_trans K2.out.2.2 hb3⟩
    clear hb3 x00 x01 x02 x03 x04 x10 x11 x12 x13 x14 x20 x21 x22 x23 x24
    obtain ⟨x00, x01, x02, x03, x04, -⟩ := K3.out.1.1.c
    obtain ⟨x10, x11, x12, x13, x14, -⟩ := K3.out.1.2.1.c
    obtain ⟨x20, x21, x22, x23, x24, -⟩ := K3.out.1.2.2.c
    go_wp2_with fail
    go_ret
    exact ⟨rfl, K3.out.2.2⟩

set_option maxRecDepth 100000 in
set_option maxHeartbeats 40000000 in
theorem mergeDiffs_walk (w : World) (oka : Nat → Prop) (da : Nat) (a : V) (va : Value) (ha : VIs w oka da a va) (okb : Nat → Prop) (db : Nat) (b : V) (vb : Value) (hb : VIs w okb db b vb) (hG : Glob w) :
    Calls Tryd.prog 3 #[va, vb] w fun e w' => e = .returned (.bool true) ∧ Below w.heap.size w w' := by
  have HG := hidI hG
  have qa : In w (fun _ => True) a va := ha.is.weak fun _ _ => trivial
  have Ha := hidI qa
  obtain ⟨la1, lb1, lc1⟩ := qa.lens
  obtain ⟨a1, b1, c1, d1, rfl⟩ := qa.form
  clear qa ha
  have qb : In w (fun _ => True) b vb := hb.is.weak fun _ _ => trivial
  have Hb := hidI qb
  obtain ⟨la2, lb2, lc2⟩ := qb.lens
  obtain ⟨a2, b2, c2, d2, rfl⟩ := qb.form
  clear qb hb
  clear hG
  have B0 : Hid (Below w.heap.size w ((w.alloc (.cells #[.int .i64 a.kind, .int .i64 a.n, .string ⟨a.s.toArray⟩, .slice a1 a.keys.length c1, .slice b1 a.l.length d1] 25)).alloc (.cells #[.int .i64 b.kind, .int .i64 b.n, .string ⟨b.s.toArray⟩, .slice a2 b.keys.length c2, .slice b2 b.l.length d2] 25))) := hidI (bel_trans (bel_alloc _ _) (bel_alloc _ _))
  have K0 : Hid ((BoxIs ((w.alloc (.cells #[.int .i64 a.kind, .int .i64 a.n, .string ⟨a.s.toArray⟩, .slice a1 a.keys.length c1, .slice b1 a.l.length d1] 25)).alloc (.cells #[.int .i64 b.kind, .int .i64 b.n, .string ⟨b.s.toArray⟩, .slice a2 b.keys.length c2, .slice b2 b.l.length d2] 25)) w.heap.size (.int .i64 a.kind) (.int .i64 a.n) (.string ⟨a.s.toArray⟩) (.slice a1 a.keys.length c1) (.slice b1 a.l.length d1) ∧ BoxIs ((w.alloc (.cells #[.int .i64 a.kind, .int .i64 a.n, .string ⟨a.s.toArray⟩, .slice a1 a.keys.length c1, .slice b1 a.l.length d1] 25)).alloc (.cells #[.int .i64 b.kind, .int .i64 b.n, .string ⟨b.s.toArray⟩, .slice a2 b.keys.length c2, .slice b2 b.l.length d2] 25)) (w.heap.size + 1) (.int .i64 b.kind) (.int .i64 b.n) (.string ⟨b.s.toArray⟩) (.slice a2 b.keys.length c2) (.slice b2 b.l.length d2)) ∧ (In ((w.alloc (.cells #[.int .i64 a.kind, .int .i64 a.n, .string ⟨a.s.toArray⟩, .slice a1 a.keys.length c1, .slice b1 a.l.length d1] 25)).alloc (.cells #[.int .i64 b.kind, .int .i64 b.n, .string ⟨b.s.toArray⟩, .slice a2 b.keys.length c2, .slice b2 b.l.length d2] 25)) (fun _ => True) a (.agg #[.int .i64 a.kind, .int .i64 a.n, .string ⟨a.s.toArray⟩, .slice a1 a.keys.length c1, .slice b1 a.l.length d1]) ∧ In ((w.alloc (.cells #[.int .i64 a.kind, .int .i64 a.n, .string ⟨a.s.toArray⟩, .slice a1 a.keys.length c1, .slice b1 a.l.length d1] 25)).alloc (.cells #[.int .i64 b.kind, .int .i64 b.n, .string ⟨b.s.toArray⟩, .slice a2 b.keys.length c2, .slice b2 b.l.length d2] 25)) (fun _ => True) b (.agg #[.int .i64 b.kind, .int .i64 b.n, .string ⟨b.s.toArray⟩, .slice a2 b.keys.length c2, .slice b2 b.l.length d2])) ∧ Below w.heap.size w ((w.alloc (.cells #[.int .i64 a.kind, .int .i64 a.n, .string ⟨a.s.toArray⟩, .slice a1 a.keys.length c1, .slice b1 a.l.length d1] 25)).alloc (.cells #[.int .i64 b.kind, .int .i64 b.n, .string ⟨b.s.toArray⟩, .slice a2 b.keys.length c2, .slice b2 b.l.length d2] 25))) := hidI ⟨⟨h2a w _ _, h2b w _ _⟩, ⟨Ha.out.bel B0.out, Hb.out.bel B0.out⟩, B0.out⟩
  obtain ⟨x00, x01, x02, x03, x04, -⟩ := K0.out.1.1.c
  obtain ⟨x10, x11, x12, x13, x14, -⟩ := K0.out.1.2.c
  go_enter Tryd.func3, Tryd.ntmps3
  go_wp2_with fail
  refine (diff_is _ (fun _ => True) a b _ _ (by exact K0.out.2.1.1) (by exact K0.out.2.1.2)).mono ?_
  rintro e w1 ⟨r3, rfl, hb1, hr3⟩
  obtain ⟨g3, hg3⟩ : ∃ g, diffR a b = g := ⟨_, rfl⟩
  rw [hg3] at hr3 ⊢
  obtain ⟨p, ze⟩ := g3
  simp only at hr3 ⊢
  obtain ⟨a3, b3, c3, d3, rfl⟩ := hr3.form
  have HG3 := hidI hg3
  have hbb3 := bel_trans hb1 (bel_alloc w1 (.cells #[.int .i64 p.kind, .int .i64 p.n, .string ⟨p.s.toArray⟩, .slice a3 p.keys.length c3, .slice b3 p.l.length d3] 25))
  have K1 : Hid ((BoxIs (w1.alloc (.cells #[.int .i64 p.kind, .int .i64 p.n, .string ⟨p.s.toArray⟩, .slice a3 p.keys.length c3, .slice b3 p.l.length d3] 25)) w.heap.size (.int .i64 a.kind) (.int .i64 a.n) (.string ⟨a.s.toArray⟩) (.slice a1 a.keys.length c1) (.slice b1 a.l.length d1) ∧ BoxIs (w1.alloc (.cells #[.int .i64 p.kind, .int .i64 p.n, .string ⟨p.s.toArray⟩, .slice a3 p.keys.length c3, .slice b3 p.l.length d3] 25)) (w.heap.size + 1) (.int .i64 b.kind) (.int .i64 b.n) (.string ⟨b.s.toArray⟩) (.slice a2 b.keys.length c2) (.slice b2 b.l.length d2) ∧ BoxIs (w1.alloc (.cells #[.int .i64 p.kind, .int .i64 p.n, .string ⟨p.s.toArray⟩, .slice a3 p.keys.length c3, .slice b3 p.l.length d3] 25)) w1.heap.size (.int .i64 p.kind) (.int .i64 p.n) (.string ⟨p.s.toArray⟩) (.slice a3 p.keys.length c3) (.slice b3 p.l.length d3)) ∧ (In (w1.alloc (.cells #[.int .i64 p.kind, .int .i64 p.n, .string ⟨p.s.toArray⟩, .slice a3 p.keys.length c3, .slice b3 p.l.length d3] 25)) (fun _ => True) a (.agg #[.int .i64 a.kind, .int .i64 a.n, .string ⟨a.s.toArray⟩, .slice a1 a.keys.length c1, .slice b1 a.l.length d1]) ∧ In (w1.alloc (.cells #[.int .i64 p.kind, .int .i64 p.n, .string ⟨p.s.toArray⟩, .slice a3 p.keys.length c3, .slice b3 p.l.length d3] 25)) (fun _ => True) b (.agg #[.int .i64 b.kind, .int .i64 b.n, .string ⟨b.s.toArray⟩, .slice a2 b.keys.length c2, .slice b2 b.l.length d2]) ∧ In (w1.alloc (.cells #[.int .i64 p.kind, .int .i64 p.n, .string ⟨p.s.toArray⟩, .slice a3 p.keys.length c3, .slice b3 p.l.length d3] 25)) (fun _ => True) p (.agg #[.int .i64 p.kind, .int .i64 p.n, .string ⟨p.s.toArray⟩, .slice a3 p.keys.length c3, .slice b3 p.l.length d3])) ∧ Below w.heap.size w (w1.alloc (.cells #[.int .i64 p.kind, .int .i64 p.n, .string ⟨p.s.toArray⟩, .slice a3 p.keys.length c3, .slice b3 p.l.length d3] 25))) := hidI ⟨⟨box_bel hbb3 K0.out.1.1, box_bel hbb3 K0.out.1.2, heap_alloc_new w1 _⟩, ⟨K0.out.2.1.1.bel hbb3, K0.out.2.1.2.bel hbb3, (hr3.bel (bel_alloc _ _)).weak fun _ _ => trivial⟩, bel_trans K0.out.2.2 hbb3⟩
  clear hg3 hr3 hb1 hbb3 x00 x01 x02 x03 x04 x10 x11 x12 x13 x14
  obtain ⟨x00, x01, x02, x03, x04, -⟩ := K1.out.1.1.c
  obtain ⟨x10, x11, x12, x13, x14, -⟩ := K1.out.1.2.1.c
  obtain ⟨x20, x21, x22, x23, x24, -⟩ := K1.out.1.2.2.c
  by_cases hze : ze = 0
  · subst hze
    have AG : Hid (mergeR a p = (b, 0)) := hidI (diff_back HG3.out)
    go_wp2_with fail
    refine (merges_at _ (by exact HG.out.grown (gb_below (r := none) K1.out.2.2) (by simp))).mono ?_
    rintro e w2 ⟨rfl, hb2⟩
    have K2 : Hid ((BoxIs w2 w.heap.size (.int .i64 a.kind) (.int .i64 a.n) (.string ⟨a.s.toArray⟩) (.slice a1 a.keys.length c1) (.slice b1 a.l.length d1) ∧ BoxIs w2 (w.heap.size + 1) (.int .i64 b.kind) (.int .i64 b.n) (.string ⟨b.s.toArray⟩) (.slice a2 b.keys.length c2) (.slice b2 b.l.length d2) ∧ BoxIs w2 w1.heap.size (.int .i64 p.kind) (.int .i64 p.n) (.string ⟨p.s.toArray⟩) (.slice a3 p.keys.length c3) (.slice b3 p.l.length d3)) ∧ (In w2 (fun _ => True) a (.agg #[.int .i64 a.kind, .int .i64 a.n, .string ⟨a.s.toArray⟩, .slice a1 a.keys.length c1, .slice b1 a.l.length d1]) ∧ In w2 (fun _ => True) b (.agg #[.int .i64 b.kind, .int .i64 b.n, .string ⟨b.s.toArray⟩, .slice a2 b.keys.length c2, .slice b2 b.l.length d2]) ∧ In w2 (fun _ => True) p (.agg #[.int .i64 p.kind, .int .i64 p.n, .string ⟨p.s.toArray⟩, .slice a3 p.keys.length c3, .slice b3 p.l.length d3])) ∧ Below w.heap.size w w2) := hidI ⟨⟨box_bel hb2 K1.out.1.1, box_bel hb2 K1.out.1.2.1, box_bel hb2 K1.out.1.2.2⟩, ⟨K1.out.2.1.1.bel hb2, K1.out.2.1.2.1.bel hb2, K1.out.2.1.2.2.bel hb2⟩, bel_trans K1.out.2.2 hb2⟩
    clear hb2 x00 x01 x02 x03 x04 x10 x11 x12 x13 x14 x20 x21 x22 x23 x24
    obtain ⟨x00, x01, x02, x03, x04, -⟩ := K2.out.1.1.c
    obtain ⟨x10, x11, x12, x13, x14, -⟩ := K2.out.1.2.1.c
    obtain ⟨x20, x21, x22, x23, x24, -⟩ := K2.out.1.2.2.c
    go_wp2_with fail
    refine (merge_is _ (fun _ => True) a p _ _ (by exact K2.out.2.1.1) (by exact K2.out.2.1.2.2)).mono ?_
    rintro e w3 ⟨r4, rfl, hb3, hr4⟩
    obtain ⟨g4, hg4⟩ : ∃ g, mergeR a p = g := ⟨_, rfl⟩
    rw [hg4] at hr4 ⊢
    obtain ⟨y, zf⟩ := g4
    simp only at hr4 ⊢
    obtain ⟨a4, b4, c4, d4, rfl⟩ := hr4.form
    have HG4 := hidI hg4
    have hbb4 := bel_trans hb3 (bel_alloc w3 (.cells #[.int .i64 y.kind, .int .i64 y.n, .string ⟨y.s.toArray⟩, .slice a4 y.keys.length c4, .slice b4 y.l.length d4] 25))
    have K3 : Hid ((BoxIs (w3.alloc (.cells #[.int .i64 y.kind, .int .i64 y.n, .string ⟨y.s.toArray⟩, .slice a4 y.keys.length c4, .slice b4 y.l.length d4] 25)) w.heap.size (.int .i64 a.kind) (.int .i64 a.n) (.string ⟨a.s.toArray⟩) (.slice a1 a.keys.length c1) (.slice b1 a.l.length d1) ∧ BoxIs (w3.alloc (.cells #[.int .i64 y.kind, .int .i64 y.n, .string ⟨y.s.toArray⟩, .slice a4 y.keys.length c4, .slice b4 y.l.length d4] 25)) (w.heap.size + 1) (.int .i64 b.kind) (.int .i64 b.n) (.string ⟨b.s.toArray⟩) (.slice a2 b.keys.length c2) (.slice b2 b.l.length d2) ∧ BoxIs (w3.alloc (.cells #[.int .i64 y.kind, .int .i64 y.n, .string ⟨y.s.toArray⟩, .slice a4 y.keys.length c4, .slice b4 y.l.length d4] 25)) w1.heap.size (.int .i64 p.kind) (.int .i64 p.n) (.string ⟨p.s.toArray⟩) (.slice a3 p.keys.length c3) (.slice b3 p.l.length d3) ∧ BoxIs (w3.alloc (.cells #[.int .i64 y.kind, .int .i64 y.n, .string ⟨y.s.toArray⟩, .slice a4 y.keys.length c4, .slice b4 y.l.length d4] 25)) w3.heap.size (.int .i64 y.kind) (.int .i64 y.n) (.string ⟨y.s.toArray⟩) (.slice a4 y.keys.length c4) (.slice b4 y.l.length d4)) ∧ (In (w3.alloc (.cells #[.int .i64 y.kind, .int .i64 y.n, .string ⟨y.s.toArray⟩, .slice a4 y.keys.length c4, .slice b4 y.l.length d4] 25)) (fun _ => True) a (.agg #[.int .i64 a.kind, .int .i64 a.n, .string ⟨a.s.toArray⟩, .slice a1 a.keys.length c1, .slice b1 a.l.length d1]) ∧ In (w3.alloc (.cells #[.int .i64 y.kind, .int .i64 y.n, .string ⟨y.s.toArray⟩, .slice a4 y.keys.length c4, .slice b4 y.l.length d4] 25)) (fun _ => True) b (.agg #[.int .i64 b.kind, .int .i64 b.n, .string ⟨b.s.toArray⟩, .slice a2 b.keys.length c2, .slice b2 b.l.length d2]) ∧ In (w3.alloc (.cells #[.int .i64 y.kind, .int .i64 y.n, .string ⟨y.s.toArray⟩, .slice a4 y.keys.length c4, .slice b4 y.l.length d4] 25)) (fun _ => True) p (.agg #[.int .i64 p.kind, .int .i64 p.n, .string ⟨p.s.toArray⟩, .slice a3 p.keys.length c3, .slice b3 p.l.length d3]) ∧ In (w3.alloc (.cells #[.int .i64 y.kind, .int .i64 y.n, .string ⟨y.s.toArray⟩, .slice a4 y.keys.length c4, .slice b4 y.l.length d4] 25)) (fun _ => True) y (.agg #[.int .i64 y.kind, .int .i64 y.n, .string ⟨y.s.toArray⟩, .slice a4 y.keys.length c4, .slice b4 y.l.length d4])) ∧ Below w.heap.size w (w3.alloc (.cells #[.int .i64 y.kind, .int .i64 y.n, .string ⟨y.s.toArray⟩, .slice a4 y.keys.length c4, .slice b4 y.l.length d4] 25))) := hidI ⟨⟨box_bel hbb4 K2.out.1.1, box_bel hbb4 K2.out.1.2.1, box_bel hbb4 K2.out.1.2.2, heap_alloc_new w3 _⟩, ⟨K2.out.2.1.1.bel hbb4, K2.out.2.1.2.1.bel hbb4, K2.out.2.1.2.2.bel hbb4, (hr4.bel (bel_alloc _ _)).weak fun _ _ => trivial⟩, bel_trans K2.out.2.2 hbb4⟩
    clear hg4 hr4 hb3 hbb4 x00 x01 x02 x03 x04 x10 x11 x12 x13 x14 x20 x21 x22 x23 x24
    obtain ⟨x00, x01, x02, x03, x04, -⟩ := K3.out.1.1.c
    obtain ⟨x10, x11, x12, x13, x14, -⟩ := K3.out.1.2.1.c
    obtain ⟨x20, x21, x22, x23, x24, -⟩ := K3.out.1.2.2.1.c
    obtain ⟨x30, x31, x32, x33, x34, -⟩ := K3.out.1.2.2.2.c
    have hyx := HG4.out
    rw [AG.out] at hyx
    simp only [Prod.mk.injEq] at hyx
    obtain ⟨rfl, rfl⟩ := hyx
    go_wp2_with fail
    refine (same_is _ (fun _ => True) (fun _ => True) b _ _ (by exact K3.out.2.1.2.2.2) (by exact K3.out.2.1.2.1)).mono ?_
    rintro e w4 ⟨rfl, hb4⟩
    have K4 : Hid ((BoxIs w4 w.heap.size (.int .i64 a.kind) (.int .i64 a.n) (.string ⟨a.s.toArray⟩) (.slice a1 a.keys.length c1) (.slice b1 a.l.length d1) ∧ BoxIs w4 (w.heap.size + 1) (.int .i64 b.kind) (.int .i64 b.n) (.string ⟨b.s.toArray⟩) (.slice a2 b.keys.length c2) (.slice b2 b.l.length d2) ∧ BoxIs w4 w1.heap.size (.int .i64 p.kind) (.int .i64 p.n) (.string ⟨p.s.toArray⟩) (.slice a3 p.keys.length c3) (.slice b3 p.l.length d3) ∧ BoxIs w4 w3.heap.size (.int .i64 b.kind) (.int .i64 b.n) (.string ⟨b.s.toArray⟩) (.slice a4 b.keys.length c4) (.slice b4 b.l.length d4)) ∧ (In w4 (fun _ => True) a (.agg #[.int .i64 a.kind, .int .i64 a.n, .string ⟨a.s.toArray⟩, .slice a1 a.keys.length c1, .slice b1 a.l.length d1]) ∧ In w4 (fun _ => True) b (.agg #[.int .i64 b.kind, .int .i64 b.n, .string ⟨b.s.toArray⟩, .slice a2 b.keys.length c2, .slice b2 b.l.length d2]) ∧ In w4 (fun _ => True) p (.agg #[.int .i64 p.kind, .int .i64 p.n, .string ⟨p.s.toArray⟩, .slice a3 p.keys.length c3, .slice b3 p.l.length d3]) ∧ In w4 (fun _ => True) b (.agg #[.int .i64 b.kind, .int .i64 b.n, .string ⟨b.s.toArray⟩, .slice a4 b.keys.length c4, .slice b4 b.l.length d4])) ∧ Below w.heap.size w w4) := hidI ⟨⟨box_bel hb4 K3.out.1.1, box_bel hb4 K3.out.1.2.1, box_bel hb4 K3.out.1.2.2.1, box_bel hb4 K3.out.1.2.2.2⟩, ⟨K3.out.2.1.1.bel hb4, K3.out.2.1.2.1.bel hb4, K3.out.2.1.2.2.1.bel hb4, K3.out.2.1.2.2.2.bel hb4⟩, bel_trans K3.out.2.2 hb4⟩
    clear hb4 x00 x01 x02 x03 x04 x10 x11 x12 x13 x14 x20 x21 x22 x23 x24 x30 x31 x32 x33 x34
    obtain ⟨x00, x01, x02, x03, x04, -⟩ := K4.out.1.1.c
    obtain ⟨x10, x11, x12, x13, x14, -⟩ := K4.out.1.2.1.c
    obtain ⟨x20, x21, x22, x23, x24, -⟩ := K4.out.1.2.2.1.c
    obtain ⟨x30, x31, x32, x33, x34, -⟩ := K4.out.1.2.2.2.c
    go_wp2_with fail
    go_ret
    exact ⟨rfl, K4.out.2.2⟩
  · have e1 : (ze != 0) = true := by rw [bne_iff_ne]; exact hze
    have e2 : (ze == 0) = false := by rw [beq_eq_false_iff_ne]; exact hze
    have hxa := diff_err HG3.out hze
    clear hze
    have HX := hidI hxa
    clear hxa
    go_wp2_with fail
    refine (same_is _ (fun _ => True) (fun _ => True) p _ _ (by exact K1.out.2.1.2.2) (by rw [HX.out]; exact in_zero _ _)).mono ?_
    rintro e w2 ⟨rfl, hb2⟩
    have K2 : Hid ((BoxIs w2 w.heap.size (.int .i64 a.kind) (.int .i64 a.n) (.string ⟨a.s.toArray⟩) (.slice a1 a.keys.length c1) (.slice b1 a.l.length d1) ∧ BoxIs w2 (w.heap.size + 1) (.int .i64 b.kind) (.int .i64 b.n) (.string ⟨b.s.toArray⟩) (.slice a2 b.keys.length c2) (.slice b2 b.l.length d2) ∧ BoxIs w2 w1.heap.size (.int .i64 p.kind) (.int .i64 p.n) (.string ⟨p.s.toArray⟩) (.slice a3 p.keys.length c3) (.slice b3 p.l.length d3)) ∧ (In w2 (fun _ => True) a (.agg #[.int .i64 a.kind, .int .i64 a.n, .string ⟨a.s.toArray⟩, .slice a1 a.keys.length c1, .slice b1 a.l.length d1]) ∧ In w2 (fun _ => True) b (.agg #[.int .i64 b.kind, .int .i64 b.n, .string ⟨b.s.toArray⟩, .slice a2 b.keys.length c2, .slice b2 b.l.length d2]) ∧ In w2 (fun _ => True) p (.agg #[.int .i64 p.kind, .int .i64 p.n, .string ⟨p.s.toArray⟩, .slice a3 p.keys.length c3, .slice b3 p.l.length d3])) ∧ Below w.heap.size w w2) := hidI ⟨⟨box_bel hb2 K1.out.1.1, box_bel hb2 K1.out.1.2.1, box_bel hb2 K1.out.1.2.2⟩, ⟨K1.out.2.1.1.bel hb2, K1.out.2.1.2.1.bel hb2, K1.out.2.1.2.2.bel hb2⟩, bel_trans K1.out.2.2 hb2⟩
    clear hb2 x00 x01 x02 x03 x04 x10 x11 x12 x13 x14 x20 x21 x22 x23 x24
    obtain ⟨x00, x01, x02, x03, x04, -⟩ := K2.out.1.1.c
    obtain ⟨x10, x11, x12, x13, x14, -⟩ := K2.out.1.2.1.c
    obtain ⟨x20, x21, x22, x23, x24, -⟩ := K2.out.1.2.2.c
    go_wp2_with fail
    refine (merges_at _ (by exact HG.out.grown (gb_below (r := none) K2.out.2.2) (by simp))).mono ?_
    rintro e w3 ⟨rfl, hb3⟩
    have K3 : Hid ((BoxIs w3 w.heap.size (.int .i64 a.kind) (.int .i64 a.n) (.string ⟨a.s.toArray⟩) (.slice a1 a.keys.length c1) (.slice b1 a.l.length d1) ∧ BoxIs w3 (w.heap.size + 1) (.int .i64 b.kind) (.int .i64 b.n) (.string ⟨b.s.toArray⟩) (.slice a2 b.keys.length c2) (.slice b2 b.l.length d2) ∧ BoxIs w3 w1.heap.size (.int .i64 p.kind) (.int .i64 p.n) (.string ⟨p.s.toArray⟩) (.slice a3 p.keys.length c3) (.slice b3 p.l.length d3)) ∧ (In w3 (fun _ => True) a (.agg #[.int .i64 a.kind, .int .i64 a.n, .string ⟨a.s.toArray⟩, .slice a1 a.keys.length c1, .slice b1 a.l.length d1]) ∧ In w3 (fun _ => True) b (.agg #[.int .i64 b.kind, .int .i64 b.n, .string ⟨b.s.toArray⟩, .slice a2 b.keys.length c2, .slice b2 b.l.length d2]) ∧ In w3 (fun _ => True) p (.agg #[.int .i64 p.kind, .int .i64 p.n, .string ⟨p.s.toArray⟩, .slice a3 p.keys.length c3, .slice b3 p.l.length d3])) ∧ Below w.heap.size w w3) := hidI ⟨⟨box_bel hb3 K2.out.1.1, box_bel hb3 K2.out.1.2.1, box_bel hb3 K2.out.1.2.2⟩, ⟨K2.out.2.1.1.bel hb3, K2.out.2.1.2.1.bel hb3, K2.out.2.1.2.2.bel hb3⟩, bel_trans K2.out.2.2 hb3⟩
    clear hb3 x00 x01 x02 x03 x04 x10 x11 x12 x13 x14 x20 x21 x22 x23 x24
    obtain ⟨x00, x01, x02, x03, x04, -⟩ := K3.out.1.1.c
    obtain ⟨x10, x11, x12, x13, x14, -⟩ := K3.out.1.2.1.c
    obtain ⟨x20, x21, x22, x23, x24, -⟩ := K3.out.1.2.2.c
    go_wp2_with fail
    go_ret
    exact ⟨rfl, K3.out.2.2⟩

set_option maxRecDepth 100000 in
set_option maxHeartbeats 40000000 in
theorem mergeSame_walk (w : World) (oka : Nat → Prop) (da : Nat) (a : V) (va : Value) (ha : VIs w oka da a va) (hG : Glob w) :
    Calls Tryd.prog 5 #[va] w fun e w' => e = .returned (.bool true) ∧ Below w.heap.size w w' := by
  have HG := hidI hG
  have qa : In w (fun _ => True) a va := ha.is.weak fun _ _ => trivial
  have Ha := hidI qa
  obtain ⟨la1, lb1, lc1⟩ := qa.lens
  obtain ⟨a1, b1, c1, d1, rfl⟩ := qa.form
  clear qa ha
  clear hG
  have B0 : Hid (Below w.heap.size w (w.alloc (.cells #[.int .i64 a.kind, .int .i64 a.n, .string ⟨a.s.toArray⟩, .slice a1 a.keys.length c1, .slice b1 a.l.length d1] 25))) := hidI (bel_alloc _ _)
  have K0 : Hid ((BoxIs (w.alloc (.cells #[.int .i64 a.kind, .int .i64 a.n, .string ⟨a.s.toArray⟩, .slice a1 a.keys.length c1, .slice b1 a.l.length d1] 25)) w.heap.size (.int .i64 a.kind) (.int .i64 a.n) (.string ⟨a.s.toArray⟩) (.slice a1 a.keys.length c1) (.slice b1 a.l.length d1)) ∧ (In (w.alloc (.cells #[.int .i64 a.kind, .int .i64 a.n, .string ⟨a.s.toArray⟩, .slice a1 a.keys.length c1, .slice b1 a.l.length d1] 25)) (fun _ => True) a (.agg #[.int .i64 a.kind, .int .i64 a.n, .string ⟨a.s.toArray⟩, .slice a1 a.keys.length c1, .slice b1 a.l.length d1])) ∧ Below w.heap.size w (w.alloc (.cells #[.int .i64 a.kind, .int .i64 a.n, .string ⟨a.s.toArray⟩, .slice a1 a.keys.length c1, .slice b1 a.l.length d1] 25))) := hidI ⟨heap_alloc_new w _, Ha.out.bel B0.out, B0.out⟩
  obtain ⟨x00, x01, x02, x03, x04, -⟩ := K0.out.1.c
  cases gv : goodV a with
  | false =>
    have GV := hidI gv
    clear gv
    go_enter Tryd.func5, Tryd.ntmps5
    go_wp2_with fail
    refine (good_is _ (fun _ => True) a _ (by exact K0.out.2.1)).mono ?_
    rintro e w1 ⟨rfl, hb1⟩
    rw [GV.out]
    have K1 : Hid ((BoxIs w1 w.heap.size (.int .i64 a.kind) (.int .i64 a.n) (.string ⟨a.s.toArray⟩) (.slice a1 a.keys.length c1) (.slice b1 a.l.length d1)) ∧ (In w1 (fun _ => True) a (.agg #[.int .i64 a.kind, .int .i64 a.n, .string ⟨a.s.toArray⟩, .slice a1 a.keys.length c1, .slice b1 a.l.length d1])) ∧ Below w.heap.size w w1) := hidI ⟨box_bel hb1 K0.out.1, K0.out.2.1.bel hb1, bel_trans K0.out.2.2 hb1⟩
    clear hb1 x00 x01 x02 x03 x04
    obtain ⟨x00, x01, x02, x03, x04, -⟩ := K1.out.1.c
    go_wp2_with fail
    refine (merges_at _ (by exact HG.out.grown (gb_below (r := none) K1.out.2.2) (by simp))).mono ?_
    rintro e w2 ⟨rfl, hb2⟩
    have K2 : Hid ((BoxIs w2 w.heap.size (.int .i64 a.kind) (.int .i64 a.n) (.string ⟨a.s.toArray⟩) (.slice a1 a.keys.length c1) (.slice b1 a.l.length d1)) ∧ (In w2 (fun _ => True) a (.agg #[.int .i64 a.kind, .int .i64 a.n, .string ⟨a.s.toArray⟩, .slice a1 a.keys.length c1, .slice b1 a.l.length d1])) ∧ Below w.heap.size w w2) := hidI ⟨box_bel hb2 K1.out.1, K1.out.2.1.bel hb2, bel_trans K1.out.2.2 hb2⟩
    clear hb2 x00 x01 x02 x03 x04
    obtain ⟨x00, x01, x02, x03, x04, -⟩ := K2.out.1.c
    go_wp2_with fail
    go_ret
    exact ⟨rfl, K2.out.2.2⟩
  | true =>
    have GV := hidI gv
    have NV : Hid (Nice a) := hidI (nice_of gv)
    have CP : Hid (cleanF 12 a = cln a) := hidI (clean_cln 12 a (goodV_tree gv))
    clear gv
    cases gc : cln a with
    | false =>
      have GC := hidI gc
      clear gc
      go_enter Tryd.func5, Tryd.ntmps5
      go_wp2_with fail
      refine (good_is _ (fun _ => True) a _ (by exact K0.out.2.1)).mono ?_
      rintro e w1 ⟨rfl, hb1⟩
      rw [GV.out]
      have K1 : Hid ((BoxIs w1 w.heap.size (.int .i64 a.kind) (.int .i64 a.n) (.string ⟨a.s.toArray⟩) (.slice a1 a.keys.length c1) (.slice b1 a.l.length d1)) ∧ (In w1 (fun _ => True) a (.agg #[.int .i64 a.kind, .int .i64 a.n, .string ⟨a.s.toArray⟩, .slice a1 a.keys.length c1, .slice b1 a.l.length d1])) ∧ Below w.heap.size w w1) := hidI ⟨box_bel hb1 K0.out.1, K0.out.2.1.bel hb1, bel_trans K0.out.2.2 hb1⟩
      clear hb1 x00 x01 x02 x03 x04
      obtain ⟨x00, x01, x02, x03, x04, -⟩ := K1.out.1.c
      go_wp2_with fail
      refine (clean_is _ (fun _ => True) a _ (by exact K1.out.2.1) (by have := nice_cnt NV.out; omega)).mono ?_
      rintro e w2 ⟨rfl, hb2⟩
      rw [GC.out]
      have K2 : Hid ((BoxIs w2 w.heap.size (.int .i64 a.kind) (.int .i64 a.n) (.string ⟨a.s.toArray⟩) (.slice a1 a.keys.length c1) (.slice b1 a.l.length d1)) ∧ (In w2 (fun _ => True) a (.agg #[.int .i64 a.kind, .int .i64 a.n, .string ⟨a.s.toArray⟩, .slice a1 a.keys.length c1, .slice b1 a.l.length d1])) ∧ Below w.heap.size w w2) := hidI ⟨box_bel hb2 K1.out.1, K1.out.2.1.bel hb2, bel_trans K1.out.2.2 hb2⟩
      clear hb2 x00 x01 x02 x03 x04
      obtain ⟨x00, x01, x02, x03, x04, -⟩ := K2.out.1.c
      go_wp2_with fail
      refine (merges_at _ (by exact HG.out.grown (gb_below (r := none) K2.out.2.2) (by simp))).mono ?_
      rintro e w3 ⟨rfl, hb3⟩
      have K3 : Hid ((BoxIs w3 w.heap.size (.int .i64 a.kind) (.int .i64 a.n) (.string ⟨a.s.toArray⟩) (.slice a1 a.keys.length c1) (.slice b1 a.l.length d1)) ∧ (In w3 (fun _ => True) a (.agg #[.int .i64 a.kind, .int .i64 a.n, .string ⟨a.s.toArray⟩, .slice a1 a.keys.length c1, .slice b1 a.l.length d1])) ∧ Below w.heap.size w w3) := hidI ⟨box_bel hb3 K2.out.1, K2.out.2.1.bel hb3, bel_trans K2.out.2.2 hb3⟩
      clear hb3 x00 x01 x02 x03 x04
      obtain ⟨x00, x01, x02, x03, x04, -⟩ := K3.out.1.c
      go_wp2_with fail
      go_ret
      exact ⟨rfl, K3.out.2.2⟩
    | true =>
      have GC := hidI gc
      clear gc
      by_cases hk : a.kind = 5
      · have e0 : (a.kind != 5) = false := by rw [hk]; rfl
        have D0 : Hid (diffR a a = (objT, 0)) := hidI (diff_self GV.out (by rw [CP.out, GC.out]) hk)
        have M0 : Hid (mergeR a objT = (a, 0)) := hidI (merge_self GV.out hk)
        clear hk
        go_enter Tryd.func5, Tryd.ntmps5
        go_wp2_with fail
        refine (good_is _ (fun _ => True) a _ (by exact K0.out.2.1)).mono ?_
        rintro e w1 ⟨rfl, hb1⟩
        rw [GV.out]
        have K1 : Hid ((BoxIs w1 w.heap.size (.int .i64 a.kind) (.int .i64 a.n) (.string ⟨a.s.toArray⟩) (.slice a1 a.keys.length c1) (.slice b1 a.l.length d1)) ∧ (In w1 (fun _ => True) a (.agg #[.int .i64 a.kind, .int .i64 a.n, .string ⟨a.s.toArray⟩, .slice a1 a.keys.length c1, .slice b1 a.l.length d1])) ∧ Below w.heap.size w w1) := hidI ⟨box_bel hb1 K0.out.1, K0.out.2.1.bel hb1, bel_trans K0.out.2.2 hb1⟩
        clear hb1 x00 x01 x02 x03 x04
        obtain ⟨x00, x01, x02, x03, x04, -⟩ := K1.out.1.c
        go_wp2_with fail
        refine (clean_is _ (fun _ => True) a _ (by exact K1.out.2.1) (by have := nice_cnt NV.out; omega)).mono ?_
        rintro e w2 ⟨rfl, hb2⟩
        rw [GC.out]
        have K2 : Hid ((BoxIs w2 w.heap.size (.int .i64 a.kind) (.int .i64 a.n) (.string ⟨a.s.toArray⟩) (.slice a1 a.keys.length c1) (.slice b1 a.l.length d1)) ∧ (In w2 (fun _ => True) a (.agg #[.int .i64 a.kind, .int .i64 a.n, .string ⟨a.s.toArray⟩, .slice a1 a.keys.length c1, .slice b1 a.l.length d1])) ∧ Below w.heap.size w w2) := hidI ⟨box_bel hb2 K1.out.1, K1.out.2.1.bel hb2, bel_trans K1.out.2.2 hb2⟩
        clear hb2 x00 x01 x02 x03 x04
        obtain ⟨x00, x01, x02, x03, x04, -⟩ := K2.out.1.c
        go_wp2_with fail
        refine (diff_is _ (fun _ => True) a a _ _ (by exact K2.out.2.1) (by exact K2.out.2.1)).mono ?_
        rintro e w3 ⟨r2, rfl, hb3, hr2⟩
        obtain ⟨g2, hg2⟩ : ∃ g, diffR a a = g := ⟨_, rfl⟩
        rw [hg2] at hr2 ⊢
        obtain ⟨p, ze⟩ := g2
        simp only at hr2 ⊢
        obtain ⟨a2, b2, c2, d2, rfl⟩ := hr2.form
        have HG2 := hidI hg2
        have hbb2 := bel_trans hb3 (bel_alloc w3 (.cells #[.int .i64 p.kind, .int .i64 p.n, .string ⟨p.s.toArray⟩, .slice a2 p.keys.length c2, .slice b2 p.l.length d2] 25))
        have K3 : Hid ((BoxIs (w3.alloc (.cells #[.int .i64 p.kind, .int .i64 p.n, .string ⟨p.s.toArray⟩, .slice a2 p.keys.length c2, .slice b2 p.l.length d2] 25)) w.heap.size (.int .i64 a.kind) (.int .i64 a.n) (.string ⟨a.s.toArray⟩) (.slice a1 a.keys.length c1) (.slice b1 a.l.length d1) ∧ BoxIs (w3.alloc (.cells #[.int .i64 p.kind, .int .i64 p.n, .string ⟨p.s.toArray⟩, .slice a2 p.keys.length c2, .slice b2 p.l.length d2] 25)) w3.heap.size (.int .i64 p.kind) (.int .i64 p.n) (.string ⟨p.s.toArray⟩) (.slice a2 p.keys.length c2) (.slice b2 p.l.length d2)) ∧ (In (w3.alloc (.cells #[.int .i64 p.kind, .int .i64 p.n, .string ⟨p.s.toArray⟩, .slice a2 p.keys.length c2, .slice b2 p.l.length d2] 25)) (fun _ => True) a (.agg #[.int .i64 a.kind, .int .i64 a.n, .string ⟨a.s.toArray⟩, .slice a1 a.keys.length c1, .slice b1 a.l.length d1]) ∧ In (w3.alloc (.cells #[.int .i64 p.kind, .int .i64 p.n, .string ⟨p.s.toArray⟩, .slice a2 p.keys.length c2, .slice b2 p.l.length d2] 25)) (fun _ => True) p (.agg #[.int .i64 p.kind, .int .i64 p.n, .string ⟨p.s.toArray⟩, .slice a2 p.keys.length c2, .slice b2 p.l.length d2])) ∧ Below w.heap.size w (w3.alloc (.cells #[.int .i64 p.kind, .int .i64 p.n, .string ⟨p.s.toArray⟩, .slice a2 p.keys.length c2, .slice b2 p.l.length d2] 25))) := hidI ⟨⟨box_bel hbb2 K2.out.1, heap_alloc_new w3 _⟩, ⟨K2.out.2.1.bel hbb2, (hr2.bel (bel_alloc _ _)).weak fun _ _ => trivial⟩, bel_trans K2.out.2.2 hbb2⟩
        clear hg2 hr2 hb3 hbb2 x00 x01 x02 x03 x04
        obtain ⟨x00, x01, x02, x03, x04, -⟩ := K3.out.1.1.c
        obtain ⟨x10, x11, x12, x13, x14, -⟩ := K3.out.1.2.c
        have h1 := HG2.out
        rw [D0.out] at h1
        simp only [Prod.mk.injEq] at h1
        obtain ⟨rfl, rfl⟩ := h1
        go_wp2_with fail
        refine (merge_is _ (fun _ => True) a objT _ _ (by exact K3.out.2.1.1) (by exact in_leaf _ _ 5 0 (by unfold I64; omega) (by unfold I64; omega))).mono ?_
        rintro e w4 ⟨r3, rfl, hb4, hr3⟩
        obtain ⟨g3, hg3⟩ : ∃ g, mergeR a objT = g := ⟨_, rfl⟩
        rw [hg3] at hr3 ⊢
        obtain ⟨q, zf⟩ := g3
        simp only at hr3 ⊢
        obtain ⟨a3, b3, c3, d3, rfl⟩ := hr3.form
        have HG3 := hidI hg3
        have hbb3 := bel_trans hb4 (bel_alloc w4 (.cells #[.int .i64 q.kind, .int .i64 q.n, .string ⟨q.s.toArray⟩, .slice a3 q.keys.length c3, .slice b3 q.l.length d3] 25))
        have K4 : Hid ((BoxIs (w4.alloc (.cells #[.int .i64 q.kind, .int .i64 q.n, .string ⟨q.s.toArray⟩, .slice a3 q.keys.length c3, .slice b3 q.l.length d3] 25)) w.heap.size (.int .i64 a.kind) (.int .i64 a.n) (.string ⟨a.s.toArray⟩) (.slice a1 a.keys.length c1) (.slice b1 a.l.length d1) ∧ BoxIs (w4.alloc (.cells #[.int .i64 q.kind, .int .i64 q.n, .string ⟨q.s.toArray⟩, .slice a3 q.keys.length c3, .slice b3 q.l.length d3] 25)) w3.heap.size (.int .i64 objT.kind) (.int .i64 objT.n) (.string ⟨objT.s.toArray⟩) (.slice a2 objT.keys.length c2) (.slice b2 objT.l.length d2) ∧ BoxIs (w4.alloc (.cells #[.int .i64 q.kind, .int .i64 q.n, .string ⟨q.s.toArray⟩, .slice a3 q.keys.length c3, .slice b3 q.l.length d3] 25)) w4.heap.size (.int .i64 q.kind) (.int .i64 q.n) (.string ⟨q.s.toArray⟩) (.slice a3 q.keys.length c3) (.slice b3 q.l.length d3)) ∧ (In (w4.alloc (.cells #[.int .i64 q.kind, .int .i64 q.n, .string ⟨q.s.toArray⟩, .slice a3 q.keys.length c3, .slice b3 q.l.length d3] 25)) (fun _ => True) a (.agg #[.int .i64 a.kind, .int .i64 a.n, .string ⟨a.s.toArray⟩, .slice a1 a.keys.length c1, .slice b1 a.l.length d1]) ∧ In (w4.alloc (.cells #[.int .i64 q.kind, .int .i64 q.n, .string ⟨q.s.toArray⟩, .slice a3 q.keys.length c3, .slice b3 q.l.length d3] 25)) (fun _ => True) objT (.agg #[.int .i64 objT.kind, .int .i64 objT.n, .string ⟨objT.s.toArray⟩, .slice a2 objT.keys.length c2, .slice b2 objT.l.length d2]) ∧ In (w4.alloc (.cells #[.int .i64 q.kind, .int .i64 q.n, .string ⟨q.s.toArray⟩, .slice a3 q.keys.length c3, .slice b3 q.l.length d3] 25)) (fun _ => True) q (.agg #[.int .i64 q.kind, .int .i64 q.n, .string ⟨q.s.toArray⟩, .slice a3 q.keys.length c3, .slice b3 q.l.length d3])) ∧ Below w.heap.size w (w4.alloc (.cells #[.int .i64 q.kind, .int .i64 q.n, .string ⟨q.s.toArray⟩, .slice a3 q.keys.length c3, .slice b3 q.l.length d3] 25))) := hidI ⟨⟨box_bel hbb3 K3.out.1.1, box_bel hbb3 K3.out.1.2, heap_alloc_new w4 _⟩, ⟨K3.out.2.1.1.bel hbb3, K3.out.2.1.2.bel hbb3, (hr3.bel (bel_alloc _ _)).weak fun _ _ => trivial⟩, bel_trans K3.out.2.2 hbb3⟩
        clear hg3 hr3 hb4 hbb3 x00 x01 x02 x03 x04 x10 x11 x12 x13 x14
        obtain ⟨x00, x01, x02, x03, x04, -⟩ := K4.out.1.1.c
        obtain ⟨x10, x11, x12, x13, x14, -⟩ := K4.out.1.2.1.c
        obtain ⟨x20, x21, x22, x23, x24, -⟩ := K4.out.1.2.2.c
        have h2 := HG3.out
        rw [M0.out] at h2
        simp only [Prod.mk.injEq] at h2
        obtain ⟨rfl, rfl⟩ := h2
        have e5 : objT.kind = 5 := rfl
        have e6 : objT.l.length = 0 := rfl
        rw [e5] at x10
        rw [e6] at x14
        go_wp2_with fail
        refine (same_is _ (fun _ => True) (fun _ => True) a _ _ (by exact K4.out.2.1.2.2) (by exact K4.out.2.1.1)).mono ?_
        rintro e w5 ⟨rfl, hb5⟩
        have K5 : Hid ((BoxIs w5 w.heap.size (.int .i64 a.kind) (.int .i64 a.n) (.string ⟨a.s.toArray⟩) (.slice a1 a.keys.length c1) (.slice b1 a.l.length d1) ∧ BoxIs w5 w3.heap.size (.int .i64 objT.kind) (.int .i64 objT.n) (.string ⟨objT.s.toArray⟩) (.slice a2 objT.keys.length c2) (.slice b2 objT.l.length d2) ∧ BoxIs w5 w4.heap.size (.int .i64 a.kind) (.int .i64 a.n) (.string ⟨a.s.toArray⟩) (.slice a3 a.keys.length c3) (.slice b3 a.l.length d3)) ∧ (In w5 (fun _ => True) a (.agg #[.int .i64 a.kind, .int .i64 a.n, .string ⟨a.s.toArray⟩, .slice a1 a.keys.length c1, .slice b1 a.l.length d1]) ∧ In w5 (fun _ => True) objT (.agg #[.int .i64 objT.kind, .int .i64 objT.n, .string ⟨objT.s.toArray⟩, .slice a2 objT.keys.length c2, .slice b2 objT.l.length d2]) ∧ In w5 (fun _ => True) a (.agg #[.int .i64 a.kind, .int .i64 a.n, .string ⟨a.s.toArray⟩, .slice a3 a.keys.length c3, .slice b3 a.l.length d3])) ∧ Below w.heap.size w w5) := hidI ⟨⟨box_bel hb5 K4.out.1.1, box_bel hb5 K4.out.1.2.1, box_bel hb5 K4.out.1.2.2⟩, ⟨K4.out.2.1.1.bel hb5, K4.out.2.1.2.1.bel hb5, K4.out.2.1.2.2.bel hb5⟩, bel_trans K4.out.2.2 hb5⟩
        clear hb5 x00 x01 x02 x03 x04 x10 x11 x12 x13 x14 x20 x21 x22 x23 x24
        obtain ⟨x00, x01, x02, x03, x04, -⟩ := K5.out.1.1.c
        obtain ⟨x10, x11, x12, x13, x14, -⟩ := K5.out.1.2.1.c
        obtain ⟨x20, x21, x22, x23, x24, -⟩ := K5.out.1.2.2.c
        go_wp2_with fail
        refine (merges_at _ (by exact HG.out.grown (gb_below (r := none) K5.out.2.2) (by simp))).mono ?_
        rintro e w6 ⟨rfl, hb6⟩
        have K6 : Hid ((BoxIs w6 w.heap.size (.int .i64 a.kind) (.int .i64 a.n) (.string ⟨a.s.toArray⟩) (.slice a1 a.keys.length c1) (.slice b1 a.l.length d1) ∧ BoxIs w6 w3.heap.size (.int .i64 objT.kind) (.int .i64 objT.n) (.string ⟨objT.s.toArray⟩) (.slice a2 objT.keys.length c2) (.slice b2 objT.l.length d2) ∧ BoxIs w6 w4.heap.size (.int .i64 a.kind) (.int .i64 a.n) (.string ⟨a.s.toArray⟩) (.slice a3 a.keys.length c3) (.slice b3 a.l.length d3)) ∧ (In w6 (fun _ => True) a (.agg #[.int .i64 a.kind, .int .i64 a.n, .string ⟨a.s.toArray⟩, .slice a1 a.keys.length c1, .slice b1 a.l.length d1]) ∧ In w6 (fun _ => True) objT (.agg #[.int .i64 objT.kind, .int .i64 objT.n, .string ⟨objT.s.toArray⟩, .slice a2 objT.keys.length c2, .slice b2 objT.l.length d2]) ∧ In w6 (fun _ => True) a (.agg #[.int .i64 a.kind, .int .i64 a.n, .string ⟨a.s.toArray⟩, .slice a3 a.keys.length c3, .slice b3 a.l.length d3])) ∧ Below w.heap.size w w6) := hidI ⟨⟨box_bel hb6 K5.out.1.1, box_bel hb6 K5.out.1.2.1, box_bel hb6 K5.out.1.2.2⟩, ⟨K5.out.2.1.1.bel hb6, K5.out.2.1.2.1.bel hb6, K5.out.2.1.2.2.bel hb6⟩, bel_trans K5.out.2.2 hb6⟩
        clear hb6 x00 x01 x02 x03 x04 x10 x11 x12 x13 x14 x20 x21 x22 x23 x24
        obtain ⟨x00, x01, x02, x03, x04, -⟩ := K6.out.1.1.c
        obtain ⟨x10, x11, x12, x13, x14, -⟩ := K6.out.1.2.1.c
        obtain ⟨x20, x21, x22, x23, x24, -⟩ := K6.out.1.2.2.c
        go_wp2_with fail
        go_ret
        exact ⟨rfl, K6.out.2.2⟩
      · have e0 : (a.kind != 5) = true := by rw [bne_iff_ne]; exact hk
        clear hk
        go_enter Tryd.func5, Tryd.ntmps5
        go_wp2_with fail
        refine (good_is _ (fun _ => True) a _ (by exact K0.out.2.1)).mono ?_
        rintro e w1 ⟨rfl, hb1⟩
        rw [GV.out]
        have K1 : Hid ((BoxIs w1 w.heap.size (.int .i64 a.kind) (.int .i64 a.n) (.string ⟨a.s.toArray⟩) (.slice a1 a.keys.length c1) (.slice b1 a.l.length d1)) ∧ (In w1 (fun _ => True) a (.agg #[.int .i64 a.kind, .int .i64 a.n, .string ⟨a.s.toArray⟩, .slice a1 a.keys.length c1, .slice b1 a.l.length d1])) ∧ Below w.heap.size w w1) := hidI ⟨box_bel hb1 K0.out.1, K0.out.2.1.bel hb1, bel_trans K0.out.2.2 hb1⟩
        clear hb1 x00 x01 x02 x03 x04
        obtain ⟨x00, x01, x02, x03, x04, -⟩ := K1.out.1.c
        go_wp2_with fail
        refine (clean_is _ (fun _ => True) a _ (by exact K1.out.2.1) (by have := nice_cnt NV.out; omega)).mono ?_
        rintro e w2 ⟨rfl, hb2⟩
        rw [GC.out]
        have K2 : Hid ((BoxIs w2 w.heap.size (.int .i64 a.kind) (.int .i64 a.n) (.string ⟨a.s.toArray⟩) (.slice a1 a.keys.length c1) (.slice b1 a.l.length d1)) ∧ (In w2 (fun _ => True) a (.agg #[.int .i64 a.kind, .int .i64 a.n, .string ⟨a.s.toArray⟩, .slice a1 a.keys.length c1, .slice b1 a.l.length d1])) ∧ Below w.heap.size w w2) := hidI ⟨box_bel hb2 K1.out.1, K1.out.2.1.bel hb2, bel_trans K1.out.2.2 hb2⟩
        clear hb2 x00 x01 x02 x03 x04
        obtain ⟨x00, x01, x02, x03, x04, -⟩ := K2.out.1.c
        go_wp2_with fail
        refine (merges_at _ (by exact HG.out.grown (gb_below (r := none) K2.out.2.2) (by simp))).mono ?_
        rintro e w3 ⟨rfl, hb3⟩
        have K3 : Hid ((BoxIs w3 w.heap.size (.int .i64 a.kind) (.int .i64 a.n) (.string ⟨a.s.toArray⟩) (.slice a1 a.keys.length c1) (.slice b1 a.l.length d1)) ∧ (In w3 (fun _ => True) a (.agg #[.int .i64 a.kind, .int .i64 a.n, .string ⟨a.s.toArray⟩, .slice a1 a.keys.length c1, .slice b1 a.l.length d1])) ∧ Below w.heap.size w w3) := hidI ⟨box_bel hb3 K2.out.1, K2.out.2.1.bel hb3, bel_trans K2.out.2.2 hb3⟩
        clear hb3 x00 x01 x02 x03 x04
        obtain ⟨x00, x01, x02, x03, x04, -⟩ := K3.out.1.c
        go_wp2_with fail
        go_ret
        exact ⟨rfl, K3.out.2.2⟩
end Go.Proofs.YthaoelchpaofkadDoor

set_option linter.unusedSimpArgs false
set_option linter.unusedVariables false
namespace Go.Proofs.YthaoelchpaofkadDoor.mergeDiffs
open Go.ChangeShapes Go.WideShapes Go.ChangeAt Go.RowKit
open Go.ChangeMaps (open_string shut_string)

set_option maxRecDepth 100000 in
theorem contract (H : Type) (enc : TypeId × Value → H) (W : World) (base : Nat) (args : Array Value) (ds gs : List (DataW H)) (before : List MemPlace)
    (hval : ∀ (j : Nat) t v, Tryd.f3.params[j]? = some t → args[j]? = some v → Value.okWide Tryd.prog W .any base t v)
    (hW : DataW.Whole enc Tryd.prog Tryd.f3.params.toList Rows.mergeDiffsSpec.vars false W args.toList ds gs before)
    (hZ : (DataW.weightsEach Tryd.prog (Tryd.f3.params.toList ++ (OpenSpec.ofChange Rows.mergeDiffsSpec).bare.plain.varTypes Tryd.prog) (ds ++ gs)).all (· ≤ reachBytes) = true) (hL : laidMet Tryd.prog laidAll W) :
    Calls Tryd.prog 3 args W fun e W' => ∃ v, e = .returned v ∧ Rows.mergeDiffsSpec.post enc Tryd.prog Tryd.f3 false true false false W args v W' := by
  have hW' := hW
  obtain ⟨p, q, hA0, hV, rfl, hfz, hnd⟩ := hW
  have hA : DataW.TrodAll enc Tryd.prog W 0 (fun _ => true) true Tryd.f3.params.toList args.toList ds p := hA0
  rw [Tryd.params3] at hA hval
  obtain ⟨v0, vs0, d0, ds0, p0, q0, hargs0, rfl, rfl, h0, r0⟩ := trodAll_cons hA
  obtain ⟨v1, vs1, d1, ds1, p1, q1, hargs1, rfl, rfl, h1, r1⟩ := trodAll_cons r0
  obtain ⟨rfl, rfl, rfl⟩ := trodAll_nil r1
  subst hargs1
  have hargs : args = #[v0, v1] := by
    obtain ⟨l⟩ := args
    exact congrArg Array.mk hargs0
  subst hargs
  obtain ⟨rfl, rfl⟩ := trodVars_none hV
  have k0 : Value.okWide Tryd.prog W .any base 25 v0 := hval 0 _ _ (by simp) (by simp)
  have k1 : Value.okWide Tryd.prog W .any base 25 v1 := hval 1 _ _ (by simp) (by simp)
  obtain ⟨f0, t0, hv0⟩ := arg_value k0 h0
  obtain ⟨f1, t1, hv1⟩ := arg_value k1 h1
  clear hA0
  simp only [List.append_nil] at hW'
  have walk := mergeDiffs_walk W (fun _ => True) f0 t0 v0 hv0 (fun _ => True) f1 t1 v1 hv1 (glob_of hL)
  refine walk.mono fun e W' ⟨he, hg⟩ => ?_
  subst he
  have ef : Rows.mergeDiffsSpec.fn H ([d0, d1] ++ []) = { results := [.lit (.bool true)], args := [d0, d1] } := rfl
  refine ⟨_, rfl, _, _, _, [], (p0 ++ (p1 ++ [])), [], hW', ?_, ?_, ?_, hg.frame _, fun h => by cases h⟩
  · rw [ef]; exact trodAll_mk1 (shut_bool Tryd.underlying4 _)
  · rw [ef, Tryd.params3]; exact trodAll_cons_mk (Below.trod laidOut readableV rowedV h0 hg (trod_old h0)) (trodAll_cons_mk (Below.trod laidOut readableV rowedV h1 hg (trod_old h1)) (trodAll_mk0))
  · rw [ef]; rfl

set_option maxRecDepth 100000 in
theorem reads (os : Os) {H : Type} (enc : TypeId × Value → H) : ∃ places, DataW.whole enc Tryd.prog ((laidWorld os).forCall (fun _ _ => 0) ⟨#[], #[.agg #[.int .i64 0, .int .i64 0, .string ⟨#[]⟩, .slice none 0 0, .slice none 0 0], .agg #[.int .i64 0, .int .i64 0, .string ⟨#[]⟩, .slice none 0 0, .slice none 0 0]], []⟩).memory Tryd.f3.params.toList Rows.mergeDiffsSpec.vars false #[Value.agg #[.int .i64 0, .int .i64 0, .string ⟨#[]⟩, .slice none 0 0, .slice none 0 0], Value.agg #[.int .i64 0, .int .i64 0, .string ⟨#[]⟩, .slice none 0 0, .slice none 0 0]].toList 8 = some ([.agg [.lit (.int .i64 0), .lit (.int .i64 0), .lit (.string []), .nil, .nil], .agg [.lit (.int .i64 0), .lit (.int .i64 0), .lit (.string []), .nil, .nil]], [], places) :=
  ⟨[], by kernel_rfl⟩

set_option maxRecDepth 100000 in
theorem lifted (os : Os) (started : os.Started) (H : Type) (enc : TypeId × Value → H) (F : Stop.Interp) :
    ReturnsInHanded {} Tryd.checked os 3 .any ((OpenSpec.ofChange Rows.mergeDiffsSpec).preRow enc Tryd.prog Tryd.f3 Rows.mergeDiffsRow.domain false Rows.mergeDiffsRow.laid) (((OpenSpec.ofChange Rows.mergeDiffsSpec).at F).post enc Tryd.prog Tryd.f3 false true false false) := by
  obtain ⟨places, hx⟩ := reads os enc
  refine returnsInHanded_of_row (C := Tryd.checked) (s := OpenSpec.ofChange Rows.mergeDiffsSpec) own started (by kernel_rfl) Tryd.func3
    (witness_row_at (enc := enc) (C := Tryd.checked) false (laidWorld os) #[.agg #[.int .i64 0, .int .i64 0, .string ⟨#[]⟩, .slice none 0 0, .slice none 0 0], .agg #[.int .i64 0, .int .i64 0, .string ⟨#[]⟩, .slice none 0 0, .slice none 0 0]] rfl (by kernel_rfl) (by kernel_rfl) (by kernel_rfl)
      (OpenSpec.preRow_of_cond 8 hx (by kernel_rfl) (fun k hk => by cases hk) (by kernel_rfl) (laid_met os _))) ?_
  intro W base args ds gs before hval hW _ _ hZ hL _ _
  exact contract H enc W base args ds gs before hval hW hZ hL

theorem said : Rows.MergeDiffsSaid :=
  OpenClaim.holds_of_cond 3 Tryd.f3 rfl rfl rfl rfl rfl rfl rfl ⟨rfl, rfl, rfl, rfl, rfl⟩ rfl rfl rfl rfl rfl (by kernel_rfl) Tryd.func3 (by kernel_rfl)
    (of_decide_eq_true (by kernel_rfl)) (by unfold Func.isWrapper; first | (rw [if_pos (by decide +kernel)]; kernel_rfl) | (rw [if_neg (by decide +kernel)]; exact ⟨rfl, rfl⟩))
    (fun os started H enc _ F => by rw [OpenClaim.pre_eq_preRow]; exact lifted os started H enc F)

theorem plain (f : FuncId) (fn : Func) (hf : Tryd.pinned.checked.prog.funcNamed "stairwell/stairwellkeep.MergeDiffs" = some f) (hfn : Tryd.pinned.checked.prog.funcs[f]? = some fn) :
    true = Tryd.pinned.checked.prog.looks [] ∧ ∀ (j : Nat) t, fn.params[j]? = some t → Tryd.pinned.checked.prog.wantsStandIn t = false := by
  obtain rfl : f = 3 := Option.some.inj ((show Tryd.prog.funcNamed "stairwell/stairwellkeep.MergeDiffs" = some 3 by kernel_rfl).symm.trans hf) |>.symm
  obtain rfl : fn = Tryd.f3 := (Option.some.inj (Tryd.func3.symm.trans hfn)).symm
  refine ⟨by kernel_rfl, fun j t ht => ?_⟩
  rw [Tryd.params3] at ht
  have hm := Array.mem_of_getElem? ht
  simp only [Array.mem_def, List.mem_cons, List.not_mem_nil, or_false] at hm
  rcases hm with rfl | rfl
  · exact (show Tryd.prog.wantsStandIn 25 = false by kernel_rfl)
  · exact (show Tryd.prog.wantsStandIn 25 = false by kernel_rfl)

theorem card : Rows.MergeDiffsCardSaid :=
  Claim7.holds_tied_plain_at .later [] _ _ _ _ said (fun _ h => by cases h) (by kernel_rfl) (fun _ h => by cases h) mergeDiffs_row_tie rfl ⟨rfl, rfl⟩ (by kernel_rfl) rfl plain (by kernel_rfl)
end Go.Proofs.YthaoelchpaofkadDoor.mergeDiffs
