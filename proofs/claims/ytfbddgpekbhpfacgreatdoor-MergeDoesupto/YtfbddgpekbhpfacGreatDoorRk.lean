/- What value of json's reader does: what valS says. -/
import Derived.Test.YtfbddgpekbhpfacGreatDoorRj
set_option linter.unusedSimpArgs false
set_option linter.unusedVariables false
namespace Go.Proofs.YtfbddgpekbhpfacGreatDoor
open Go.RowKit

theorem spaces_st (w : World) (b : Nat) (s : ByteArray) (st : Option (List UInt8)) (h : RdSt w b s st) :
    Calls Tryz.prog 32 #[.pointer (some ⟨b, 0, none⟩)] w fun e w' => e = .returned (.tuple #[]) ∧ RdSt w' b s (st.map (List.dropWhile isSp)) ∧ w.grownBy w' (some b) := by
  refine (spaces_at w b s _ _ h).mono ?_
  rintro e w' ⟨he, hr, hg⟩
  refine ⟨he, ?_, hg⟩
  cases st with
  | none => exact hr
  | some l => exact hr
theorem valS_next (f : Nat) (st : Option (List UInt8)) : st.bind (valS (f + 1)) = (st.map (List.dropWhile isSp)).bind (oneS (valS f)) := by cases st <;> rfl
theorem hd_ne {l : List UInt8} {c : UInt8} {m : Int} (hm : m = (c.toNat : Int)) (h : hd0 l ≠ c) : (((hd0 l).toNat : Int) == m) = false := u8_ne hm h
theorem hd_eq {l : List UInt8} {c : UInt8} {m : Int} (hm : m = (c.toNat : Int)) (h : hd0 l = c) : (((hd0 l).toNat : Int) == m) = true := by rw [h, hm]; simp

/- The answer, put into the result's block. -/
theorem val_fin {f : Nat} {w w3 : World} {b : Nat} {s : ByteArray} {st st' : Option (List UInt8)} {t : V} {a7 a8 : Option Addr} {c7 c8 : Nat} (hbl : b < w.heap.size) (hv : VIs w3 (fun k => w.heap.size + 1 ≤ k) (f + 1) t (.agg #[.int .i64 t.kind, .int .i64 t.n, .string ⟨t.s.toArray⟩, .slice a7 t.keys.length c7, .slice a8 t.l.length c8]))
    (hst : st.bind (valS (f + 1)) = st'.map (fun l => (t, l))) (hr : RdSt w3 b s st') (hg : w.grownBy w3 (some b)) (hbx : BoxIs w3 w.heap.size (.int .i64 0) (.int .i64 0) (.string ⟨#[]⟩) (.slice none 0 0) (.slice none 0 0)) :
    BoxIs (set5 w3 w.heap.size (.int .i64 t.kind) (.int .i64 t.n) (.string ⟨t.s.toArray⟩) (.slice a7 t.keys.length c7) (.slice a8 t.l.length c8)) w.heap.size (.int .i64 t.kind) (.int .i64 t.n) (.string ⟨t.s.toArray⟩) (.slice a7 t.keys.length c7) (.slice a8 t.l.length c8) ∧ VIs (set5 w3 w.heap.size (.int .i64 t.kind) (.int .i64 t.n) (.string ⟨t.s.toArray⟩) (.slice a7 t.keys.length c7) (.slice a8 t.l.length c8)) (fun k => w.heap.size ≤ k) (f + 1) t (.agg #[.int .i64 t.kind, .int .i64 t.n, .string ⟨t.s.toArray⟩, .slice a7 t.keys.length c7, .slice a8 t.l.length c8]) ∧ RdSt (set5 w3 w.heap.size (.int .i64 t.kind) (.int .i64 t.n) (.string ⟨t.s.toArray⟩) (.slice a7 t.keys.length c7) (.slice a8 t.l.length c8)) b s st' ∧ w.grownBy (set5 w3 w.heap.size (.int .i64 t.kind) (.int .i64 t.n) (.string ⟨t.s.toArray⟩) (.slice a7 t.keys.length c7) (.slice a8 t.l.length c8)) (some b) := by
  have g5 := set5_gb w3 w.heap.size (.int .i64 t.kind) (.int .i64 t.n) (.string ⟨t.s.toArray⟩) (.slice a7 t.keys.length c7) (.slice a8 t.l.length c8)
  exact ⟨hbx.set _ _ _ _ _, (hv.grown g5 (fun k hk e => by simp at e; omega)).weak (fun k hk => by omega), hr.of_heap (g5.block b hr.lt (by simp; omega)), gb_own hg g5 (by intro k hk; cases hk; exact Nat.le_refl _)⟩

set_option maxRecDepth 100000 in
set_option maxHeartbeats 8000000 in
theorem value_succ (hW : WithC) (f : Nat) (ih : ValC f) : ValC (f + 1) := by
  intro w b s st h hG hb4 hlen
  have H := hidI h
  have HG := hidI hG
  have IH := hidI ih
  have HW := hidI hW
  have hbl := h.lt
  clear h hG ih hW
  go_enter Tryz.func31, Tryz.ntmps31
  go_wp2_with fail
  refine (spaces_st _ b s st (by exact H.out.grown (World.grownBy_alloc w _ none) (by simp))).mono ?_
  rintro e w1 ⟨rfl, h1, hg1⟩
  have K1 : Hid (RdSt w1 b s (st.map (List.dropWhile isSp)) ∧ w.grownBy w1 (some b) ∧ BoxIs w1 w.heap.size (.int .i64 0) (.int .i64 0) (.string ⟨#[]⟩) (.slice none 0 0) (.slice none 0 0) ∧ Glob w1) := by
    have g := gb_trans (gb_alloc (gb_refl w (some b)) _) hg1
    exact ⟨h1, g, BoxIs.grown (heap_alloc_new w _) hg1 (by simp; omega), HG.out.grown g (by intro k hk; cases hk; exact hb4)⟩
  clear h1 hg1
  go_wp2_with fail
  refine (ahead_at _ b s ((st.map (List.dropWhile isSp)).getD []) (st.map (List.dropWhile isSp)).isNone (by exact K1.out.1)).mono ?_
  rintro e w2 ⟨rfl, n2, hw2⟩
  have K2 : Hid (RdSt w2 b s (st.map (List.dropWhile isSp)) ∧ w.grownBy w2 (some b) ∧ BoxIs w2 w.heap.size (.int .i64 0) (.int .i64 0) (.string ⟨#[]⟩) (.slice none 0 0) (.slice none 0 0) ∧ Glob w2) := by
    rw [hw2]; exact ⟨K1.out.1.of_heap rfl, gb_drewN K1.out.2.1 _, K1.out.2.2.1, K1.out.2.2.2.same rfl⟩
  have hsz2 : w.heap.size + 1 ≤ w2.heap.size := K2.out.2.2.1.lt
  clear hw2 K1
  have N : Hid (st.bind (valS (f + 1)) = (st.map (List.dropWhile isSp)).bind (oneS (valS f))) := valS_next f st
  have hlen2 : Hid ((((st.map (List.dropWhile isSp)).getD []).length < f + 1)) := by
    show _ < _
    cases st with
    | none => simp
    | some l => have := dropSp_len l; simp only [Option.getD_some, Option.map_some] at hlen ⊢; omega
  obtain ⟨st1, hst1⟩ : ∃ st1, st1 = st.map (List.dropWhile isSp) := ⟨_, rfl⟩
  rw [← hst1] at K2 N hlen2 ⊢
  have HST := hidI hst1
  clear hst1
  by_cases q110 : hd0 (st1.getD []) = 110
  · have d := hd_eq (m := 110) rfl q110
    have E : Hid (st1.bind (oneS (valS f)) = (st1.bind (wordS [110, 117, 108, 108])).map fun r => (leafV 0 0 [], r)) := by
      cases st1 with
      | none => rfl
      | some l =>
        have q : hd0 l = 110 := q110
        show oneS (valS f) l = _
        simp only [oneS, q]
        rfl
    go_wp2_with fail
    refine (word_st _ b s st1 ⟨#[110, 117, 108, 108]⟩ 0 0 (by unfold I64; omega) (by unfold I64; omega) (by decide) (by decide) (by exact K2.out.1)).mono ?_
    rintro e w3 ⟨t, v, st3, rfl, ⟨kk, nn, rfl, rfl, hkk, hnn⟩, hst3, hr3, hg3⟩
    have HSTF : Hid (st.bind (valS (f + 1)) = st3.map (fun l => (leafV kk nn [], l))) := by show _ = _; rw [N.out, E.out]; exact hst3
    have HBX : BoxIs w3 w.heap.size (.int .i64 0) (.int .i64 0) (.string ⟨#[]⟩) (.slice none 0 0) (.slice none 0 0) := K2.out.2.2.1.grown hg3 (by simp; omega)
    have HVV : VIs w3 (fun k => w.heap.size + 1 ≤ k) (f + 1) (leafV kk nn []) (leaf kk nn []) := leaf_is _ _ f _ _ _ hkk hnn (by simp)
    have HGG := gb_trans K2.out.2.1 hg3
    have HRR := hr3
    have HST2 := HSTF.out
    clear hst3 hr3 hg3
    unfold leaf str
    have FIN := hidI (val_fin (f := f) (a7 := none) (a8 := none) (c7 := 0) (c8 := 0) hbl HVV HST2 HRR HGG HBX)
    obtain ⟨x0, x1, x2, x3, x4, y0, y1, y2, y3, y4⟩ := HBX.c
    obtain ⟨z0, z1, z2, z3, z4, -⟩ := (HBX.set (.int .i64 kk) (.int .i64 nn) (.string ⟨#[]⟩) (.slice none 0 0) (.slice none 0 0)).c
    clear HVV HST2 HRR HGG HBX
    have Z : Hid (_ ∧ _ ∧ _ ∧ _ ∧ _) := ⟨z0, z1, z2, z3, z4⟩
    clear z0 z1 z2 z3 z4
    go_wp2_with fail
    obtain ⟨z0, z1, z2, z3, z4⟩ := Z.out
    refine bodyPost_ret (v := leaf kk nn []) ?_ rfl ?_
    · simp only [set5] at z0 z1 z2 z3 z4
      simp [results, Tryz.results31, go_sem, z0, z1, z2, z3, z4, leaf, leafV, str]
    · exact ⟨leafV kk nn [], st3, none, none, 0, 0, rfl, FIN.out.2.1, HSTF.out, FIN.out.2.2.1, FIN.out.2.2.2⟩
  have n110 := hd_ne (m := 110) rfl q110
  by_cases q102 : hd0 (st1.getD []) = 102
  · have d := hd_eq (m := 102) rfl q102
    have E : Hid (st1.bind (oneS (valS f)) = (st1.bind (wordS [102, 97, 108, 115, 101])).map fun r => (leafV 1 0 [], r)) := by
      cases st1 with
      | none => rfl
      | some l =>
        have q : hd0 l = 102 := q102
        show oneS (valS f) l = _
        simp only [oneS, q]
        rfl
    go_wp2_with fail
    refine (word_st _ b s st1 ⟨#[102, 97, 108, 115, 101]⟩ 1 0 (by unfold I64; omega) (by unfold I64; omega) (by decide) (by decide) (by exact K2.out.1)).mono ?_
    rintro e w3 ⟨t, v, st3, rfl, ⟨kk, nn, rfl, rfl, hkk, hnn⟩, hst3, hr3, hg3⟩
    have HSTF : Hid (st.bind (valS (f + 1)) = st3.map (fun l => (leafV kk nn [], l))) := by show _ = _; rw [N.out, E.out]; exact hst3
    have HBX : BoxIs w3 w.heap.size (.int .i64 0) (.int .i64 0) (.string ⟨#[]⟩) (.slice none 0 0) (.slice none 0 0) := K2.out.2.2.1.grown hg3 (by simp; omega)
    have HVV : VIs w3 (fun k => w.heap.size + 1 ≤ k) (f + 1) (leafV kk nn []) (leaf kk nn []) := leaf_is _ _ f _ _ _ hkk hnn (by simp)
    have HGG := gb_trans K2.out.2.1 hg3
    have HRR := hr3
    have HST2 := HSTF.out
    clear hst3 hr3 hg3
    unfold leaf str
    have FIN := hidI (val_fin (f := f) (a7 := none) (a8 := none) (c7 := 0) (c8 := 0) hbl HVV HST2 HRR HGG HBX)
    obtain ⟨x0, x1, x2, x3, x4, y0, y1, y2, y3, y4⟩ := HBX.c
    obtain ⟨z0, z1, z2, z3, z4, -⟩ := (HBX.set (.int .i64 kk) (.int .i64 nn) (.string ⟨#[]⟩) (.slice none 0 0) (.slice none 0 0)).c
    clear HVV HST2 HRR HGG HBX
    have Z : Hid (_ ∧ _ ∧ _ ∧ _ ∧ _) := ⟨z0, z1, z2, z3, z4⟩
    clear z0 z1 z2 z3 z4
    go_wp2_with fail
    obtain ⟨z0, z1, z2, z3, z4⟩ := Z.out
    refine bodyPost_ret (v := leaf kk nn []) ?_ rfl ?_
    · simp only [set5] at z0 z1 z2 z3 z4
      simp [results, Tryz.results31, go_sem, z0, z1, z2, z3, z4, leaf, leafV, str]
    · exact ⟨leafV kk nn [], st3, none, none, 0, 0, rfl, FIN.out.2.1, HSTF.out, FIN.out.2.2.1, FIN.out.2.2.2⟩
  have n102 := hd_ne (m := 102) rfl q102
  by_cases q116 : hd0 (st1.getD []) = 116
  · have d := hd_eq (m := 116) rfl q116
    have E : Hid (st1.bind (oneS (valS f)) = (st1.bind (wordS [116, 114, 117, 101])).map fun r => (leafV 1 1 [], r)) := by
      cases st1 with
      | none => rfl
      | some l =>
        have q : hd0 l = 116 := q116
        show oneS (valS f) l = _
        simp only [oneS, q]
        rfl
    go_wp2_with fail
    refine (word_st _ b s st1 ⟨#[116, 114, 117, 101]⟩ 1 1 (by unfold I64; omega) (by unfold I64; omega) (by decide) (by decide) (by exact K2.out.1)).mono ?_
    rintro e w3 ⟨t, v, st3, rfl, ⟨kk, nn, rfl, rfl, hkk, hnn⟩, hst3, hr3, hg3⟩
    have HSTF : Hid (st.bind (valS (f + 1)) = st3.map (fun l => (leafV kk nn [], l))) := by show _ = _; rw [N.out, E.out]; exact hst3
    have HBX : BoxIs w3 w.heap.size (.int .i64 0) (.int .i64 0) (.string ⟨#[]⟩) (.slice none 0 0) (.slice none 0 0) := K2.out.2.2.1.grown hg3 (by simp; omega)
    have HVV : VIs w3 (fun k => w.heap.size + 1 ≤ k) (f + 1) (leafV kk nn []) (leaf kk nn []) := leaf_is _ _ f _ _ _ hkk hnn (by simp)
    have HGG := gb_trans K2.out.2.1 hg3
    have HRR := hr3
    have HST2 := HSTF.out
    clear hst3 hr3 hg3
    unfold leaf str
    have FIN := hidI (val_fin (f := f) (a7 := none) (a8 := none) (c7 := 0) (c8 := 0) hbl HVV HST2 HRR HGG HBX)
    obtain ⟨x0, x1, x2, x3, x4, y0, y1, y2, y3, y4⟩ := HBX.c
    obtain ⟨z0, z1, z2, z3, z4, -⟩ := (HBX.set (.int .i64 kk) (.int .i64 nn) (.string ⟨#[]⟩) (.slice none 0 0) (.slice none 0 0)).c
    clear HVV HST2 HRR HGG HBX
    have Z : Hid (_ ∧ _ ∧ _ ∧ _ ∧ _) := ⟨z0, z1, z2, z3, z4⟩
    clear z0 z1 z2 z3 z4
    go_wp2_with fail
    obtain ⟨z0, z1, z2, z3, z4⟩ := Z.out
    refine bodyPost_ret (v := leaf kk nn []) ?_ rfl ?_
    · simp only [set5] at z0 z1 z2 z3 z4
      simp [results, Tryz.results31, go_sem, z0, z1, z2, z3, z4, leaf, leafV, str]
    · exact ⟨leafV kk nn [], st3, none, none, 0, 0, rfl, FIN.out.2.1, HSTF.out, FIN.out.2.2.1, FIN.out.2.2.2⟩
  have n116 := hd_ne (m := 116) rfl q116
  by_cases q34 : hd0 (st1.getD []) = 34
  · have d := hd_eq (m := 34) rfl q34
    have E : Hid (st1.bind (oneS (valS f)) = (st1.bind quotS).map fun p => (leafV 3 0 p.1, p.2)) := by
      cases st1 with
      | none => rfl
      | some l =>
        show oneS (valS f) l = _
        simp only [oneS, if_neg (show ¬ hd0 l = 110 from q110), if_neg (show ¬ hd0 l = 102 from q102), if_neg (show ¬ hd0 l = 116 from q116), if_pos (show hd0 l = 34 from q34)]
        rfl
    go_wp2_with fail
    refine (quoted_st _ b s st1 (by exact K2.out.1)).mono ?_
    rintro e w3 ⟨t, st3, rfl, hst3, hkl, hr3, hg3⟩
    have HSTF : Hid (st.bind (valS (f + 1)) = st3.map (fun l => (leafV 3 0 t, l))) := by
      show _ = _
      rw [N.out, E.out, hst3]; cases st3 <;> rfl
    have HBX : BoxIs w3 w.heap.size (.int .i64 0) (.int .i64 0) (.string ⟨#[]⟩) (.slice none 0 0) (.slice none 0 0) := K2.out.2.2.1.grown hg3 (by simp; omega)
    have HVV : VIs w3 (fun k => w.heap.size + 1 ≤ k) (f + 1) (leafV 3 0 t) (leaf 3 0 t) := leaf_is _ _ f _ _ _ (by unfold I64; omega) (by unfold I64; omega) (by unfold maxLen; omega)
    have HGG := gb_trans K2.out.2.1 hg3
    have HRR := hr3
    have HST2 := HSTF.out
    clear hst3 hr3 hg3
    have FIN := hidI (val_fin (f := f) (a7 := none) (a8 := none) (c7 := 0) (c8 := 0) hbl HVV HST2 HRR HGG HBX)
    obtain ⟨x0, x1, x2, x3, x4, y0, y1, y2, y3, y4⟩ := HBX.c
    obtain ⟨z0, z1, z2, z3, z4, -⟩ := (HBX.set (.int .i64 3) (.int .i64 0) (.string ⟨t.toArray⟩) (.slice none 0 0) (.slice none 0 0)).c
    clear HVV HST2 HRR HGG HBX
    have Z : Hid (_ ∧ _ ∧ _ ∧ _ ∧ _) := ⟨z0, z1, z2, z3, z4⟩
    clear z0 z1 z2 z3 z4
    go_wp2_with fail
    obtain ⟨z0, z1, z2, z3, z4⟩ := Z.out
    refine bodyPost_ret (v := leaf 3 0 t) ?_ rfl ?_
    · simp only [set5] at z0 z1 z2 z3 z4
      simp [results, Tryz.results31, go_sem, z0, z1, z2, z3, z4, leaf, str]
    · exact ⟨leafV 3 0 t, st3, none, none, 0, 0, rfl, FIN.out.2.1, HSTF.out, FIN.out.2.2.1, FIN.out.2.2.2⟩
  have n34 := hd_ne (m := 34) rfl q34
  by_cases q91 : hd0 (st1.getD []) = 91
  · have d := hd_eq (m := 91) rfl q91
    have E : Hid (st1.bind (oneS (valS f)) = st1.bind (listS (valS f))) := by
      cases st1 with
      | none => rfl
      | some l =>
        show oneS (valS f) l = _
        simp only [oneS, if_neg (show ¬ hd0 l = 110 from q110), if_neg (show ¬ hd0 l = 102 from q102), if_neg (show ¬ hd0 l = 116 from q116), if_neg (show ¬ hd0 l = 34 from q34), if_pos (show hd0 l = 91 from q91)]
        rfl
    have hf0 : 0 < f := by
      have := hlen2.out
      cases hs : st1.getD [] with
      | nil => rw [hs] at q91; simp [hd0] at q91
      | cons c r => rw [hs] at this; simp only [List.length_cons] at this; omega
    go_wp2_with fail
    refine (list_st f IH.out _ b s st1 (by exact K2.out.1) (by exact K2.out.2.2.2) hb4 hf0 hlen2.out).mono ?_
    rintro e w3 ⟨t, st3, a7, a8, c7, c8, rfl, hv3, hst3, hr3, hg3⟩
    have HSTF : Hid (st.bind (valS (f + 1)) = st3.map (fun l => (t, l))) := by
      show _ = _
      rw [N.out, E.out, hst3]
    have HBX : BoxIs w3 w.heap.size (.int .i64 0) (.int .i64 0) (.string ⟨#[]⟩) (.slice none 0 0) (.slice none 0 0) := K2.out.2.2.1.grown hg3 (by simp; omega)
    have HVV : VIs w3 (fun k => w.heap.size + 1 ≤ k) (f + 1) t (.agg #[.int .i64 t.kind, .int .i64 t.n, .string ⟨t.s.toArray⟩, .slice a7 t.keys.length c7, .slice a8 t.l.length c8]) := hv3.weak (fun k hk => by omega)
    have HGG := gb_trans K2.out.2.1 hg3
    have HRR := hr3
    have HST2 := HSTF.out
    clear hst3 hr3 hg3 hv3
    have FIN := hidI (val_fin (f := f) hbl HVV HST2 HRR HGG HBX)
    obtain ⟨x0, x1, x2, x3, x4, y0, y1, y2, y3, y4⟩ := HBX.c
    obtain ⟨z0, z1, z2, z3, z4, -⟩ := FIN.out.1.c
    clear HVV HST2 HRR HGG HBX
    have Z : Hid (_ ∧ _ ∧ _ ∧ _ ∧ _) := ⟨z0, z1, z2, z3, z4⟩
    clear z0 z1 z2 z3 z4
    go_wp2_with fail
    obtain ⟨z0, z1, z2, z3, z4⟩ := Z.out
    refine bodyPost_ret (v := (.agg #[.int .i64 t.kind, .int .i64 t.n, .string ⟨t.s.toArray⟩, .slice a7 t.keys.length c7, .slice a8 t.l.length c8])) ?_ rfl ?_
    · simp only [set5] at z0 z1 z2 z3 z4
      simp [results, Tryz.results31, go_sem, z0, z1, z2, z3, z4]
    · exact ⟨t, st3, a7, a8, c7, c8, rfl, FIN.out.2.1, HSTF.out, FIN.out.2.2.1, FIN.out.2.2.2⟩
  have n91 := hd_ne (m := 91) rfl q91
  by_cases q123 : hd0 (st1.getD []) = 123
  · have d := hd_eq (m := 123) rfl q123
    have E : Hid (st1.bind (oneS (valS f)) = st1.bind (objS (valS f))) := by
      cases st1 with
      | none => rfl
      | some l =>
        show oneS (valS f) l = _
        simp only [oneS, if_neg (show ¬ hd0 l = 110 from q110), if_neg (show ¬ hd0 l = 102 from q102), if_neg (show ¬ hd0 l = 116 from q116), if_neg (show ¬ hd0 l = 34 from q34), if_neg (show ¬ hd0 l = 91 from q91), if_pos (show hd0 l = 123 from q123)]
        rfl
    have hf0 : 0 < f := by
      have := hlen2.out
      cases hs : st1.getD [] with
      | nil => rw [hs] at q123; simp [hd0] at q123
      | cons c r => rw [hs] at this; simp only [List.length_cons] at this; omega
    go_wp2_with fail
    refine (object_st HW.out f IH.out _ b s st1 (by exact K2.out.1) (by exact K2.out.2.2.2) hb4 hf0 hlen2.out).mono ?_
    rintro e w3 ⟨t, st3, a7, a8, c7, c8, rfl, hv3, hst3, hr3, hg3⟩
    have HSTF : Hid (st.bind (valS (f + 1)) = st3.map (fun l => (t, l))) := by
      show _ = _
      rw [N.out, E.out, hst3]
    have HBX : BoxIs w3 w.heap.size (.int .i64 0) (.int .i64 0) (.string ⟨#[]⟩) (.slice none 0 0) (.slice none 0 0) := K2.out.2.2.1.grown hg3 (by simp; omega)
    have HVV : VIs w3 (fun k => w.heap.size + 1 ≤ k) (f + 1) t (.agg #[.int .i64 t.kind, .int .i64 t.n, .string ⟨t.s.toArray⟩, .slice a7 t.keys.length c7, .slice a8 t.l.length c8]) := hv3.weak (fun k hk => by omega)
    have HGG := gb_trans K2.out.2.1 hg3
    have HRR := hr3
    have HST2 := HSTF.out
    clear hst3 hr3 hg3 hv3
    have FIN := hidI (val_fin (f := f) hbl HVV HST2 HRR HGG HBX)
    obtain ⟨x0, x1, x2, x3, x4, y0, y1, y2, y3, y4⟩ := HBX.c
    obtain ⟨z0, z1, z2, z3, z4, -⟩ := FIN.out.1.c
    clear HVV HST2 HRR HGG HBX
    have Z : Hid (_ ∧ _ ∧ _ ∧ _ ∧ _) := ⟨z0, z1, z2, z3, z4⟩
    clear z0 z1 z2 z3 z4
    go_wp2_with fail
    obtain ⟨z0, z1, z2, z3, z4⟩ := Z.out
    refine bodyPost_ret (v := (.agg #[.int .i64 t.kind, .int .i64 t.n, .string ⟨t.s.toArray⟩, .slice a7 t.keys.length c7, .slice a8 t.l.length c8])) ?_ rfl ?_
    · simp only [set5] at z0 z1 z2 z3 z4
      simp [results, Tryz.results31, go_sem, z0, z1, z2, z3, z4]
    · exact ⟨t, st3, a7, a8, c7, c8, rfl, FIN.out.2.1, HSTF.out, FIN.out.2.2.1, FIN.out.2.2.2⟩
  have n123 := hd_ne (m := 123) rfl q123
  have E : Hid (st1.bind (oneS (valS f)) = (st1.bind numS).map fun p => (leafV 2 p.1 [], p.2)) := by
    cases st1 with
    | none => rfl
    | some l =>
      show oneS (valS f) l = _
      simp only [oneS, if_neg (show ¬ hd0 l = 110 from q110), if_neg (show ¬ hd0 l = 102 from q102), if_neg (show ¬ hd0 l = 116 from q116), if_neg (show ¬ hd0 l = 34 from q34), if_neg (show ¬ hd0 l = 91 from q91), if_neg (show ¬ hd0 l = 123 from q123)]
      rfl
  go_wp2_with fail
  refine (number_st _ b s st1 (by exact K2.out.1) (by exact K2.out.2.2.2) hb4).mono ?_
  rintro e w3 ⟨t, v, st3, rfl, ⟨kk, nn, rfl, rfl, hkk, hnn⟩, hst3, hr3, hg3⟩
  have HSTF : Hid (st.bind (valS (f + 1)) = st3.map (fun l => (leafV kk nn [], l))) := by show _ = _; rw [N.out, E.out]; exact hst3
  have HBX : BoxIs w3 w.heap.size (.int .i64 0) (.int .i64 0) (.string ⟨#[]⟩) (.slice none 0 0) (.slice none 0 0) := K2.out.2.2.1.grown hg3 (by simp; omega)
  have HVV : VIs w3 (fun k => w.heap.size + 1 ≤ k) (f + 1) (leafV kk nn []) (leaf kk nn []) := leaf_is _ _ f _ _ _ hkk hnn (by simp)
  have HGG := gb_trans K2.out.2.1 hg3
  have HRR := hr3
  have HST2 := HSTF.out
  clear hst3 hr3 hg3
  unfold leaf str
  have FIN := hidI (val_fin (f := f) (a7 := none) (a8 := none) (c7 := 0) (c8 := 0) hbl HVV HST2 HRR HGG HBX)
  obtain ⟨x0, x1, x2, x3, x4, y0, y1, y2, y3, y4⟩ := HBX.c
  obtain ⟨z0, z1, z2, z3, z4, -⟩ := (HBX.set (.int .i64 kk) (.int .i64 nn) (.string ⟨#[]⟩) (.slice none 0 0) (.slice none 0 0)).c
  clear HVV HST2 HRR HGG HBX
  have Z : Hid (_ ∧ _ ∧ _ ∧ _ ∧ _) := ⟨z0, z1, z2, z3, z4⟩
  clear z0 z1 z2 z3 z4
  go_wp2_with fail
  obtain ⟨z0, z1, z2, z3, z4⟩ := Z.out
  refine bodyPost_ret (v := leaf kk nn []) ?_ rfl ?_
  · simp only [set5] at z0 z1 z2 z3 z4
    simp [results, Tryz.results31, go_sem, z0, z1, z2, z3, z4, leaf, str]
  · exact ⟨leafV kk nn [], st3, none, none, 0, 0, rfl, FIN.out.2.1, HSTF.out, FIN.out.2.2.1, FIN.out.2.2.2⟩

theorem value_all (hW : WithC) (f : Nat) : ValC f := by
  induction f with
  | zero => intro w b s st h hG hb4 hlen; omega
  | succ f ih => exact value_succ hW f ih
end Go.Proofs.YtfbddgpekbhpfacGreatDoor
