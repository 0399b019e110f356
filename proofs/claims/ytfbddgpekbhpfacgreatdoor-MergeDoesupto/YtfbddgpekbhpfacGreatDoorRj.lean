/- What object of json's reader does, if value and With do what is said of them. -/
import Derived.Test.YtfbddgpekbhpfacGreatDoorRi
set_option linter.unusedSimpArgs false
set_option linter.unusedVariables false
namespace Go.Proofs.YtfbddgpekbhpfacGreatDoor
open Go.RowKit

theorem membsS_fuel {g : List UInt8 → Option (V × List UInt8)} (hg : Less g) (n : Nat) : ∀ (m : Nat) (v : V) (l : List UInt8), l.length < n → l.length < m → membsS g n v l = membsS g m v l := by
  induction n with
  | zero => intro m v l h; omega
  | succ n ih =>
    intro m v l h1 h2
    cases m with
    | zero => omega
    | succ m =>
      simp only [membsS]
      split
      · rename_i r hr
        have := markS_len hr
        cases hgr : memS g v r with
        | none => rfl
        | some p =>
          have := memS_len hg _ _ _ hgr
          exact ih m _ _ (by omega) (by omega)
      · rfl
def membsT (g : List UInt8 → Option (V × List UInt8)) (v : V) (st : Option (List UInt8)) : Option (V × List UInt8) := st.bind fun l => membsS g (l.length + 1) v l
theorem membs_step {g : List UInt8 → Option (V × List UInt8)} (hg : Less g) {v t0 : V} {st1 st3 : Option (List UInt8)} (h2 : (st1.bind (markS 44)).isSome = true) (h3 : (st1.bind (markS 44)).bind (memS g v) = st3.map (fun l => (t0, l))) :
    membsT g v st1 = membsT g t0 st3 ∧ togo st3 < togo st1 := by
  cases st1 with
  | none => cases h2
  | some l =>
    cases hm : markS 44 l with
    | none => simp [hm] at h2
    | some r =>
      have hr := markS_len hm
      simp only [Option.bind_some, hm] at h3
      have e : membsT g v (some l) = (memS g v r).bind fun p => membsS g l.length p.1 p.2 := by
        show membsS g (l.length + 1) v l = _
        simp only [membsS, hm]
      rw [e, h3]
      cases st3 with
      | none => exact ⟨rfl, by simp [togo]⟩
      | some l3 =>
        have hl := memS_len hg _ _ _ h3
        simp only at hl
        exact ⟨membsS_fuel hg _ _ _ _ (by simp only; omega) (by simp only; omega), by simp only [togo]; omega⟩
theorem membs_end {g : List UInt8 → Option (V × List UInt8)} {v : V} {st1 : Option (List UInt8)} (h2 : (st1.bind (markS 44)).isSome = false) :
    membsT g v st1 = ((st1.map (List.dropWhile isSp)).bind (markS 125)).map fun r => (v, r) := by
  cases st1 with
  | none => rfl
  | some l =>
    cases hm : markS 44 l with
    | some r => simp [hm] at h2
    | none =>
      show membsS g (l.length + 1) v l = _
      simp only [membsS, hm]; rfl
theorem objS_next {g : List UInt8 → Option (V × List UInt8)} {st : Option (List UInt8)} :
    st.bind (objS g) = (st.bind (markS 123)).bind fun l => match markS 125 l with | some r => some (⟨5, 0, [], [], []⟩, r) | none => (memS g ⟨5, 0, [], [], []⟩ (l.dropWhile isSp)).bind fun p => membsS g (p.2.length + 1) p.1 p.2 := by
  cases st <;> rfl
theorem obj_first {g : List UInt8 → Option (V × List UInt8)} {st st3 : Option (List UInt8)} {t0 : V} (h2 : ((st.bind (markS 123)).bind (markS 125)).isSome = false)
    (h3 : ((st.bind (markS 123)).map (List.dropWhile isSp)).bind (memS g ⟨5, 0, [], [], []⟩) = st3.map (fun l => (t0, l))) : st.bind (objS g) = membsT g t0 st3 := by
  rw [objS_next]
  cases hs : st.bind (markS 123) with
  | none =>
    rw [hs] at h3
    cases st3 with
    | none => rfl
    | some l => cases h3
  | some l =>
    rw [hs] at h2 h3
    simp only [Option.bind_some] at h2 ⊢
    have hm : markS 125 l = none := by cases hm : markS 125 l with
      | none => rfl
      | some r => simp [hm] at h2
    rw [hm]
    have h3' : memS g ⟨5, 0, [], [], []⟩ (l.dropWhile isSp) = st3.map (fun l => (t0, l)) := h3
    simp only [h3']
    cases st3 <;> rfl

/- What holds ahead of each comma. -/
def ObjI (f : Nat) (w : World) (b : Nat) (s : ByteArray) (T : Option (V × List UInt8)) (k : Nat) (wr : World) : Prop :=
  ∃ (t : V) (st1 : Option (List UInt8)) (a7 a8 : Option Addr) (c7 c8 : Nat), k = togo st1 ∧ membsT (valS f) t st1 = T ∧ t.l.length + k ≤ 3000 ∧ (st1.getD []).length < f + 1 ∧ BoxIs wr w.heap.size (.int .i64 0) (.int .i64 0) (.string ⟨#[]⟩) (.slice none 0 0) (.slice none 0 0) ∧ BoxIs wr (w.heap.size + 1) (.int .i64 t.kind) (.int .i64 t.n) (.string ⟨t.s.toArray⟩) (.slice a7 t.keys.length c7) (.slice a8 t.l.length c8) ∧
    VIs wr (fun k => w.heap.size + 2 ≤ k) (f + 1) t (.agg #[.int .i64 t.kind, .int .i64 t.n, .string ⟨t.s.toArray⟩, .slice a7 t.keys.length c7, .slice a8 t.l.length c8]) ∧ pairedV t = true ∧ RdSt wr b s st1 ∧ Glob wr ∧ w.grownBy wr (some b)

theorem objI_mk {f : Nat} {w w3 : World} {b : Nat} {s : ByteArray} {T : Option (V × List UInt8)} {t : V} {st3 : Option (List UInt8)} {a7 a8 : Option Addr} {c7 c8 : Nat} {d0 d1 d2 d3 d4 : Value} (hb4 : 4 ≤ b) (hbl : b < w.heap.size)
    (bxC : BoxIs w3 w.heap.size (.int .i64 0) (.int .i64 0) (.string ⟨#[]⟩) (.slice none 0 0) (.slice none 0 0)) (bxA : BoxIs w3 (w.heap.size + 1) d0 d1 d2 d3 d4) (hv : VIs w3 (fun k => w.heap.size + 2 ≤ k) (f + 1) t (.agg #[.int .i64 t.kind, .int .i64 t.n, .string ⟨t.s.toArray⟩, .slice a7 t.keys.length c7, .slice a8 t.l.length c8])) (hp : pairedV t = true) (hT : membsT (valS f) t st3 = T) (hl : (st3.getD []).length < f + 1) (hc : t.l.length + togo st3 ≤ 3000)
    (hr : RdSt w3 b s st3) (hG : Glob w3) (hg : w.grownBy w3 (some b)) : ObjI f w b s T (togo st3) (set5 w3 (w.heap.size + 1) (.int .i64 t.kind) (.int .i64 t.n) (.string ⟨t.s.toArray⟩) (.slice a7 t.keys.length c7) (.slice a8 t.l.length c8)) := by
  have g5 := set5_gb w3 (w.heap.size + 1) (.int .i64 t.kind) (.int .i64 t.n) (.string ⟨t.s.toArray⟩) (.slice a7 t.keys.length c7) (.slice a8 t.l.length c8)
  exact ⟨t, st3, a7, a8, c7, c8, rfl, hT, hc, hl, bxC.grown g5 (by simp), bxA.set _ _ _ _ _, hv.grown g5 (fun k hk e => by simp at e; omega), hp, hr.of_heap (g5.block b hr.lt (by simp; omega)),
    hG.grown g5 (fun k hk => by cases hk; omega), gb_own hg g5 (by intro k hk; cases hk; omega)⟩

set_option maxRecDepth 100000 in
set_option maxHeartbeats 4000000 in
theorem object_st (hW : WithC) (f : Nat) (ih : ValC f) (w : World) (b : Nat) (s : ByteArray) (st : Option (List UInt8)) (h : RdSt w b s st) (hG : Glob w) (hb4 : 4 ≤ b) (hf0 : 0 < f) (hlen : (st.getD []).length < f + 1) :
    Calls Tryz.prog 45 #[.pointer (some ⟨b, 0, none⟩)] w fun e w' => ∃ (t : V) (st' : Option (List UInt8)) (a7 a8 : Option Addr) (c7 c8 : Nat),
      e = .returned (.agg #[.int .i64 t.kind, .int .i64 t.n, .string ⟨t.s.toArray⟩, .slice a7 t.keys.length c7, .slice a8 t.l.length c8]) ∧ VIs w' (fun k => w.heap.size ≤ k) (f + 1) t (.agg #[.int .i64 t.kind, .int .i64 t.n, .string ⟨t.s.toArray⟩, .slice a7 t.keys.length c7, .slice a8 t.l.length c8]) ∧ st.bind (objS (valS f)) = st'.map (fun l => (t, l)) ∧ RdSt w' b s st' ∧ w.grownBy w' (some b) := by
  have H := hidI h
  have HG := hidI hG
  have IH := hidI ih
  have HW := hidI hW
  have hbl := h.lt
  clear h hG ih hW
  go_enter Tryz.func45, Tryz.ntmps45
  go_wp2_with fail
  refine (need_st _ b s st 123 123 rfl (by decide) (by exact H.out.grown (gb_alloc (World.grownBy_alloc w _ none) _) (by simp))).mono ?_
  rintro e w1 ⟨rfl, h1, hg1⟩
  have bx1 : Hid (BoxIs w1 w.heap.size (.int .i64 0) (.int .i64 0) (.string ⟨#[]⟩) (.slice none 0 0) (.slice none 0 0) ∧ BoxIs w1 (w.heap.size + 1) (.int .i64 5) (.int .i64 0) (.string ⟨#[]⟩) (.slice none 0 0) (.slice none 0 0)) :=
    ⟨BoxIs.grown (h2a w _ _) hg1 (by simp; omega), BoxIs.grown (h2b w _ _) hg1 (by simp; omega)⟩
  have G1 : Hid (RdSt w1 b s (st.bind (markS 123)) ∧ w.grownBy w1 (some b)) := ⟨h1, gb_trans (gb_alloc (gb_alloc (gb_refl _ _) _) _) hg1⟩
  clear h1 hg1
  go_wp2_with fail
  refine (mark_st _ b s (st.bind (markS 123)) 125 125 rfl (by decide) (by exact G1.out.1)).mono ?_
  rintro e w2 ⟨rfl, h2, hg2⟩
  have bx2 : Hid (BoxIs w2 w.heap.size (.int .i64 0) (.int .i64 0) (.string ⟨#[]⟩) (.slice none 0 0) (.slice none 0 0) ∧ BoxIs w2 (w.heap.size + 1) (.int .i64 5) (.int .i64 0) (.string ⟨#[]⟩) (.slice none 0 0) (.slice none 0 0)) := ⟨bx1.out.1.grown hg2 (by simp; omega), bx1.out.2.grown hg2 (by simp; omega)⟩
  have G2 : Hid (RdSt w2 b s (if ((st.bind (markS 123)).bind (markS 125)).isSome then (st.bind (markS 123)).bind (markS 125) else (st.bind (markS 123)).map (List.dropWhile isSp)) ∧ w.grownBy w2 (some b)) := ⟨h2, gb_trans G1.out.2 hg2⟩
  obtain ⟨x0, x1, x2, x3, x4, y0, y1, y2, y3, y4⟩ := bx2.out.1.c
  obtain ⟨p0, p1, p2, p3, p4, q0, q1, q2, q3, q4⟩ := bx2.out.2.c
  clear h2 hg2 bx1 G1
  cases hm : ((st.bind (markS 123)).bind (markS 125)).isSome with
  | true =>
    have HM := hidI hm
    obtain ⟨z0, z1, z2, z3, z4, -⟩ := (bx2.out.1.set (.int .i64 5) (.int .i64 0) (.string ⟨#[]⟩) (.slice none 0 0) (.slice none 0 0)).c
    have Z : Hid (_ ∧ _ ∧ _ ∧ _ ∧ _) := ⟨z0, z1, z2, z3, z4⟩
    clear z0 z1 z2 z3 z4 hm
    go_wp2_with fail
    obtain ⟨z0, z1, z2, z3, z4⟩ := Z.out
    refine bodyPost_ret (v := leaf 5 0 []) ?_ rfl ?_
    · simp only [set5, str] at z0 z1 z2 z3 z4
      simp [results, Tryz.results45, go_sem, z0, z1, z2, z3, z4, leaf, str]
    · refine ⟨leafV 5 0 [], (st.bind (markS 123)).bind (markS 125), none, none, 0, 0, rfl, leaf_is _ _ f _ _ _ (by unfold I64; omega) (by unfold I64; omega) (by simp), ?_, ?_, ?_⟩
      · rw [objS_next]
        cases hs : st.bind (markS 123) with
        | none => rw [hs] at HM; exact absurd HM.out (by simp)
        | some l =>
          rw [hs] at HM
          cases h9 : markS 125 l with
          | none => simp [h9] at HM; exact absurd HM.out (by simp)
          | some r => simp only [Option.bind_some, h9]; rfl
      · have := G2.out.1
        rw [if_pos HM.out] at this
        exact this.of_heap ((set5_gb w2 w.heap.size _ _ _ _ _).block b this.lt (by simp; omega))
      · exact gb_own G2.out.2 (set5_gb w2 w.heap.size _ _ _ _ _) (by intro k hk; cases hk; exact Nat.le_refl _)
  | false =>
    have HM := hidI hm
    have G3 : Hid (RdSt w2 b s ((st.bind (markS 123)).map (List.dropWhile isSp)) ∧ w.grownBy w2 (some b) ∧ Glob w2) := by
      have := G2.out.1
      rw [if_neg (by rw [HM.out]; simp)] at this
      exact ⟨this, G2.out.2, HG.out.grown G2.out.2 (by intro k hk; cases hk; exact hb4)⟩
    clear hm G2
    have call5 : Hid (Calls Tryz.prog 66 #[.pointer (some ⟨b, 0, none⟩), .agg #[.int .i64 5, .int .i64 0, .string ⟨#[]⟩, .slice none 0 0, .slice none 0 0]] w2 fun e w' => ∃ (t : V) (st' : Option (List UInt8)) (a7 a8 : Option Addr) (c7 c8 : Nat),
        e = .returned (.agg #[.int .i64 t.kind, .int .i64 t.n, .string ⟨t.s.toArray⟩, .slice a7 t.keys.length c7, .slice a8 t.l.length c8]) ∧ VIs w' (fun k => w.heap.size + 2 ≤ k) (f + 1) t (.agg #[.int .i64 t.kind, .int .i64 t.n, .string ⟨t.s.toArray⟩, .slice a7 t.keys.length c7, .slice a8 t.l.length c8]) ∧ pairedV t = true ∧ st.bind (objS (valS f)) = membsT (valS f) t st' ∧ (st'.getD []).length < f + 1 ∧ t.l.length + togo st' ≤ 3000 ∧ RdSt w' b s st' ∧ w2.grownBy w' (some b)) := by
      have hl2 : (((st.bind (markS 123)).map (List.dropWhile isSp)).getD []).length < f := by
        cases hs : st.bind (markS 123) with
        | none => exact hf0
        | some l =>
          cases st with
          | none => cases hs
          | some l0 =>
            have := markS_len (show markS 123 l0 = some l from hs)
            have := dropSp_len l
            simp only [Option.getD_some, Option.map_some] at hlen ⊢
            omega
      refine (member_st HW.out f IH.out w2 b (w.heap.size + 2) s _ ⟨5, 0, [], [], []⟩ none none 0 0 G3.out.1 G3.out.2.2 hb4 hf0 (by omega) (by omega) bx2.out.2.lt (leaf_is w2 _ f 5 0 [] (by unfold I64; omega) (by unfold I64; omega) (by simp)) rfl (by simp)).mono ?_
      rintro e w' ⟨t, st', a7, a8, c7, c8, rfl, hv, hp, htl, hst, hr, hg⟩
      refine ⟨t, st', a7, a8, c7, c8, rfl, hv, hp, obj_first HM.out hst, ?_, ?_, hr, hg⟩
      · cases st' with
        | none => simp
        | some l' =>
          cases hs : (st.bind (markS 123)).map (List.dropWhile isSp) with
          | none => rw [hs] at hst; cases hst
          | some l1 =>
            rw [hs] at hst hl2
            have := memS_len (valS_len f) _ l1 _ hst
            simp only [Option.getD_some] at hl2 ⊢
            simp only at this
            omega
      · simp only [List.length_nil] at htl
        cases st' with
        | none => simp only [togo]; omega
        | some l' => have := hr.len; simp only [togo]; omega
    go_wp2_with fail
    refine (call5.out).mono ?_
    rintro e w3 ⟨t, st3, a7, a8, c7, c8, rfl, hv3, hp3, hT3, hl3, hc3, hr3, hg3⟩
    have I0 : Hid (ObjI f w b s (st.bind (objS (valS f))) (togo st3) (set5 w3 (w.heap.size + 1) (.int .i64 t.kind) (.int .i64 t.n) (.string ⟨t.s.toArray⟩) (.slice a7 t.keys.length c7) (.slice a8 t.l.length c8))) :=
      objI_mk hb4 hbl (bx2.out.1.grown hg3 (by simp; omega)) (bx2.out.2.grown hg3 (by simp; omega)) hv3 hp3 hT3.symm hl3 hc3 hr3 (G3.out.2.2.grown hg3 (by intro k hk; cases hk; exact hb4)) (gb_trans G3.out.2.1 hg3)
    clear p0 p1 p2 p3 p4 q0 q1 q2 q3 q4
    obtain ⟨p0, p1, p2, p3, p4, q0, q1, q2, q3, q4⟩ := (bx2.out.2.grown hg3 (by simp; omega)).c
    clear hv3 hp3 hT3 hl3 hc3 hr3 hg3 x0 x1 x2 x3 x4 y0 y1 y2 y3 y4
    go_wp2_with fail
    go_loopg [] (togo st3) (fun k wr => ObjI f w b s (st.bind (objS (valS f))) k wr)
    case atStart => exact I0.out
    case round =>
      clear p0 p1 p2 p3 p4 q0 q1 q2 q3 q4 I0 call5 bx2 G3
      obtain ⟨t, st1, a7, a8, c7, c8, hk, hT, hc, hl1, bxC, bxA, hv, hp, hr, hGr, hg⟩ := hrel
      have A : Hid (gk = togo st1 ∧ membsT (valS f) t st1 = st.bind (objS (valS f)) ∧ t.l.length + gk ≤ 3000 ∧ (st1.getD []).length < f + 1 ∧ BoxIs wr w.heap.size (.int .i64 0) (.int .i64 0) (.string ⟨#[]⟩) (.slice none 0 0) (.slice none 0 0) ∧ BoxIs wr (w.heap.size + 1) (.int .i64 t.kind) (.int .i64 t.n) (.string ⟨t.s.toArray⟩) (.slice a7 t.keys.length c7) (.slice a8 t.l.length c8) ∧ VIs wr (fun k => w.heap.size + 2 ≤ k) (f + 1) t (.agg #[.int .i64 t.kind, .int .i64 t.n, .string ⟨t.s.toArray⟩, .slice a7 t.keys.length c7, .slice a8 t.l.length c8]) ∧ pairedV t = true ∧ RdSt wr b s st1 ∧ Glob wr ∧ w.grownBy wr (some b)) := ⟨hk, hT, hc, hl1, bxC, bxA, hv, hp, hr, hGr, hg⟩
      have htl : t.l.length ≤ 3000 := by omega
      clear hk hT hc hl1 bxC bxA hv hp hr hGr hg
      go_wp2_with fail
      refine (mark_st _ b s st1 44 44 rfl (by decide) (by exact A.out.2.2.2.2.2.2.2.2.1)).mono ?_
      rintro e w2 ⟨rfl, h2, hg2⟩
      have D : Hid (RdSt w2 b s (if (st1.bind (markS 44)).isSome then st1.bind (markS 44) else st1.map (List.dropWhile isSp)) ∧ BoxIs w2 w.heap.size (.int .i64 0) (.int .i64 0) (.string ⟨#[]⟩) (.slice none 0 0) (.slice none 0 0) ∧ BoxIs w2 (w.heap.size + 1) (.int .i64 t.kind) (.int .i64 t.n) (.string ⟨t.s.toArray⟩) (.slice a7 t.keys.length c7) (.slice a8 t.l.length c8) ∧ VIs w2 (fun k => w.heap.size + 2 ≤ k) (f + 1) t (.agg #[.int .i64 t.kind, .int .i64 t.n, .string ⟨t.s.toArray⟩, .slice a7 t.keys.length c7, .slice a8 t.l.length c8]) ∧ Glob w2 ∧ w.grownBy w2 (some b)) := by
        obtain ⟨hk, hT, hc, hl1, bxC, bxA, hv, hp, hr, hGr, hg⟩ := A.out
        exact ⟨h2, bxC.grown hg2 (by simp; omega), bxA.grown hg2 (by simp; omega), hv.grown hg2 (fun k hk e => by simp at e; omega), hGr.grown hg2 (by intro k hk; cases hk; exact hb4), gb_trans hg hg2⟩
      clear h2 hg2
      obtain ⟨p0, p1, p2, p3, p4, q0, q1, q2, q3, q4⟩ := D.out.2.2.1.c
      cases hm : (st1.bind (markS 44)).isSome with
      | true =>
        have HM := hidI hm
        have R2 : Hid (RdSt w2 b s (st1.bind (markS 44))) := by have := D.out.1; rw [if_pos hm] at this; exact this
        clear hm
        go_wp2_with fail
        have hl2 : Hid (((st1.bind (markS 44)).getD []).length < f + 1) := by
          show _ < _
          have hl1 := A.out.2.2.2.1
          cases st1 with
          | none => simp
          | some l0 =>
            cases hs : markS 44 l0 with
            | none => simp only [Option.bind_some, hs]; simp
            | some l =>
              have := markS_len hs
              simp only [Option.bind_some, hs, Option.getD_some] at hl1 ⊢
              omega
        refine (member_st HW.out f IH.out _ b (w.heap.size + 2) s _ t a7 a8 c7 c8 (by exact R2.out) (by exact D.out.2.2.2.2.1) hb4 hf0 hl2.out (by omega) (by exact D.out.2.2.1.lt) (by exact D.out.2.2.2.1) A.out.2.2.2.2.2.2.2.1 (by omega)).mono ?_
        rintro e w3 ⟨t', st3, a5, a6, c5, c6, rfl, hv3, hp3, htl3, hst3, hr3, hg3⟩
        have V3 : Hid (ObjI f w b s (st.bind (objS (valS f))) (togo st3) (set5 w3 (w.heap.size + 1) (.int .i64 t'.kind) (.int .i64 t'.n) (.string ⟨t'.s.toArray⟩) (.slice a5 t'.keys.length c5) (.slice a6 t'.l.length c6)) ∧ togo st3 < gk) := by
          obtain ⟨hk, hT, hc, hl1, -⟩ := A.out
          obtain ⟨i1, i2⟩ := membs_step (valS_len f) HM.out hst3
          refine ⟨objI_mk hb4 hbl (D.out.2.1.grown hg3 (by simp; omega)) (D.out.2.2.1.grown hg3 (by simp; omega)) hv3 hp3 (by rw [← hT, i1]) ?_ (by omega) hr3 (D.out.2.2.2.2.1.grown hg3 (by intro k hk; cases hk; exact hb4)) (gb_trans D.out.2.2.2.2.2 hg3), by rw [hk]; exact i2⟩
          cases st3 with
          | none => simp
          | some l' =>
            cases hs : st1.bind (markS 44) with
            | none => rw [hs] at hst3; cases hst3
            | some l1 =>
              rw [hs] at hst3
              have := memS_len (valS_len f) _ l1 _ hst3
              have h8 := hl2.out
              rw [hs] at h8
              simp only [Option.getD_some] at h8 ⊢
              simp only at this
              omega
        clear p0 p1 p2 p3 p4 q0 q1 q2 q3 q4
        obtain ⟨p0, p1, p2, p3, p4, q0, q1, q2, q3, q4⟩ := (D.out.2.2.1.grown hg3 (by simp; omega)).c
        clear hv3 hp3 htl3 hst3 hr3 hg3
        go_wp2_with fail
        go_roundg (togo st3)
        case measure => exact V3.out.2
        case rel => exact V3.out.1
      | false =>
        have HM := hidI hm
        have R2 : Hid (RdSt w2 b s (st1.map (List.dropWhile isSp))) := by have := D.out.1; rw [if_neg (by rw [hm]; simp)] at this; exact this
        clear hm
        go_wp2_with fail
        refine (need_st _ b s _ 125 125 rfl (by decide) (by exact R2.out)).mono ?_
        rintro e w3 ⟨rfl, h3, hg3⟩
        have E : Hid (RdSt w3 b s ((st1.map (List.dropWhile isSp)).bind (markS 125)) ∧ w.grownBy w3 (some b) ∧ BoxIs w3 w.heap.size (.int .i64 0) (.int .i64 0) (.string ⟨#[]⟩) (.slice none 0 0) (.slice none 0 0) ∧ BoxIs w3 (w.heap.size + 1) (.int .i64 t.kind) (.int .i64 t.n) (.string ⟨t.s.toArray⟩) (.slice a7 t.keys.length c7) (.slice a8 t.l.length c8) ∧ VIs w3 (fun k => w.heap.size + 2 ≤ k) (f + 1) t (.agg #[.int .i64 t.kind, .int .i64 t.n, .string ⟨t.s.toArray⟩, .slice a7 t.keys.length c7, .slice a8 t.l.length c8])) :=
          ⟨h3, gb_trans D.out.2.2.2.2.2 hg3, D.out.2.1.grown hg3 (by simp; omega), D.out.2.2.1.grown hg3 (by simp; omega), D.out.2.2.2.1.grown hg3 (fun k hk e => by simp at e; omega)⟩
        clear h3 hg3 p0 p1 p2 p3 p4 q0 q1 q2 q3 q4
        obtain ⟨x0, x1, x2, x3, x4, y0, y1, y2, y3, y4⟩ := E.out.2.2.1.c
        obtain ⟨p0, p1, p2, p3, p4, -⟩ := E.out.2.2.2.1.c
        obtain ⟨z0, z1, z2, z3, z4, -⟩ := (E.out.2.2.1.set (.int .i64 t.kind) (.int .i64 t.n) (.string ⟨t.s.toArray⟩) (.slice a7 t.keys.length c7) (.slice a8 t.l.length c8)).c
        have Z : Hid (_ ∧ _ ∧ _ ∧ _ ∧ _) := ⟨z0, z1, z2, z3, z4⟩
        clear z0 z1 z2 z3 z4
        go_wp2_with fail
        obtain ⟨z0, z1, z2, z3, z4⟩ := Z.out
        refine bodyPost_ret (v := (.agg #[.int .i64 t.kind, .int .i64 t.n, .string ⟨t.s.toArray⟩, .slice a7 t.keys.length c7, .slice a8 t.l.length c8])) ?_ rfl ?_
        · simp only [set5] at z0 z1 z2 z3 z4
          simp [results, Tryz.results45, go_sem, z0, z1, z2, z3, z4]
        · obtain ⟨e1, e2, e3, e4, e5⟩ := E.out
          have g5 := set5_gb w3 w.heap.size (.int .i64 t.kind) (.int .i64 t.n) (.string ⟨t.s.toArray⟩) (.slice a7 t.keys.length c7) (.slice a8 t.l.length c8)
          refine ⟨t, (st1.map (List.dropWhile isSp)).bind (markS 125), a7, a8, c7, c8, rfl, (e5.grown g5 (fun k hk e => by simp at e; omega)).weak (fun k hk => by omega), ?_, e1.of_heap (g5.block b e1.lt (by simp; omega)), gb_own e2 g5 (by intro k hk; cases hk; exact Nat.le_refl _)⟩
          rw [← A.out.2.1, membs_end HM.out]
end Go.Proofs.YtfbddgpekbhpfacGreatDoor
