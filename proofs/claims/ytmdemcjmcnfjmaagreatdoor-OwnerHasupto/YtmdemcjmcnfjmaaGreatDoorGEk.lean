/- Whatever it is handed, OwnerHas answers true and leaves all as it was.
   Its conditions: what it is handed is of bulk at most 1048576 (values and letters); the listed package-level variables hold what the program's text lays (the card ties them, over a pruned copy of the project). -/
import Derived.Test.YtmdemcjmcnfjmaaGreatDoorGRi
import Derived.Test.YtmdemcjmcnfjmaaGreatDoorGOn
import Derived.Test.YtmdemcjmcnfjmaaGreatDoorGc
import Derived.Test.YtmdemcjmcnfjmaaGreatDoorTp
import Derived.Test.YtmdemcjmcnfjmaaGreatDoorGNe
import Derived.Test.YtmdemcjmcnfjmaaGreatDoorXp
import Derived.Test.YtmdemcjmcnfjmaaGreatDoorWa
import Derived.Test.YtmdemcjmcnfjmaaGreatDoorKi
import Derived.Test.YtmdemcjmcnfjmaaGreatDoorEc
/- What object of json's reader does, if value and With do what is said of them. -/
set_option linter.unusedSimpArgs false
set_option linter.unusedVariables false
namespace Go.Proofs.YtmdemcjmcnfjmaaGreatDoor
open Go.RowKit

theorem membsS_fuel {g : List UInt8 → Option (V × List UInt8)} (hg : Less g) (n : Nat) : ∀ (m : Nat) (v : V) (l : List UInt8), l.length < n → l.length < m → membsS g n v l = membsS g m v l := by
  induction n with
  | zero => intro m v l h; omega
  | succ n ih =>
    intro m v l h1 h2
    cases m with
    | zero => omega
    | succ m =>
      simp only [membsS]
      split
      · rename_i r hr
        have := markS_len hr
        cases hgr : memS g v r with
        | none => rfl
        | some p =>
          have := memS_len hg _ _ _ hgr
          exact ih m _ _ (by omega) (by omega)
      · rfl
def membsT (g : List UInt8 → Option (V × List UInt8)) (v : V) (st : Option (List UInt8)) : Option (V × List UInt8) := st.bind fun l => membsS g (l.length + 1) v l
theorem membs_step {g : List UInt8 → Option (V × List UInt8)} (hg : Less g) {v t0 : V} {st1 st3 : Option (List UInt8)} (h2 : (st1.bind (markS 44)).isSome = true) (h3 : (st1.bind (markS 44)).bind (memS g v) = st3.map (fun l => (t0, l))) :
    membsT g v st1 = membsT g t0 st3 ∧ togo st3 < togo st1 := by
  cases st1 with
  | none => cases h2
  | some l =>
    cases hm : markS 44 l with
    | none => simp [hm] at h2
    | some r =>
      have hr := markS_len hm
      simp only [Option.bind_some, hm] at h3
      have e : membsT g v (some l) = (memS g v r).bind fun p => membsS g l.length p.1 p.2 := by
        show membsS g (l.length + 1) v l = _
        simp only [membsS, hm]
      rw [e, h3]
      cases st3 with
      | none => exact ⟨rfl, by simp [togo]⟩
      | some l3 =>
        have hl := memS_len hg _ _ _ h3
        simp only at hl
        exact ⟨membsS_fuel hg _ _ _ _ (by simp only; omega) (by simp only; omega), by simp only [togo]; omega⟩
theorem membs_end {g : List UInt8 → Option (V × List UInt8)} {v : V} {st1 : Option (List UInt8)} (h2 : (st1.bind (markS 44)).isSome = false) :
    membsT g v st1 = ((st1.map (List.dropWhile isSp)).bind (markS 125)).map fun r => (v, r) := by
  cases st1 with
  | none => rfl
  | some l =>
    cases hm : markS 44 l with
    | some r => simp [hm] at h2
    | none =>
      show membsS g (l.length + 1) v l = _
      simp only [membsS, hm]; rfl
theorem objS_next {g : List UInt8 → Option (V × List UInt8)} {st : Option (List UInt8)} :
    st.bind (objS g) = (st.bind (markS 123)).bind fun l => match markS 125 l with | some r => some (⟨5, 0, [], [], []⟩, r) | none => (memS g ⟨5, 0, [], [], []⟩ (l.dropWhile isSp)).bind fun p => membsS g (p.2.length + 1) p.1 p.2 := by
  cases st <;> rfl
theorem obj_first {g : List UInt8 → Option (V × List UInt8)} {st st3 : Option (List UInt8)} {t0 : V} (h2 : ((st.bind (markS 123)).bind (markS 125)).isSome = false)
    (h3 : ((st.bind (markS 123)).map (List.dropWhile isSp)).bind (memS g ⟨5, 0, [], [], []⟩) = st3.map (fun l => (t0, l))) : st.bind (objS g) = membsT g t0 st3 := by
  rw [objS_next]
  cases hs : st.bind (markS 123) with
  | none =>
    rw [hs] at h3
    cases st3 with
    | none => rfl
    | some l => cases h3
  | some l =>
    rw [hs] at h2 h3
    simp only [Option.bind_some] at h2 ⊢
    have hm : markS 125 l = none := by cases hm : markS 125 l with
      | none => rfl
      | some r => simp [hm] at h2
    rw [hm]
    have h3' : memS g ⟨5, 0, [], [], []⟩ (l.dropWhile isSp) = st3.map (fun l => (t0, l)) := h3
    simp only [h3']
    cases st3 <;> rfl

/- What holds ahead of each comma. -/
def ObjI (f : Nat) (w : World) (b : Nat) (s : ByteArray) (T : Option (V × List UInt8)) (k : Nat) (wr : World) : Prop :=
  ∃ (t : V) (st1 : Option (List UInt8)) (a7 a8 : Option Addr) (c7 c8 : Nat), k = togo st1 ∧ membsT (valS f) t st1 = T ∧ t.l.length + k ≤ 3000 ∧ (st1.getD []).length < f + 1 ∧ BoxIs wr w.heap.size (.int .i64 0) (.int .i64 0) (.string ⟨#[]⟩) (.slice none 0 0) (.slice none 0 0) ∧ BoxIs wr (w.heap.size + 1) (.int .i64 t.kind) (.int .i64 t.n) (.string ⟨t.s.toArray⟩) (.slice a7 t.keys.length c7) (.slice a8 t.l.length c8) ∧
    VIs wr (fun k => w.heap.size + 2 ≤ k) (f + 1) t (.agg #[.int .i64 t.kind, .int .i64 t.n, .string ⟨t.s.toArray⟩, .slice a7 t.keys.length c7, .slice a8 t.l.length c8]) ∧ pairedV t = true ∧ RdSt wr b s st1 ∧ Glob wr ∧ w.grownBy wr (some b)

theorem objI_mk {f : Nat} {w w3 : World} {b : Nat} {s : ByteArray} {T : Option (V × List UInt8)} {t : V} {st3 : Option (List UInt8)} {a7 a8 : Option Addr} {c7 c8 : Nat} {d0 d1 d2 d3 d4 : Value} (hb4 : 6 ≤ b) (hbl : b < w.heap.size)
    (bxC : BoxIs w3 w.heap.size (.int .i64 0) (.int .i64 0) (.string ⟨#[]⟩) (.slice none 0 0) (.slice none 0 0)) (bxA : BoxIs w3 (w.heap.size + 1) d0 d1 d2 d3 d4) (hv : VIs w3 (fun k => w.heap.size + 2 ≤ k) (f + 1) t (.agg #[.int .i64 t.kind, .int .i64 t.n, .string ⟨t.s.toArray⟩, .slice a7 t.keys.length c7, .slice a8 t.l.length c8])) (hp : pairedV t = true) (hT : membsT (valS f) t st3 = T) (hl : (st3.getD []).length < f + 1) (hc : t.l.length + togo st3 ≤ 3000)
    (hr : RdSt w3 b s st3) (hG : Glob w3) (hg : w.grownBy w3 (some b)) : ObjI f w b s T (togo st3) (set5 w3 (w.heap.size + 1) (.int .i64 t.kind) (.int .i64 t.n) (.string ⟨t.s.toArray⟩) (.slice a7 t.keys.length c7) (.slice a8 t.l.length c8)) := by
  have g5 := set5_gb w3 (w.heap.size + 1) (.int .i64 t.kind) (.int .i64 t.n) (.string ⟨t.s.toArray⟩) (.slice a7 t.keys.length c7) (.slice a8 t.l.length c8)
  exact ⟨t, st3, a7, a8, c7, c8, rfl, hT, hc, hl, bxC.grown g5 (by simp), bxA.set _ _ _ _ _, hv.grown g5 (fun k hk e => by simp at e; omega), hp, hr.of_heap (g5.block b hr.lt (by simp; omega)),
    hG.grown g5 (fun k hk => by cases hk; omega), gb_own hg g5 (by intro k hk; cases hk; omega)⟩

set_option maxRecDepth 100000 in
set_option maxHeartbeats 4000000 in
theorem object_st (hW : WithC) (f : Nat) (ih : ValC f) (w : World) (b : Nat) (s : ByteArray) (st : Option (List UInt8)) (h : RdSt w b s st) (hG : Glob w) (hb4 : 6 ≤ b) (hf0 : 0 < f) (hlen : (st.getD []).length < f + 1) :
    Calls Tryz.prog 96 #[.pointer (some ⟨b, 0, none⟩)] w fun e w' => ∃ (t : V) (st' : Option (List UInt8)) (a7 a8 : Option Addr) (c7 c8 : Nat),
      e = .returned (.agg #[.int .i64 t.kind, .int .i64 t.n, .string ⟨t.s.toArray⟩, .slice a7 t.keys.length c7, .slice a8 t.l.length c8]) ∧ VIs w' (fun k => w.heap.size ≤ k) (f + 1) t (.agg #[.int .i64 t.kind, .int .i64 t.n, .string ⟨t.s.toArray⟩, .slice a7 t.keys.length c7, .slice a8 t.l.length c8]) ∧ st.bind (objS (valS f)) = st'.map (fun l => (t, l)) ∧ RdSt w' b s st' ∧ w.grownBy w' (some b) := by
  have H := hidI h
  have HG := hidI hG
  have IH := hidI ih
  have HW := hidI hW
  have hbl := h.lt
  clear h hG ih hW
  go_enter Tryz.func96, Tryz.ntmps96
  go_wp2_with fail
  refine (need_st _ b s st 123 123 rfl (by decide) (by exact H.out.grown (gb_alloc (World.grownBy_alloc w _ none) _) (by simp))).mono ?_
  rintro e w1 ⟨rfl, h1, hg1⟩
  have bx1 : Hid (BoxIs w1 w.heap.size (.int .i64 0) (.int .i64 0) (.string ⟨#[]⟩) (.slice none 0 0) (.slice none 0 0) ∧ BoxIs w1 (w.heap.size + 1) (.int .i64 5) (.int .i64 0) (.string ⟨#[]⟩) (.slice none 0 0) (.slice none 0 0)) :=
    ⟨BoxIs.grown (h2a w _ _) hg1 (by simp; omega), BoxIs.grown (h2b w _ _) hg1 (by simp; omega)⟩
  have G1 : Hid (RdSt w1 b s (st.bind (markS 123)) ∧ w.grownBy w1 (some b)) := ⟨h1, gb_trans (gb_alloc (gb_alloc (gb_refl _ _) _) _) hg1⟩
  clear h1 hg1
  go_wp2_with fail
  refine (mark_st _ b s (st.bind (markS 123)) 125 125 rfl (by decide) (by exact G1.out.1)).mono ?_
  rintro e w2 ⟨rfl, h2, hg2⟩
  have bx2 : Hid (BoxIs w2 w.heap.size (.int .i64 0) (.int .i64 0) (.string ⟨#[]⟩) (.slice none 0 0) (.slice none 0 0) ∧ BoxIs w2 (w.heap.size + 1) (.int .i64 5) (.int .i64 0) (.string ⟨#[]⟩) (.slice none 0 0) (.slice none 0 0)) := ⟨bx1.out.1.grown hg2 (by simp; omega), bx1.out.2.grown hg2 (by simp; omega)⟩
  have G2 : Hid (RdSt w2 b s (if ((st.bind (markS 123)).bind (markS 125)).isSome then (st.bind (markS 123)).bind (markS 125) else (st.bind (markS 123)).map (List.dropWhile isSp)) ∧ w.grownBy w2 (some b)) := ⟨h2, gb_trans G1.out.2 hg2⟩
  obtain ⟨x0, x1, x2, x3, x4, y0, y1, y2, y3, y4⟩ := bx2.out.1.c
  obtain ⟨p0, p1, p2, p3, p4, q0, q1, q2, q3, q4⟩ := bx2.out.2.c
  clear h2 hg2 bx1 G1
  cases hm : ((st.bind (markS 123)).bind (markS 125)).isSome with
  | true =>
    have HM := hidI hm
    obtain ⟨z0, z1, z2, z3, z4, -⟩ := (bx2.out.1.set (.int .i64 5) (.int .i64 0) (.string ⟨#[]⟩) (.slice none 0 0) (.slice none 0 0)).c
    have Z : Hid (_ ∧ _ ∧ _ ∧ _ ∧ _) := ⟨z0, z1, z2, z3, z4⟩
    clear z0 z1 z2 z3 z4 hm
    go_wp2_with fail
    obtain ⟨z0, z1, z2, z3, z4⟩ := Z.out
    refine bodyPost_ret (v := leaf 5 0 []) ?_ rfl ?_
    · simp only [set5, str] at z0 z1 z2 z3 z4
      simp [results, Tryz.results96, go_sem, z0, z1, z2, z3, z4, leaf, str]
    · refine ⟨leafV 5 0 [], (st.bind (markS 123)).bind (markS 125), none, none, 0, 0, rfl, leaf_is _ _ f _ _ _ (by unfold I64; omega) (by unfold I64; omega) (by simp), ?_, ?_, ?_⟩
      · rw [objS_next]
        cases hs : st.bind (markS 123) with
        | none => rw [hs] at HM; exact absurd HM.out (by simp)
        | some l =>
          rw [hs] at HM
          cases h9 : markS 125 l with
          | none => simp [h9] at HM; exact absurd HM.out (by simp)
          | some r => simp only [Option.bind_some, h9]; rfl
      · have := G2.out.1
        rw [if_pos HM.out] at this
        exact this.of_heap ((set5_gb w2 w.heap.size _ _ _ _ _).block b this.lt (by simp; omega))
      · exact gb_own G2.out.2 (set5_gb w2 w.heap.size _ _ _ _ _) (by intro k hk; cases hk; exact Nat.le_refl _)
  | false =>
    have HM := hidI hm
    have G3 : Hid (RdSt w2 b s ((st.bind (markS 123)).map (List.dropWhile isSp)) ∧ w.grownBy w2 (some b) ∧ Glob w2) := by
      have := G2.out.1
      rw [if_neg (by rw [HM.out]; simp)] at this
      exact ⟨this, G2.out.2, HG.out.grown G2.out.2 (by intro k hk; cases hk; exact hb4)⟩
    clear hm G2
    have call5 : Hid (Calls Tryz.prog 134 #[.pointer (some ⟨b, 0, none⟩), .agg #[.int .i64 5, .int .i64 0, .string ⟨#[]⟩, .slice none 0 0, .slice none 0 0]] w2 fun e w' => ∃ (t : V) (st' : Option (List UInt8)) (a7 a8 : Option Addr) (c7 c8 : Nat),
        e = .returned (.agg #[.int .i64 t.kind, .int .i64 t.n, .string ⟨t.s.toArray⟩, .slice a7 t.keys.length c7, .slice a8 t.l.length c8]) ∧ VIs w' (fun k => w.heap.size + 2 ≤ k) (f + 1) t (.agg #[.int .i64 t.kind, .int .i64 t.n, .string ⟨t.s.toArray⟩, .slice a7 t.keys.length c7, .slice a8 t.l.length c8]) ∧ pairedV t = true ∧ st.bind (objS (valS f)) = membsT (valS f) t st' ∧ (st'.getD []).length < f + 1 ∧ t.l.length + togo st' ≤ 3000 ∧ RdSt w' b s st' ∧ w2.grownBy w' (some b)) := by
      have hl2 : (((st.bind (markS 123)).map (List.dropWhile isSp)).getD []).length < f := by
        cases hs : st.bind (markS 123) with
        | none => exact hf0
        | some l =>
          cases st with
          | none => cases hs
          | some l0 =>
            have := markS_len (show markS 123 l0 = some l from hs)
            have := dropSp_len l
            simp only [Option.getD_some, Option.map_some] at hlen ⊢
            omega
      refine (member_st HW.out f IH.out w2 b (w.heap.size + 2) s _ ⟨5, 0, [], [], []⟩ none none 0 0 G3.out.1 G3.out.2.2 hb4 hf0 (by omega) (by omega) bx2.out.2.lt (leaf_is w2 _ f 5 0 [] (by unfold I64; omega) (by unfold I64; omega) (by simp)) rfl (by simp)).mono ?_
      rintro e w' ⟨t, st', a7, a8, c7, c8, rfl, hv, hp, htl, hst, hr, hg⟩
      refine ⟨t, st', a7, a8, c7, c8, rfl, hv, hp, obj_first HM.out hst, ?_, ?_, hr, hg⟩
      · cases st' with
        | none => simp
        | some l' =>
          cases hs : (st.bind (markS 123)).map (List.dropWhile isSp) with
          | none => rw [hs] at hst; cases hst
          | some l1 =>
            rw [hs] at hst hl2
            have := memS_len (valS_len f) _ l1 _ hst
            simp only [Option.getD_some] at hl2 ⊢
            simp only at this
            omega
      · simp only [List.length_nil] at htl
        cases st' with
        | none => simp only [togo]; omega
        | some l' => have := hr.len; simp only [togo]; omega
    go_wp2_with fail
    refine (call5.out).mono ?_
    rintro e w3 ⟨t, st3, a7, a8, c7, c8, rfl, hv3, hp3, hT3, hl3, hc3, hr3, hg3⟩
    have I0 : Hid (ObjI f w b s (st.bind (objS (valS f))) (togo st3) (set5 w3 (w.heap.size + 1) (.int .i64 t.kind) (.int .i64 t.n) (.string ⟨t.s.toArray⟩) (.slice a7 t.keys.length c7) (.slice a8 t.l.length c8))) :=
      objI_mk hb4 hbl (bx2.out.1.grown hg3 (by simp; omega)) (bx2.out.2.grown hg3 (by simp; omega)) hv3 hp3 hT3.symm hl3 hc3 hr3 (G3.out.2.2.grown hg3 (by intro k hk; cases hk; exact hb4)) (gb_trans G3.out.2.1 hg3)
    clear p0 p1 p2 p3 p4 q0 q1 q2 q3 q4
    obtain ⟨p0, p1, p2, p3, p4, q0, q1, q2, q3, q4⟩ := (bx2.out.2.grown hg3 (by simp; omega)).c
    clear hv3 hp3 hT3 hl3 hc3 hr3 hg3 x0 x1 x2 x3 x4 y0 y1 y2 y3 y4
    go_wp2_with fail
    go_loopg [] (togo st3) (fun k wr => ObjI f w b s (st.bind (objS (valS f))) k wr)
    case atStart => exact I0.out
    case round =>
      clear p0 p1 p2 p3 p4 q0 q1 q2 q3 q4 I0 call5 bx2 G3
      obtain ⟨t, st1, a7, a8, c7, c8, hk, hT, hc, hl1, bxC, bxA, hv, hp, hr, hGr, hg⟩ := hrel
      have A : Hid (gk = togo st1 ∧ membsT (valS f) t st1 = st.bind (objS (valS f)) ∧ t.l.length + gk ≤ 3000 ∧ (st1.getD []).length < f + 1 ∧ BoxIs wr w.heap.size (.int .i64 0) (.int .i64 0) (.string ⟨#[]⟩) (.slice none 0 0) (.slice none 0 0) ∧ BoxIs wr (w.heap.size + 1) (.int .i64 t.kind) (.int .i64 t.n) (.string ⟨t.s.toArray⟩) (.slice a7 t.keys.length c7) (.slice a8 t.l.length c8) ∧ VIs wr (fun k => w.heap.size + 2 ≤ k) (f + 1) t (.agg #[.int .i64 t.kind, .int .i64 t.n, .string ⟨t.s.toArray⟩, .slice a7 t.keys.length c7, .slice a8 t.l.length c8]) ∧ pairedV t = true ∧ RdSt wr b s st1 ∧ Glob wr ∧ w.grownBy wr (some b)) := ⟨hk, hT, hc, hl1, bxC, bxA, hv, hp, hr, hGr, hg⟩
      have htl : t.l.length ≤ 3000 := by omega
      clear hk hT hc hl1 bxC bxA hv hp hr hGr hg
      go_wp2_with fail
      refine (mark_st _ b s st1 44 44 rfl (by decide) (by exact A.out.2.2.2.2.2.2.2.2.1)).mono ?_
      rintro e w2 ⟨rfl, h2, hg2⟩
      have D : Hid (RdSt w2 b s (if (st1.bind (markS 44)).isSome then st1.bind (markS 44) else st1.map (List.dropWhile isSp)) ∧ BoxIs w2 w.heap.size (.int .i64 0) (.int .i64 0) (.string ⟨#[]⟩) (.slice none 0 0) (.slice none 0 0) ∧ BoxIs w2 (w.heap.size + 1) (.int .i64 t.kind) (.int .i64 t.n) (.string ⟨t.s.toArray⟩) (.slice a7 t.keys.length c7) (.slice a8 t.l.length c8) ∧ VIs w2 (fun k => w.heap.size + 2 ≤ k) (f + 1) t (.agg #[.int .i64 t.kind, .int .i64 t.n, .string ⟨t.s.toArray⟩, .slice a7 t.keys.length c7, .slice a8 t.l.length c8]) ∧ Glob w2 ∧ w.grownBy w2 (some b)) := by
        obtain ⟨hk, hT, hc, hl1, bxC, bxA, hv, hp, hr, hGr, hg⟩ := A.out
        exact ⟨h2, bxC.grown hg2 (by simp; omega), bxA.grown hg2 (by simp; omega), hv.grown hg2 (fun k hk e => by simp at e; omega), hGr.grown hg2 (by intro k hk; cases hk; exact hb4), gb_trans hg hg2⟩
      clear h2 hg2
      obtain ⟨p0, p1, p2, p3, p4, q0, q1, q2, q3, q4⟩ := D.out.2.2.1.c
      cases hm : (st1.bind (markS 44)).isSome with
      | true =>
        have HM := hidI hm
        have R2 : Hid (RdSt w2 b s (st1.bind (markS 44))) := by have := D.out.1; rw [if_pos hm] at this; exact this
        clear hm
        go_wp2_with fail
        have hl2 : Hid (((st1.bind (markS 44)).getD []).length < f + 1) := by
          show _ < _
          have hl1 := A.out.2.2.2.1
          cases st1 with
          | none => simp
          | some l0 =>
            cases hs : markS 44 l0 with
            | none => simp only [Option.bind_some, hs]; simp
            | some l =>
              have := markS_len hs
              simp only [Option.bind_some, hs, Option.getD_some] at hl1 ⊢
              omega
        refine (member_st HW.out f IH.out _ b (w.heap.size + 2) s _ t a7 a8 c7 c8 (by exact R2.out) (by exact D.out.2.2.2.2.1) hb4 hf0 hl2.out (by omega) (by exact D.out.2.2.1.lt) (by exact D.out.2.2.2.1) A.out.2.2.2.2.2.2.2.1 (by omega)).mono ?_
        rintro e w3 ⟨t', st3, a5, a6, c5, c6, rfl, hv3, hp3, htl3, hst3, hr3, hg3⟩
        have V3 : Hid (ObjI f w b s (st.bind (objS (valS f))) (togo st3) (set5 w3 (w.heap.size + 1) (.int .i64 t'.kind) (.int .i64 t'.n) (.string ⟨t'.s.toArray⟩) (.slice a5 t'.keys.length c5) (.slice a6 t'.l.length c6)) ∧ togo st3 < gk) := by
          obtain ⟨hk, hT, hc, hl1, -⟩ := A.out
          obtain ⟨i1, i2⟩ := membs_step (valS_len f) HM.out hst3
          refine ⟨objI_mk hb4 hbl (D.out.2.1.grown hg3 (by simp; omega)) (D.out.2.2.1.grown hg3 (by simp; omega)) hv3 hp3 (by rw [← hT, i1]) ?_ (by omega) hr3 (D.out.2.2.2.2.1.grown hg3 (by intro k hk; cases hk; exact hb4)) (gb_trans D.out.2.2.2.2.2 hg3), by rw [hk]; exact i2⟩
          cases st3 with
          | none => simp
          | some l' =>
            cases hs : st1.bind (markS 44) with
            | none => rw [hs] at hst3; cases hst3
            | some l1 =>
              rw [hs] at hst3
              have := memS_len (valS_len f) _ l1 _ hst3
              have h8 := hl2.out
              rw [hs] at h8
              simp only [Option.getD_some] at h8 ⊢
              simp only at this
              omega
        clear p0 p1 p2 p3 p4 q0 q1 q2 q3 q4
        obtain ⟨p0, p1, p2, p3, p4, q0, q1, q2, q3, q4⟩ := (D.out.2.2.1.grown hg3 (by simp; omega)).c
        clear hv3 hp3 htl3 hst3 hr3 hg3
        go_wp2_with fail
        go_roundg (togo st3)
        case measure => exact V3.out.2
        case rel => exact V3.out.1
      | false =>
        have HM := hidI hm
        have R2 : Hid (RdSt w2 b s (st1.map (List.dropWhile isSp))) := by have := D.out.1; rw [if_neg (by rw [hm]; simp)] at this; exact this
        clear hm
        go_wp2_with fail
        refine (need_st _ b s _ 125 125 rfl (by decide) (by exact R2.out)).mono ?_
        rintro e w3 ⟨rfl, h3, hg3⟩
        have E : Hid (RdSt w3 b s ((st1.map (List.dropWhile isSp)).bind (markS 125)) ∧ w.grownBy w3 (some b) ∧ BoxIs w3 w.heap.size (.int .i64 0) (.int .i64 0) (.string ⟨#[]⟩) (.slice none 0 0) (.slice none 0 0) ∧ BoxIs w3 (w.heap.size + 1) (.int .i64 t.kind) (.int .i64 t.n) (.string ⟨t.s.toArray⟩) (.slice a7 t.keys.length c7) (.slice a8 t.l.length c8) ∧ VIs w3 (fun k => w.heap.size + 2 ≤ k) (f + 1) t (.agg #[.int .i64 t.kind, .int .i64 t.n, .string ⟨t.s.toArray⟩, .slice a7 t.keys.length c7, .slice a8 t.l.length c8])) :=
          ⟨h3, gb_trans D.out.2.2.2.2.2 hg3, D.out.2.1.grown hg3 (by simp; omega), D.out.2.2.1.grown hg3 (by simp; omega), D.out.2.2.2.1.grown hg3 (fun k hk e => by simp at e; omega)⟩
        clear h3 hg3 p0 p1 p2 p3 p4 q0 q1 q2 q3 q4
        obtain ⟨x0, x1, x2, x3, x4, y0, y1, y2, y3, y4⟩ := E.out.2.2.1.c
        obtain ⟨p0, p1, p2, p3, p4, -⟩ := E.out.2.2.2.1.c
        obtain ⟨z0, z1, z2, z3, z4, -⟩ := (E.out.2.2.1.set (.int .i64 t.kind) (.int .i64 t.n) (.string ⟨t.s.toArray⟩) (.slice a7 t.keys.length c7) (.slice a8 t.l.length c8)).c
        have Z : Hid (_ ∧ _ ∧ _ ∧ _ ∧ _) := ⟨z0, z1, z2, z3, z4⟩
        clear z0 z1 z2 z3 z4
        go_wp2_with fail
        obtain ⟨z0, z1, z2, z3, z4⟩ := Z.out
        refine bodyPost_ret (v := (.agg #[.int .i64 t.kind, .int .i64 t.n, .string ⟨t.s.toArray⟩, .slice a7 t.keys.length c7, .slice a8 t.l.length c8])) ?_ rfl ?_
        · simp only [set5] at z0 z1 z2 z3 z4
          simp [results, Tryz.results96, go_sem, z0, z1, z2, z3, z4]
        · obtain ⟨e1, e2, e3, e4, e5⟩ := E.out
          have g5 := set5_gb w3 w.heap.size (.int .i64 t.kind) (.int .i64 t.n) (.string ⟨t.s.toArray⟩) (.slice a7 t.keys.length c7) (.slice a8 t.l.length c8)
          refine ⟨t, (st1.map (List.dropWhile isSp)).bind (markS 125), a7, a8, c7, c8, rfl, (e5.grown g5 (fun k hk e => by simp at e; omega)).weak (fun k hk => by omega), ?_, e1.of_heap (g5.block b e1.lt (by simp; omega)), gb_own e2 g5 (by intro k hk; cases hk; exact Nat.le_refl _)⟩
          rw [← A.out.2.1, membs_end HM.out]
end Go.Proofs.YtmdemcjmcnfjmaaGreatDoor

/- What value of json's reader does: what valS says. -/
set_option linter.unusedSimpArgs false
set_option linter.unusedVariables false
namespace Go.Proofs.YtmdemcjmcnfjmaaGreatDoor
open Go.RowKit

theorem spaces_st (w : World) (b : Nat) (s : ByteArray) (st : Option (List UInt8)) (h : RdSt w b s st) :
    Calls Tryz.prog 64 #[.pointer (some ⟨b, 0, none⟩)] w fun e w' => e = .returned (.tuple #[]) ∧ RdSt w' b s (st.map (List.dropWhile isSp)) ∧ w.grownBy w' (some b) := by
  refine (spaces_at w b s _ _ h).mono ?_
  rintro e w' ⟨he, hr, hg⟩
  refine ⟨he, ?_, hg⟩
  cases st with
  | none => exact hr
  | some l => exact hr
theorem valS_next (f : Nat) (st : Option (List UInt8)) : st.bind (valS (f + 1)) = (st.map (List.dropWhile isSp)).bind (oneS (valS f)) := by cases st <;> rfl
theorem hd_ne {l : List UInt8} {c : UInt8} {m : Int} (hm : m = (c.toNat : Int)) (h : hd0 l ≠ c) : (((hd0 l).toNat : Int) == m) = false := u8_ne hm h
theorem hd_eq {l : List UInt8} {c : UInt8} {m : Int} (hm : m = (c.toNat : Int)) (h : hd0 l = c) : (((hd0 l).toNat : Int) == m) = true := by rw [h, hm]; simp

/- The answer, put into the result's block. -/
theorem val_fin {f : Nat} {w w3 : World} {b : Nat} {s : ByteArray} {st st' : Option (List UInt8)} {t : V} {a7 a8 : Option Addr} {c7 c8 : Nat} (hbl : b < w.heap.size) (hv : VIs w3 (fun k => w.heap.size + 1 ≤ k) (f + 1) t (.agg #[.int .i64 t.kind, .int .i64 t.n, .string ⟨t.s.toArray⟩, .slice a7 t.keys.length c7, .slice a8 t.l.length c8]))
    (hst : st.bind (valS (f + 1)) = st'.map (fun l => (t, l))) (hr : RdSt w3 b s st') (hg : w.grownBy w3 (some b)) (hbx : BoxIs w3 w.heap.size (.int .i64 0) (.int .i64 0) (.string ⟨#[]⟩) (.slice none 0 0) (.slice none 0 0)) :
    BoxIs (set5 w3 w.heap.size (.int .i64 t.kind) (.int .i64 t.n) (.string ⟨t.s.toArray⟩) (.slice a7 t.keys.length c7) (.slice a8 t.l.length c8)) w.heap.size (.int .i64 t.kind) (.int .i64 t.n) (.string ⟨t.s.toArray⟩) (.slice a7 t.keys.length c7) (.slice a8 t.l.length c8) ∧ VIs (set5 w3 w.heap.size (.int .i64 t.kind) (.int .i64 t.n) (.string ⟨t.s.toArray⟩) (.slice a7 t.keys.length c7) (.slice a8 t.l.length c8)) (fun k => w.heap.size ≤ k) (f + 1) t (.agg #[.int .i64 t.kind, .int .i64 t.n, .string ⟨t.s.toArray⟩, .slice a7 t.keys.length c7, .slice a8 t.l.length c8]) ∧ RdSt (set5 w3 w.heap.size (.int .i64 t.kind) (.int .i64 t.n) (.string ⟨t.s.toArray⟩) (.slice a7 t.keys.length c7) (.slice a8 t.l.length c8)) b s st' ∧ w.grownBy (set5 w3 w.heap.size (.int .i64 t.kind) (.int .i64 t.n) (.string ⟨t.s.toArray⟩) (.slice a7 t.keys.length c7) (.slice a8 t.l.length c8)) (some b) := by
  have g5 := set5_gb w3 w.heap.size (.int .i64 t.kind) (.int .i64 t.n) (.string ⟨t.s.toArray⟩) (.slice a7 t.keys.length c7) (.slice a8 t.l.length c8)
  exact ⟨hbx.set _ _ _ _ _, (hv.grown g5 (fun k hk e => by simp at e; omega)).weak (fun k hk => by omega), hr.of_heap (g5.block b hr.lt (by simp; omega)), gb_own hg g5 (by intro k hk; cases hk; exact Nat.le_refl _)⟩

set_option maxRecDepth 100000 in
set_option maxHeartbeats 8000000 in
theorem value_succ (hW : WithC) (f : Nat) (ih : ValC f) : ValC (f + 1) := by
  intro w b s st h hG hb4 hlen
  have H := hidI h
  have HG := hidI hG
  have IH := hidI ih
  have HW := hidI hW
  have hbl := h.lt
  clear h hG ih hW
  go_enter Tryz.func63, Tryz.ntmps63
  go_wp2_with fail
  refine (spaces_st _ b s st (by exact H.out.grown (World.grownBy_alloc w _ none) (by simp))).mono ?_
  rintro e w1 ⟨rfl, h1, hg1⟩
  have K1 : Hid (RdSt w1 b s (st.map (List.dropWhile isSp)) ∧ w.grownBy w1 (some b) ∧ BoxIs w1 w.heap.size (.int .i64 0) (.int .i64 0) (.string ⟨#[]⟩) (.slice none 0 0) (.slice none 0 0) ∧ Glob w1) := by
    have g := gb_trans (gb_alloc (gb_refl w (some b)) _) hg1
    exact ⟨h1, g, BoxIs.grown (heap_alloc_new w _) hg1 (by simp; omega), HG.out.grown g (by intro k hk; cases hk; exact hb4)⟩
  clear h1 hg1
  go_wp2_with fail
  refine (ahead_at _ b s ((st.map (List.dropWhile isSp)).getD []) (st.map (List.dropWhile isSp)).isNone (by exact K1.out.1)).mono ?_
  rintro e w2 ⟨rfl, n2, hw2⟩
  have K2 : Hid (RdSt w2 b s (st.map (List.dropWhile isSp)) ∧ w.grownBy w2 (some b) ∧ BoxIs w2 w.heap.size (.int .i64 0) (.int .i64 0) (.string ⟨#[]⟩) (.slice none 0 0) (.slice none 0 0) ∧ Glob w2) := by
    rw [hw2]; exact ⟨K1.out.1.of_heap rfl, gb_drewN K1.out.2.1 _, K1.out.2.2.1, K1.out.2.2.2.same rfl⟩
  have hsz2 : w.heap.size + 1 ≤ w2.heap.size := K2.out.2.2.1.lt
  clear hw2 K1
  have N : Hid (st.bind (valS (f + 1)) = (st.map (List.dropWhile isSp)).bind (oneS (valS f))) := valS_next f st
  have hlen2 : Hid ((((st.map (List.dropWhile isSp)).getD []).length < f + 1)) := by
    show _ < _
    cases st with
    | none => simp
    | some l => have := dropSp_len l; simp only [Option.getD_some, Option.map_some] at hlen ⊢; omega
  obtain ⟨st1, hst1⟩ : ∃ st1, st1 = st.map (List.dropWhile isSp) := ⟨_, rfl⟩
  rw [← hst1] at K2 N hlen2 ⊢
  have HST := hidI hst1
  clear hst1
  by_cases q110 : hd0 (st1.getD []) = 110
  · have d := hd_eq (m := 110) rfl q110
    have E : Hid (st1.bind (oneS (valS f)) = (st1.bind (wordS [110, 117, 108, 108])).map fun r => (leafV 0 0 [], r)) := by
      cases st1 with
      | none => rfl
      | some l =>
        have q : hd0 l = 110 := q110
        show oneS (valS f) l = _
        simp only [oneS, q]
        rfl
    go_wp2_with fail
    refine (word_st _ b s st1 ⟨#[110, 117, 108, 108]⟩ 0 0 (by unfold I64; omega) (by unfold I64; omega) (by decide) (by decide) (by exact K2.out.1)).mono ?_
    rintro e w3 ⟨t, v, st3, rfl, ⟨kk, nn, rfl, rfl, hkk, hnn⟩, hst3, hr3, hg3⟩
    have HSTF : Hid (st.bind (valS (f + 1)) = st3.map (fun l => (leafV kk nn [], l))) := by show _ = _; rw [N.out, E.out]; exact hst3
    have HBX : BoxIs w3 w.heap.size (.int .i64 0) (.int .i64 0) (.string ⟨#[]⟩) (.slice none 0 0) (.slice none 0 0) := K2.out.2.2.1.grown hg3 (by simp; omega)
    have HVV : VIs w3 (fun k => w.heap.size + 1 ≤ k) (f + 1) (leafV kk nn []) (leaf kk nn []) := leaf_is _ _ f _ _ _ hkk hnn (by simp)
    have HGG := gb_trans K2.out.2.1 hg3
    have HRR := hr3
    have HST2 := HSTF.out
    clear hst3 hr3 hg3
    unfold leaf str
    have FIN := hidI (val_fin (f := f) (a7 := none) (a8 := none) (c7 := 0) (c8 := 0) hbl HVV HST2 HRR HGG HBX)
    obtain ⟨x0, x1, x2, x3, x4, y0, y1, y2, y3, y4⟩ := HBX.c
    obtain ⟨z0, z1, z2, z3, z4, -⟩ := (HBX.set (.int .i64 kk) (.int .i64 nn) (.string ⟨#[]⟩) (.slice none 0 0) (.slice none 0 0)).c
    clear HVV HST2 HRR HGG HBX
    have Z : Hid (_ ∧ _ ∧ _ ∧ _ ∧ _) := ⟨z0, z1, z2, z3, z4⟩
    clear z0 z1 z2 z3 z4
    go_wp2_with fail
    obtain ⟨z0, z1, z2, z3, z4⟩ := Z.out
    refine bodyPost_ret (v := leaf kk nn []) ?_ rfl ?_
    · simp only [set5] at z0 z1 z2 z3 z4
      simp [results, Tryz.results63, go_sem, z0, z1, z2, z3, z4, leaf, leafV, str]
    · exact ⟨leafV kk nn [], st3, none, none, 0, 0, rfl, FIN.out.2.1, HSTF.out, FIN.out.2.2.1, FIN.out.2.2.2⟩
  have n110 := hd_ne (m := 110) rfl q110
  by_cases q102 : hd0 (st1.getD []) = 102
  · have d := hd_eq (m := 102) rfl q102
    have E : Hid (st1.bind (oneS (valS f)) = (st1.bind (wordS [102, 97, 108, 115, 101])).map fun r => (leafV 1 0 [], r)) := by
      cases st1 with
      | none => rfl
      | some l =>
        have q : hd0 l = 102 := q102
        show oneS (valS f) l = _
        simp only [oneS, q]
        rfl
    go_wp2_with fail
    refine (word_st _ b s st1 ⟨#[102, 97, 108, 115, 101]⟩ 1 0 (by unfold I64; omega) (by unfold I64; omega) (by decide) (by decide) (by exact K2.out.1)).mono ?_
    rintro e w3 ⟨t, v, st3, rfl, ⟨kk, nn, rfl, rfl, hkk, hnn⟩, hst3, hr3, hg3⟩
    have HSTF : Hid (st.bind (valS (f + 1)) = st3.map (fun l => (leafV kk nn [], l))) := by show _ = _; rw [N.out, E.out]; exact hst3
    have HBX : BoxIs w3 w.heap.size (.int .i64 0) (.int .i64 0) (.string ⟨#[]⟩) (.slice none 0 0) (.slice none 0 0) := K2.out.2.2.1.grown hg3 (by simp; omega)
    have HVV : VIs w3 (fun k => w.heap.size + 1 ≤ k) (f + 1) (leafV kk nn []) (leaf kk nn []) := leaf_is _ _ f _ _ _ hkk hnn (by simp)
    have HGG := gb_trans K2.out.2.1 hg3
    have HRR := hr3
    have HST2 := HSTF.out
    clear hst3 hr3 hg3
    unfold leaf str
    have FIN := hidI (val_fin (f := f) (a7 := none) (a8 := none) (c7 := 0) (c8 := 0) hbl HVV HST2 HRR HGG HBX)
    obtain ⟨x0, x1, x2, x3, x4, y0, y1, y2, y3, y4⟩ := HBX.c
    obtain ⟨z0, z1, z2, z3, z4, -⟩ := (HBX.set (.int .i64 kk) (.int .i64 nn) (.string ⟨#[]⟩) (.slice none 0 0) (.slice none 0 0)).c
    clear HVV HST2 HRR HGG HBX
    have Z : Hid (_ ∧ _ ∧ _ ∧ _ ∧ _) := ⟨z0, z1, z2, z3, z4⟩
    clear z0 z1 z2 z3 z4
    go_wp2_with fail
    obtain ⟨z0, z1, z2, z3, z4⟩ := Z.out
    refine bodyPost_ret (v := leaf kk nn []) ?_ rfl ?_
    · simp only [set5] at z0 z1 z2 z3 z4
      simp [results, Tryz.results63, go_sem, z0, z1, z2, z3, z4, leaf, leafV, str]
    · exact ⟨leafV kk nn [], st3, none, none, 0, 0, rfl, FIN.out.2.1, HSTF.out, FIN.out.2.2.1, FIN.out.2.2.2⟩
  have n102 := hd_ne (m := 102) rfl q102
  by_cases q116 : hd0 (st1.getD []) = 116
  · have d := hd_eq (m := 116) rfl q116
    have E : Hid (st1.bind (oneS (valS f)) = (st1.bind (wordS [116, 114, 117, 101])).map fun r => (leafV 1 1 [], r)) := by
      cases st1 with
      | none => rfl
      | some l =>
        have q : hd0 l = 116 := q116
        show oneS (valS f) l = _
        simp only [oneS, q]
        rfl
    go_wp2_with fail
    refine (word_st _ b s st1 ⟨#[116, 114, 117, 101]⟩ 1 1 (by unfold I64; omega) (by unfold I64; omega) (by decide) (by decide) (by exact K2.out.1)).mono ?_
    rintro e w3 ⟨t, v, st3, rfl, ⟨kk, nn, rfl, rfl, hkk, hnn⟩, hst3, hr3, hg3⟩
    have HSTF : Hid (st.bind (valS (f + 1)) = st3.map (fun l => (leafV kk nn [], l))) := by show _ = _; rw [N.out, E.out]; exact hst3
    have HBX : BoxIs w3 w.heap.size (.int .i64 0) (.int .i64 0) (.string ⟨#[]⟩) (.slice none 0 0) (.slice none 0 0) := K2.out.2.2.1.grown hg3 (by simp; omega)
    have HVV : VIs w3 (fun k => w.heap.size + 1 ≤ k) (f + 1) (leafV kk nn []) (leaf kk nn []) := leaf_is _ _ f _ _ _ hkk hnn (by simp)
    have HGG := gb_trans K2.out.2.1 hg3
    have HRR := hr3
    have HST2 := HSTF.out
    clear hst3 hr3 hg3
    unfold leaf str
    have FIN := hidI (val_fin (f := f) (a7 := none) (a8 := none) (c7 := 0) (c8 := 0) hbl HVV HST2 HRR HGG HBX)
    obtain ⟨x0, x1, x2, x3, x4, y0, y1, y2, y3, y4⟩ := HBX.c
    obtain ⟨z0, z1, z2, z3, z4, -⟩ := (HBX.set (.int .i64 kk) (.int .i64 nn) (.string ⟨#[]⟩) (.slice none 0 0) (.slice none 0 0)).c
    clear HVV HST2 HRR HGG HBX
    have Z : Hid (_ ∧ _ ∧ _ ∧ _ ∧ _) := ⟨z0, z1, z2, z3, z4⟩
    clear z0 z1 z2 z3 z4
    go_wp2_with fail
    obtain ⟨z0, z1, z2, z3, z4⟩ := Z.out
    refine bodyPost_ret (v := leaf kk nn []) ?_ rfl ?_
    · simp only [set5] at z0 z1 z2 z3 z4
      simp [results, Tryz.results63, go_sem, z0, z1, z2, z3, z4, leaf, leafV, str]
    · exact ⟨leafV kk nn [], st3, none, none, 0, 0, rfl, FIN.out.2.1, HSTF.out, FIN.out.2.2.1, FIN.out.2.2.2⟩
  have n116 := hd_ne (m := 116) rfl q116
  by_cases q34 : hd0 (st1.getD []) = 34
  · have d := hd_eq (m := 34) rfl q34
    have E : Hid (st1.bind (oneS (valS f)) = (st1.bind quotS).map fun p => (leafV 3 0 p.1, p.2)) := by
      cases st1 with
      | none => rfl
      | some l =>
        show oneS (valS f) l = _
        simp only [oneS, if_neg (show ¬ hd0 l = 110 from q110), if_neg (show ¬ hd0 l = 102 from q102), if_neg (show ¬ hd0 l = 116 from q116), if_pos (show hd0 l = 34 from q34)]
        rfl
    go_wp2_with fail
    refine (quoted_st _ b s st1 (by exact K2.out.1)).mono ?_
    rintro e w3 ⟨t, st3, rfl, hst3, hkl, hr3, hg3⟩
    have HSTF : Hid (st.bind (valS (f + 1)) = st3.map (fun l => (leafV 3 0 t, l))) := by
      show _ = _
      rw [N.out, E.out, hst3]; cases st3 <;> rfl
    have HBX : BoxIs w3 w.heap.size (.int .i64 0) (.int .i64 0) (.string ⟨#[]⟩) (.slice none 0 0) (.slice none 0 0) := K2.out.2.2.1.grown hg3 (by simp; omega)
    have HVV : VIs w3 (fun k => w.heap.size + 1 ≤ k) (f + 1) (leafV 3 0 t) (leaf 3 0 t) := leaf_is _ _ f _ _ _ (by unfold I64; omega) (by unfold I64; omega) (by unfold maxLen; omega)
    have HGG := gb_trans K2.out.2.1 hg3
    have HRR := hr3
    have HST2 := HSTF.out
    clear hst3 hr3 hg3
    have FIN := hidI (val_fin (f := f) (a7 := none) (a8 := none) (c7 := 0) (c8 := 0) hbl HVV HST2 HRR HGG HBX)
    obtain ⟨x0, x1, x2, x3, x4, y0, y1, y2, y3, y4⟩ := HBX.c
    obtain ⟨z0, z1, z2, z3, z4, -⟩ := (HBX.set (.int .i64 3) (.int .i64 0) (.string ⟨t.toArray⟩) (.slice none 0 0) (.slice none 0 0)).c
    clear HVV HST2 HRR HGG HBX
    have Z : Hid (_ ∧ _ ∧ _ ∧ _ ∧ _) := ⟨z0, z1, z2, z3, z4⟩
    clear z0 z1 z2 z3 z4
    go_wp2_with fail
    obtain ⟨z0, z1, z2, z3, z4⟩ := Z.out
    refine bodyPost_ret (v := leaf 3 0 t) ?_ rfl ?_
    · simp only [set5] at z0 z1 z2 z3 z4
      simp [results, Tryz.results63, go_sem, z0, z1, z2, z3, z4, leaf, str]
    · exact ⟨leafV 3 0 t, st3, none, none, 0, 0, rfl, FIN.out.2.1, HSTF.out, FIN.out.2.2.1, FIN.out.2.2.2⟩
  have n34 := hd_ne (m := 34) rfl q34
  by_cases q91 : hd0 (st1.getD []) = 91
  · have d := hd_eq (m := 91) rfl q91
    have E : Hid (st1.bind (oneS (valS f)) = st1.bind (listS (valS f))) := by
      cases st1 with
      | none => rfl
      | some l =>
        show oneS (valS f) l = _
        simp only [oneS, if_neg (show ¬ hd0 l = 110 from q110), if_neg (show ¬ hd0 l = 102 from q102), if_neg (show ¬ hd0 l = 116 from q116), if_neg (show ¬ hd0 l = 34 from q34), if_pos (show hd0 l = 91 from q91)]
        rfl
    have hf0 : 0 < f := by
      have := hlen2.out
      cases hs : st1.getD [] with
      | nil => rw [hs] at q91; simp [hd0] at q91
      | cons c r => rw [hs] at this; simp only [List.length_cons] at this; omega
    go_wp2_with fail
    refine (list_st f IH.out _ b s st1 (by exact K2.out.1) (by exact K2.out.2.2.2) hb4 hf0 hlen2.out).mono ?_
    rintro e w3 ⟨t, st3, a7, a8, c7, c8, rfl, hv3, hst3, hr3, hg3⟩
    have HSTF : Hid (st.bind (valS (f + 1)) = st3.map (fun l => (t, l))) := by
      show _ = _
      rw [N.out, E.out, hst3]
    have HBX : BoxIs w3 w.heap.size (.int .i64 0) (.int .i64 0) (.string ⟨#[]⟩) (.slice none 0 0) (.slice none 0 0) := K2.out.2.2.1.grown hg3 (by simp; omega)
    have HVV : VIs w3 (fun k => w.heap.size + 1 ≤ k) (f + 1) t (.agg #[.int .i64 t.kind, .int .i64 t.n, .string ⟨t.s.toArray⟩, .slice a7 t.keys.length c7, .slice a8 t.l.length c8]) := hv3.weak (fun k hk => by omega)
    have HGG := gb_trans K2.out.2.1 hg3
    have HRR := hr3
    have HST2 := HSTF.out
    clear hst3 hr3 hg3 hv3
    have FIN := hidI (val_fin (f := f) hbl HVV HST2 HRR HGG HBX)
    obtain ⟨x0, x1, x2, x3, x4, y0, y1, y2, y3, y4⟩ := HBX.c
    obtain ⟨z0, z1, z2, z3, z4, -⟩ := FIN.out.1.c
    clear HVV HST2 HRR HGG HBX
    have Z : Hid (_ ∧ _ ∧ _ ∧ _ ∧ _) := ⟨z0, z1, z2, z3, z4⟩
    clear z0 z1 z2 z3 z4
    go_wp2_with fail
    obtain ⟨z0, z1, z2, z3, z4⟩ := Z.out
    refine bodyPost_ret (v := (.agg #[.int .i64 t.kind, .int .i64 t.n, .string ⟨t.s.toArray⟩, .slice a7 t.keys.length c7, .slice a8 t.l.length c8])) ?_ rfl ?_
    · simp only [set5] at z0 z1 z2 z3 z4
      simp [results, Tryz.results63, go_sem, z0, z1, z2, z3, z4]
    · exact ⟨t, st3, a7, a8, c7, c8, rfl, FIN.out.2.1, HSTF.out, FIN.out.2.2.1, FIN.out.2.2.2⟩
  have n91 := hd_ne (m := 91) rfl q91
  by_cases q123 : hd0 (st1.getD []) = 123
  · have d := hd_eq (m := 123) rfl q123
    have E : Hid (st1.bind (oneS (valS f)) = st1.bind (objS (valS f))) := by
      cases st1 with
      | none => rfl
      | some l =>
        show oneS (valS f) l = _
        simp only [oneS, if_neg (show ¬ hd0 l = 110 from q110), if_neg (show ¬ hd0 l = 102 from q102), if_neg (show ¬ hd0 l = 116 from q116), if_neg (show ¬ hd0 l = 34 from q34), if_neg (show ¬ hd0 l = 91 from q91), if_pos (show hd0 l = 123 from q123)]
        rfl
    have hf0 : 0 < f := by
      have := hlen2.out
      cases hs : st1.getD [] with
      | nil => rw [hs] at q123; simp [hd0] at q123
      | cons c r => rw [hs] at this; simp only [List.length_cons] at this; omega
    go_wp2_with fail
    refine (object_st HW.out f IH.out _ b s st1 (by exact K2.out.1) (by exact K2.out.2.2.2) hb4 hf0 hlen2.out).mono ?_
    rintro e w3 ⟨t, st3, a7, a8, c7, c8, rfl, hv3, hst3, hr3, hg3⟩
    have HSTF : Hid (st.bind (valS (f + 1)) = st3.map (fun l => (t, l))) := by
      show _ = _
      rw [N.out, E.out, hst3]
    have HBX : BoxIs w3 w.heap.size (.int .i64 0) (.int .i64 0) (.string ⟨#[]⟩) (.slice none 0 0) (.slice none 0 0) := K2.out.2.2.1.grown hg3 (by simp; omega)
    have HVV : VIs w3 (fun k => w.heap.size + 1 ≤ k) (f + 1) t (.agg #[.int .i64 t.kind, .int .i64 t.n, .string ⟨t.s.toArray⟩, .slice a7 t.keys.length c7, .slice a8 t.l.length c8]) := hv3.weak (fun k hk => by omega)
    have HGG := gb_trans K2.out.2.1 hg3
    have HRR := hr3
    have HST2 := HSTF.out
    clear hst3 hr3 hg3 hv3
    have FIN := hidI (val_fin (f := f) hbl HVV HST2 HRR HGG HBX)
    obtain ⟨x0, x1, x2, x3, x4, y0, y1, y2, y3, y4⟩ := HBX.c
    obtain ⟨z0, z1, z2, z3, z4, -⟩ := FIN.out.1.c
    clear HVV HST2 HRR HGG HBX
    have Z : Hid (_ ∧ _ ∧ _ ∧ _ ∧ _) := ⟨z0, z1, z2, z3, z4⟩
    clear z0 z1 z2 z3 z4
    go_wp2_with fail
    obtain ⟨z0, z1, z2, z3, z4⟩ := Z.out
    refine bodyPost_ret (v := (.agg #[.int .i64 t.kind, .int .i64 t.n, .string ⟨t.s.toArray⟩, .slice a7 t.keys.length c7, .slice a8 t.l.length c8])) ?_ rfl ?_
    · simp only [set5] at z0 z1 z2 z3 z4
      simp [results, Tryz.results63, go_sem, z0, z1, z2, z3, z4]
    · exact ⟨t, st3, a7, a8, c7, c8, rfl, FIN.out.2.1, HSTF.out, FIN.out.2.2.1, FIN.out.2.2.2⟩
  have n123 := hd_ne (m := 123) rfl q123
  have E : Hid (st1.bind (oneS (valS f)) = (st1.bind numS).map fun p => (leafV 2 p.1 [], p.2)) := by
    cases st1 with
    | none => rfl
    | some l =>
      show oneS (valS f) l = _
      simp only [oneS, if_neg (show ¬ hd0 l = 110 from q110), if_neg (show ¬ hd0 l = 102 from q102), if_neg (show ¬ hd0 l = 116 from q116), if_neg (show ¬ hd0 l = 34 from q34), if_neg (show ¬ hd0 l = 91 from q91), if_neg (show ¬ hd0 l = 123 from q123)]
      rfl
  go_wp2_with fail
  refine (number_st _ b s st1 (by exact K2.out.1) (by exact K2.out.2.2.2) hb4).mono ?_
  rintro e w3 ⟨t, v, st3, rfl, ⟨kk, nn, rfl, rfl, hkk, hnn⟩, hst3, hr3, hg3⟩
  have HSTF : Hid (st.bind (valS (f + 1)) = st3.map (fun l => (leafV kk nn [], l))) := by show _ = _; rw [N.out, E.out]; exact hst3
  have HBX : BoxIs w3 w.heap.size (.int .i64 0) (.int .i64 0) (.string ⟨#[]⟩) (.slice none 0 0) (.slice none 0 0) := K2.out.2.2.1.grown hg3 (by simp; omega)
  have HVV : VIs w3 (fun k => w.heap.size + 1 ≤ k) (f + 1) (leafV kk nn []) (leaf kk nn []) := leaf_is _ _ f _ _ _ hkk hnn (by simp)
  have HGG := gb_trans K2.out.2.1 hg3
  have HRR := hr3
  have HST2 := HSTF.out
  clear hst3 hr3 hg3
  unfold leaf str
  have FIN := hidI (val_fin (f := f) (a7 := none) (a8 := none) (c7 := 0) (c8 := 0) hbl HVV HST2 HRR HGG HBX)
  obtain ⟨x0, x1, x2, x3, x4, y0, y1, y2, y3, y4⟩ := HBX.c
  obtain ⟨z0, z1, z2, z3, z4, -⟩ := (HBX.set (.int .i64 kk) (.int .i64 nn) (.string ⟨#[]⟩) (.slice none 0 0) (.slice none 0 0)).c
  clear HVV HST2 HRR HGG HBX
  have Z : Hid (_ ∧ _ ∧ _ ∧ _ ∧ _) := ⟨z0, z1, z2, z3, z4⟩
  clear z0 z1 z2 z3 z4
  go_wp2_with fail
  obtain ⟨z0, z1, z2, z3, z4⟩ := Z.out
  refine bodyPost_ret (v := leaf kk nn []) ?_ rfl ?_
  · simp only [set5] at z0 z1 z2 z3 z4
    simp [results, Tryz.results63, go_sem, z0, z1, z2, z3, z4, leaf, str]
  · exact ⟨leafV kk nn [], st3, none, none, 0, 0, rfl, FIN.out.2.1, HSTF.out, FIN.out.2.2.1, FIN.out.2.2.2⟩

theorem value_all (hW : WithC) (f : Nat) : ValC f := by
  induction f with
  | zero => intro w b s st h hG hb4 hlen; omega
  | succ f ih => exact value_succ hW f ih
end Go.Proofs.YtmdemcjmcnfjmaaGreatDoor

/- What Parse of package json does. -/
set_option linter.unusedSimpArgs false
set_option linter.unusedVariables false
namespace Go.Proofs.YtmdemcjmcnfjmaaGreatDoor
open Go.RowKit

theorem value_st (f : Nat) : ValC f := value_all with_all f
def parseV (l : List UInt8) : Option V := (valS (l.length + 1) l).bind fun p => if p.2.dropWhile isSp = [] ∧ goodV p.1 = true then some p.1 else none
def parseS (l : List UInt8) : V × Int := if 2000 < l.length then (leafV 0 0 [], 2) else match parseV l with | some t => (t, 0) | none => (leafV 0 0 [], 1)

set_option maxRecDepth 100000 in
set_option maxHeartbeats 4000000 in
theorem parse_at (w : World) (l : List UInt8) (hl : l.length ≤ maxLen) (hG : Glob w) :
    Calls Tryz.prog 30 #[str l] w fun e w' => ∃ (t : V) (ee : Int) (a7 a8 : Option Addr) (c7 c8 : Nat), e = .returned (.tuple #[(.agg #[.int .i64 t.kind, .int .i64 t.n, .string ⟨t.s.toArray⟩, .slice a7 t.keys.length c7, .slice a8 t.l.length c8]), .int .i64 ee]) ∧ parseS l = (t, ee) ∧ VIs w' (fun k => w.heap.size ≤ k) 2003 t (.agg #[.int .i64 t.kind, .int .i64 t.n, .string ⟨t.s.toArray⟩, .slice a7 t.keys.length c7, .slice a8 t.l.length c8]) ∧ Below w.heap.size w w' := by
  unfold maxLen at hl
  unfold str
  have HG := hidI hG
  clear hG
  by_cases h2 : 2000 < l.length
  · have e0 : 2000 < (l.length : Int) := by omega
    have PS : Hid (parseS l = (leafV 0 0 [], 2)) := hidI (by simp [parseS, h2])
    go_enter Tryz.func30, Tryz.ntmps30
    go_wp2_with fail
    refine bodyPost_ret (v := .tuple #[leaf 0 0 [], .int .i64 2]) (by simp [results, Tryz.results30, go_sem, leaf, str]) rfl ?_
    exact ⟨leafV 0 0 [], 2, none, none, 0, 0, rfl, PS.out, leaf_is _ _ 2002 _ _ _ (by unfold I64; omega) (by unfold I64; omega) (by simp), bel_alloc _ _⟩
  · have e0 : ¬ (2000 < (l.length : Int)) := by omega
    have PS0 : Hid (parseS l = match parseV l with | some t => (t, 0) | none => (leafV 0 0 [], 1)) := hidI (by simp only [parseS, if_neg h2])
    go_enter Tryz.func30, Tryz.ntmps30
    go_wp2_with fail
    have hrd : Hid (RdSt ((w.alloc zcells).alloc (.cells #[.string ⟨l.toArray⟩, .int .i64 0, .bool false] 97)) (w.heap.size + 1) ⟨l.toArray⟩ (some l)) := ⟨0, ⟨h2b w _ _, Nat.zero_le _, by simp [ByteArray.size]; omega⟩, by simp⟩
    have hG2 : Hid (Glob ((w.alloc zcells).alloc (.cells #[.string ⟨l.toArray⟩, .int .i64 0, .bool false] 97))) := HG.out.grown (gb_alloc (gb_alloc (gb_refl w none) _) _) (by simp)
    have hsz : 6 ≤ w.heap.size + 1 := by have := HG.out.size; omega
    refine (value_st (l.length + 1) _ (w.heap.size + 1) ⟨l.toArray⟩ (some l) (by exact hrd.out) (by exact hG2.out) hsz (by simp)).mono ?_
    rintro e w3 ⟨t, st3, a7, a8, c7, c8, rfl, hv3, hst3, hr3, hg3⟩
    have K3 : Hid (VIs w3 (fun k => w.heap.size + 2 ≤ k) (l.length + 1) t (.agg #[.int .i64 t.kind, .int .i64 t.n, .string ⟨t.s.toArray⟩, .slice a7 t.keys.length c7, .slice a8 t.l.length c8]) ∧ (some l).bind (valS (l.length + 1)) = st3.map (fun l => (t, l)) ∧ RdSt w3 (w.heap.size + 1) ⟨l.toArray⟩ st3 ∧ BoxIs w3 w.heap.size (.int .i64 0) (.int .i64 0) (.string ⟨#[]⟩) (.slice none 0 0) (.slice none 0 0) ∧ w.grownBy w3 none) :=
      ⟨by simpa using hv3, hst3, hr3, BoxIs.grown (h2a w _ _) hg3 (by simp), gb_out (gb_alloc (gb_alloc (gb_refl w none) _) _) hg3 (by omega)⟩
    have hsz3 : w.heap.size + 1 < w3.heap.size := hr3.lt
    clear hv3 hst3 hr3 hg3
    go_wp2_with fail
    refine (spaces_st _ (w.heap.size + 1) ⟨l.toArray⟩ st3 (by exact K3.out.2.2.1.grown (World.grownBy_alloc w3 _ none) (by simp))).mono ?_
    rintro e w4 ⟨rfl, hr4, hg4⟩
    have K4 : Hid (RdSt w4 (w.heap.size + 1) ⟨l.toArray⟩ (st3.map (List.dropWhile isSp)) ∧ BoxIs w4 w.heap.size (.int .i64 0) (.int .i64 0) (.string ⟨#[]⟩) (.slice none 0 0) (.slice none 0 0) ∧ BoxIs w4 w3.heap.size (.int .i64 t.kind) (.int .i64 t.n) (.string ⟨t.s.toArray⟩) (.slice a7 t.keys.length c7) (.slice a8 t.l.length c8) ∧ VIs w4 (fun k => w.heap.size + 2 ≤ k) (l.length + 1) t (.agg #[.int .i64 t.kind, .int .i64 t.n, .string ⟨t.s.toArray⟩, .slice a7 t.keys.length c7, .slice a8 t.l.length c8]) ∧ w.grownBy w4 none) :=
      ⟨hr4, (K3.out.2.2.2.1.grown (World.grownBy_alloc w3 _ none) (by simp)).grown hg4 (by simp), BoxIs.grown (heap_alloc_new w3 _) hg4 (by simp; omega), (K3.out.1.grown (World.grownBy_alloc w3 _ none) (by simp)).grown hg4 (fun k hk e => by simp at e; omega), gb_out (gb_alloc K3.out.2.2.2.2 _) hg4 (by omega)⟩
    clear hr4 hg4
    have hval : valS (l.length + 1) l = st3.map (fun l => (t, l)) := K3.out.2.1
    match st3, K3, K4, hval with
    | none, K3, K4, hval =>
      have PS : Hid (parseS l = (leafV 0 0 [], 1)) := hidI (by
        have : parseV l = none := by unfold parseV; rw [hval]; rfl
        rw [PS0.out, this])
      obtain ⟨-, -, c2, -, -⟩ := (RdAt.nil K4.out.1).c
      have EN : Hid (BoxIs w4 w.heap.size (.int .i64 0) (.int .i64 0) (.string ⟨#[]⟩) (.slice none 0 0) (.slice none 0 0) ∧ w.grownBy w4 none) := ⟨K4.out.2.1, K4.out.2.2.2.2⟩
      clear hval
      obtain ⟨x0, x1, x2, x3, x4, y0, y1, y2, y3, y4⟩ := EN.out.1.c
      obtain ⟨z0, z1, z2, z3, z4, -⟩ := (EN.out.1.set (.int .i64 0) (.int .i64 0) (.string ⟨#[]⟩) (.slice none 0 0) (.slice none 0 0)).c
      have Z : Hid (_ ∧ _ ∧ _ ∧ _ ∧ _) := ⟨z0, z1, z2, z3, z4⟩
      clear z0 z1 z2 z3 z4
      go_wp2_with fail
      obtain ⟨z0, z1, z2, z3, z4⟩ := Z.out
      refine bodyPost_ret (v := .tuple #[leaf 0 0 [], .int .i64 1]) ?_ rfl ?_
      · simp only [set5] at z0 z1 z2 z3 z4
        simp [results, Tryz.results30, go_sem, z0, z1, z2, z3, z4, leaf, str]
      · exact ⟨leafV 0 0 [], 1, none, none, 0, 0, rfl, PS.out, leaf_is _ _ 2002 _ _ _ (by unfold I64; omega) (by unfold I64; omega) (by simp), gb_none (gb_set5 EN.out.2 (Nat.le_refl _) _ _ _ _ _)⟩
    | some r, K3, K4, hval =>
      obtain ⟨i, hi, ei⟩ := K4.out.1
      obtain ⟨c0, c1, c2, -, -⟩ := hi.c
      have hile := hi.2.1
      have hel : (ByteArray.mk l.toArray).size = l.length := by simp [ByteArray.size]
      rw [hel] at hile
      have EI := hidI ei
      clear hi ei
      cases hd : r.dropWhile isSp with
      | cons x r2 =>
        have hlt : (i : Int) < (l.length : Int) := by
          have h9 := EI.out
          rw [show (some r).map (List.dropWhile isSp) = some (r.dropWhile isSp) from rfl, hd] at h9
          have := congrArg List.length h9
          simp at this
          omega
        have PS : Hid (parseS l = (leafV 0 0 [], 1)) := hidI (by
          have : parseV l = none := by unfold parseV; rw [hval]; simp [hd]
          rw [PS0.out, this])
        have EN : Hid (BoxIs w4 w.heap.size (.int .i64 0) (.int .i64 0) (.string ⟨#[]⟩) (.slice none 0 0) (.slice none 0 0) ∧ w.grownBy w4 none) := ⟨K4.out.2.1, K4.out.2.2.2.2⟩
        clear hval hd
        obtain ⟨x0, x1, x2, x3, x4, y0, y1, y2, y3, y4⟩ := EN.out.1.c
        obtain ⟨z0, z1, z2, z3, z4, -⟩ := (EN.out.1.set (.int .i64 0) (.int .i64 0) (.string ⟨#[]⟩) (.slice none 0 0) (.slice none 0 0)).c
        have Z : Hid (_ ∧ _ ∧ _ ∧ _ ∧ _) := ⟨z0, z1, z2, z3, z4⟩
        clear z0 z1 z2 z3 z4
        go_wp2_with fail
        obtain ⟨z0, z1, z2, z3, z4⟩ := Z.out
        refine bodyPost_ret (v := .tuple #[leaf 0 0 [], .int .i64 1]) ?_ rfl ?_
        · simp only [set5] at z0 z1 z2 z3 z4
          simp [results, Tryz.results30, go_sem, z0, z1, z2, z3, z4, leaf, str]
        · exact ⟨leafV 0 0 [], 1, none, none, 0, 0, rfl, PS.out, leaf_is _ _ 2002 _ _ _ (by unfold I64; omega) (by unfold I64; omega) (by simp), gb_none (gb_set5 EN.out.2 (Nat.le_refl _) _ _ _ _ _)⟩
      | nil =>
        have hge : ¬ ((i : Int) < (l.length : Int)) := by
          have h9 := EI.out
          rw [show (some r).map (List.dropWhile isSp) = some (r.dropWhile isSp) from rfl, hd] at h9
          have := congrArg List.length h9
          simp at this
          omega
        obtain ⟨p0, p1, p2, p3, p4, -⟩ := K4.out.2.2.1.c
        cases hgd : goodV t with
        | true =>
          have PS : Hid (parseS l = (t, 0)) := hidI (by
            have : parseV l = some t := by unfold parseV; rw [hval]; simp [hd, hgd]
            rw [PS0.out, this])
          have HGD := hidI hgd
          clear hval hd hgd
          go_wp2_with fail
          refine (Good_at _ _ _ t _ (by exact K4.out.2.2.2.1)).mono ?_
          rintro e w5 ⟨rfl, hb5⟩
          rw [HGD.out]
          have K5 : Hid (BoxIs w5 w.heap.size (.int .i64 0) (.int .i64 0) (.string ⟨#[]⟩) (.slice none 0 0) (.slice none 0 0) ∧ BoxIs w5 w3.heap.size (.int .i64 t.kind) (.int .i64 t.n) (.string ⟨t.s.toArray⟩) (.slice a7 t.keys.length c7) (.slice a8 t.l.length c8) ∧ VIs w5 (fun k => w.heap.size + 2 ≤ k) (l.length + 1) t (.agg #[.int .i64 t.kind, .int .i64 t.n, .string ⟨t.s.toArray⟩, .slice a7 t.keys.length c7, .slice a8 t.l.length c8]) ∧ w.grownBy w5 none) := ⟨box_bel hb5 K4.out.2.1, box_bel hb5 K4.out.2.2.1, K4.out.2.2.2.1.bel hb5, gb_trans K4.out.2.2.2.2 (gb_below hb5)⟩
          clear hb5 p0 p1 p2 p3 p4 c0 c1 c2
          obtain ⟨p0, p1, p2, p3, p4, -⟩ := K5.out.2.1.c
          obtain ⟨x0, x1, x2, x3, x4, y0, y1, y2, y3, y4⟩ := K5.out.1.c
          obtain ⟨z0, z1, z2, z3, z4, -⟩ := (K5.out.1.set (.int .i64 t.kind) (.int .i64 t.n) (.string ⟨t.s.toArray⟩) (.slice a7 t.keys.length c7) (.slice a8 t.l.length c8)).c
          have Z : Hid (_ ∧ _ ∧ _ ∧ _ ∧ _) := ⟨z0, z1, z2, z3, z4⟩
          clear z0 z1 z2 z3 z4
          go_wp2_with fail
          obtain ⟨z0, z1, z2, z3, z4⟩ := Z.out
          refine bodyPost_ret (v := .tuple #[(.agg #[.int .i64 t.kind, .int .i64 t.n, .string ⟨t.s.toArray⟩, .slice a7 t.keys.length c7, .slice a8 t.l.length c8]), .int .i64 0]) ?_ rfl ?_
          · simp only [set5] at z0 z1 z2 z3 z4
            simp [results, Tryz.results30, go_sem, z0, z1, z2, z3, z4]
          · refine ⟨t, 0, a7, a8, c7, c8, rfl, PS.out, ?_, gb_none (gb_set5 K5.out.2.2.2 (Nat.le_refl _) _ _ _ _ _)⟩
            exact ((K5.out.2.2.1.grown (set5_gb w5 w.heap.size (.int .i64 t.kind) (.int .i64 t.n) (.string ⟨t.s.toArray⟩) (.slice a7 t.keys.length c7) (.slice a8 t.l.length c8)) (fun k hk e => by simp at e; omega)).weak (fun k hk => by omega)).le (by omega)
        | false =>
          have PS : Hid (parseS l = (leafV 0 0 [], 1)) := hidI (by
            have : parseV l = none := by unfold parseV; rw [hval]; simp [hgd]
            rw [PS0.out, this])
          have HGD := hidI hgd
          clear hval hd hgd
          go_wp2_with fail
          refine (Good_at _ _ _ t _ (by exact K4.out.2.2.2.1)).mono ?_
          rintro e w5 ⟨rfl, hb5⟩
          rw [HGD.out]
          have EN : Hid (BoxIs w5 w.heap.size (.int .i64 0) (.int .i64 0) (.string ⟨#[]⟩) (.slice none 0 0) (.slice none 0 0) ∧ w.grownBy w5 none) := ⟨box_bel hb5 K4.out.2.1, gb_trans K4.out.2.2.2.2 (gb_below hb5)⟩
          clear hb5 p0 p1 p2 p3 p4 c0 c1 c2
          obtain ⟨x0, x1, x2, x3, x4, y0, y1, y2, y3, y4⟩ := EN.out.1.c
          obtain ⟨z0, z1, z2, z3, z4, -⟩ := (EN.out.1.set (.int .i64 0) (.int .i64 0) (.string ⟨#[]⟩) (.slice none 0 0) (.slice none 0 0)).c
          have Z : Hid (_ ∧ _ ∧ _ ∧ _ ∧ _) := ⟨z0, z1, z2, z3, z4⟩
          clear z0 z1 z2 z3 z4
          go_wp2_with fail
          obtain ⟨z0, z1, z2, z3, z4⟩ := Z.out
          refine bodyPost_ret (v := .tuple #[leaf 0 0 [], .int .i64 1]) ?_ rfl ?_
          · simp only [set5] at z0 z1 z2 z3 z4
            simp [results, Tryz.results30, go_sem, z0, z1, z2, z3, z4, leaf, str]
          · exact ⟨leafV 0 0 [], 1, none, none, 0, 0, rfl, PS.out, leaf_is _ _ 2002 _ _ _ (by unfold I64; omega) (by unfold I64; omega) (by simp), gb_none (gb_set5 EN.out.2 (Nat.le_refl _) _ _ _ _ _)⟩
end Go.Proofs.YtmdemcjmcnfjmaaGreatDoor

/- What owns of package keep answers. -/
set_option linter.unusedSimpArgs false
set_option linter.unusedVariables false
namespace Go.Proofs.YtmdemcjmcnfjmaaGreatDoor
open Go.RowKit

def wantT : V := ⟨5, 0, [], [[97], [98]], [⟨2, 1, [], [], []⟩, ⟨5, 0, [], [[99]], [⟨2, 2, [], [], []⟩]⟩]⟩
theorem want_parse : parseS [123, 34, 97, 34, 58, 49, 44, 34, 98, 34, 58, 123, 34, 99, 34, 58, 50, 125, 125] = (wantT, 0) := by kernel_rfl
theorem want_good : goodV wantT = true := by kernel_rfl
theorem obj_good : goodV objT = true := by kernel_rfl
theorem want_leaves : leavesF wantT = [[47, 97], [47, 98, 47, 99]] := by kernel_rfl
theorem want_laid : laidAllF wantT [[47, 97], [47, 98, 47, 99]] objT = wantT := by kernel_rfl
theorem want_apply : applyF objT [] [109, 101] wantT false = (wantT, [⟨[109, 101], [[47, 97], [47, 98, 47, 99]]⟩], [], 0) := by
  have e1 : othersF objT wantT [] [109, 101] = [] := rfl
  have e2 : resultF objT wantT [] [109, 101] = wantT := by
    show laidAllF wantT (leavesF wantT) (clearedF (leavesF wantT) (othersF objT wantT [] [109, 101]) [] objT) = wantT
    rw [want_leaves]
    exact want_laid
  have e3 : withOwnF [] ⟨[109, 101], [[47, 97], [47, 98, 47, 99]]⟩ = [⟨[109, 101], [[47, 97], [47, 98, 47, 99]]⟩] := rfl
  unfold applyF
  rw [if_pos ⟨⟨rfl, obj_good⟩, ⟨rfl, want_good⟩, by kernel_rfl, by kernel_rfl⟩, if_neg (fun h => h.1 rfl), e1, e2, want_leaves, e3, if_pos ⟨want_good, by simp⟩]
theorem in_obj (w : World) (ok : Nat → Prop) : In w ok objT (.agg #[.int .i64 5, .int .i64 0, .string ⟨#[]⟩, .slice none 0 0, .slice none 0 0]) := ⟨1, _, _, rfl, by unfold I64; simp [objT], by unfold I64; simp [objT], by simp [objT, maxLen], ⟨by simp [objT, maxLen], .inl ⟨rfl, none, rfl⟩⟩, ⟨by simp [objT, maxLen], .inl ⟨rfl, none, rfl⟩⟩⟩
set_option maxRecDepth 100000 in
set_option maxHeartbeats 4000000 in
theorem owns_at (w : World) (hG : Glob w) (hM : GlobM w) : Calls Tryz.prog 7 #[] w fun e w' => e = .returned (.bool true) ∧ Below w.heap.size w w' := by
  have HM := hidI hM
  have PC : Hid (Calls Tryz.prog 30 #[.string ⟨#[123, 34, 97, 34, 58, 49, 44, 34, 98, 34, 58, 123, 34, 99, 34, 58, 50, 125, 125]⟩] w fun e w' => ∃ (a7 a8 : Option Addr) (c7 c8 : Nat), e = .returned (.tuple #[(.agg #[.int .i64 wantT.kind, .int .i64 wantT.n, .string ⟨wantT.s.toArray⟩, .slice a7 wantT.keys.length c7, .slice a8 wantT.l.length c8]), .int .i64 0]) ∧ In w' (fun _ => True) wantT (.agg #[.int .i64 wantT.kind, .int .i64 wantT.n, .string ⟨wantT.s.toArray⟩, .slice a7 wantT.keys.length c7, .slice a8 wantT.l.length c8]) ∧ Below w.heap.size w w') := hidI (by
    refine (parse_at w [123, 34, 97, 34, 58, 49, 44, 34, 98, 34, 58, 123, 34, 99, 34, 58, 50, 125, 125] (by simp [maxLen]) hG).mono ?_
    rintro e w' ⟨t, ee, a7, a8, c7, c8, rfl, hp, hv, hb⟩
    rw [want_parse] at hp
    cases hp
    exact ⟨a7, a8, c7, c8, rfl, ⟨_, hv.imp fun a x _ h => ⟨trivial, h⟩⟩, hb⟩)
  generalize hT : wantT = T at PC
  have HT := hidI hT
  clear hG hM hT
  go_enter Tryz.func7, Tryz.ntmps7
  go_upto_region 2 with (go_at_call 30; refine PC.out.mono ?_; rintro e w1 ⟨a7, a8, c7, c8, rfl, hi, hb⟩; have B1 := hidI hb; have I1 := hidI hi; clear hi hb)
  obtain ⟨W2, hW2⟩ : ∃ W, W = w1.alloc (.cells #[.int .i64 T.kind, .int .i64 T.n, .string ⟨T.s.toArray⟩, .slice a7 T.keys.length c7, .slice a8 T.l.length c8] 25) := ⟨_, rfl⟩
  have Y2 : Hid (Below w1.heap.size w1 W2) := hidI (by rw [hW2]; exact bel_alloc _ _)
  have X2 : Hid (BoxIs W2 w1.heap.size (.int .i64 T.kind) (.int .i64 T.n) (.string ⟨T.s.toArray⟩) (.slice a7 T.keys.length c7) (.slice a8 T.l.length c8)) := hidI (by rw [hW2]; exact heap_alloc_new _ _)
  rw [← hW2]
  clear hW2
  have B2 := hidI (bel_trans B1.out Y2.out)
  obtain ⟨p0, p1, p2, p3, p4, -⟩ := X2.out.c
  have AP : Hid (Calls Tryz.prog 6 #[.agg #[.int .i64 5, .int .i64 0, .string ⟨#[]⟩, .slice none 0 0, .slice none 0 0], .slice none 0 0, .string ⟨#[109, 101]⟩, .agg #[.int .i64 T.kind, .int .i64 T.n, .string ⟨T.s.toArray⟩, .slice a7 T.keys.length c7, .slice a8 T.l.length c8], .bool false] W2 fun e w' => ∃ (a9 b9 : Option Addr) (c9 d9 : Nat) (b off oc pb po pc : Nat) (rc : Value),
      e = .returned (.tuple #[.agg #[.int .i64 T.kind, .int .i64 T.n, .string ⟨T.s.toArray⟩, .slice a9 T.keys.length c9, .slice b9 T.l.length d9], .slice (some ⟨b, off, none⟩) 1 oc, rc, .int .i64 0]) ∧ In w' (fun _ => True) T (.agg #[.int .i64 T.kind, .int .i64 T.n, .string ⟨T.s.toArray⟩, .slice a9 T.keys.length c9, .slice b9 T.l.length d9]) ∧
      w'.cell? ⟨b, off + 1, none⟩ = some (.slice (some ⟨pb, po, none⟩) 2 pc) ∧ w'.cell? ⟨pb, po + 1, none⟩ = some (.string ⟨#[47, 98, 47, 99]⟩) ∧ Below W2.heap.size W2 w') := hidI (by
    refine (apply_at W2 (fun _ => True) objT T [] [109, 101] false _ _ _ (in_obj _ _) (OwnsAre.nil _ _) (I1.out.bel Y2.out) (HM.out.bel B2.out) (by simp [allOf]) (by simp) (by simp)).mono ?_
    rintro e w' ⟨r, ro, rc, rfl, h1, h2, -, hb⟩
    rw [← HT.out, want_apply] at h1 h2 ⊢
    rw [HT.out] at h1
    obtain ⟨a9, b9, c9, d9, rfl⟩ := h1.form
    obtain ⟨oa, oc, rfl⟩ := h2.form
    obtain ⟨b, off, pa, pc, rfl, -, -, -, k2, k3, -⟩ := h2.at (k := 0) (by simp)
    obtain ⟨pb, po, rfl, -, -, k4⟩ := strs_at k3 (k := 1) (by simp)
    rw [HT.out]
    exact ⟨a9, b9, c9, d9, b, off, oc, pb, po, pc, rc, rfl, h1.weak fun _ _ => trivial, by simpa using k2, k4, hb⟩)
  go_upto_region 3 with (go_at_call 6; refine AP.out.mono ?_; rintro e w3 ⟨a9, b9, c9, d9, b, off, oc, pb, po, pc, rc, rfl, h1, h2, h3, hb⟩; have K2 := hidI h2; have K3 := hidI h3; have I3 := hidI h1; have B3 := hidI hb; clear h1 h2 h3 hb)
  clear p0 p1 p2 p3 p4
  obtain ⟨W4, hW4⟩ : ∃ W, W = w3.alloc (.cells #[.int .i64 T.kind, .int .i64 T.n, .string ⟨T.s.toArray⟩, .slice a9 T.keys.length c9, .slice b9 T.l.length d9] 25) := ⟨_, rfl⟩
  have Y4 : Hid (Below w3.heap.size w3 W4) := hidI (by rw [hW4]; exact bel_alloc _ _)
  have X4 : Hid (BoxIs W4 w3.heap.size (.int .i64 T.kind) (.int .i64 T.n) (.string ⟨T.s.toArray⟩) (.slice a9 T.keys.length c9) (.slice b9 T.l.length d9)) := hidI (by rw [hW4]; exact heap_alloc_new _ _)
  rw [← hW4]
  clear hW4
  have q0 := cell_bel Y4.out K2.out
  have q1 := cell_bel Y4.out K3.out
  obtain ⟨p0, p1, p2, p3, p4, -⟩ := X4.out.c
  obtain ⟨o0, o1, o2, o3, o4, -⟩ := (box_bel (bel_trans B3.out Y4.out) X2.out).c
  have B4 := hidI (bel_trans (bel_trans B2.out B3.out) Y4.out)
  have SM := hidI (same_run W4 _ _ T T _ _ (I3.out.bel Y4.out) (((I1.out.bel Y2.out).bel B3.out).bel Y4.out) (by rw [← HT.out]; have := nice_cnt (nice_of want_good); omega))
  go_wp2_with (go_at_call 31; refine SM.out.mono ?_; rintro e w5 ⟨r, rfl, hr, hb⟩; have hrt := hr.2 rfl; subst hrt; have B5 := hidI (bel_trans B4.out hb); clear hr hb)
  go_ret
  exact ⟨rfl, B5.out⟩
end Go.Proofs.YtmdemcjmcnfjmaaGreatDoor

/- What same of package stairwellkeep does. -/
set_option linter.unusedSimpArgs false
set_option linter.unusedVariables false
namespace Go.Proofs.YtmdemcjmcnfjmaaGreatDoor
open Go.RowKit

def SameC (d : Nat) : Prop := ∀ (w : World) (ok ok' : Nat → Prop) (a b : V) (va vb : Value), VIs w ok d a va → VIs w ok' d b vb →
    Calls Tryz.prog 8 #[va, vb] w fun e w' => e = .returned (.bool (sameS d a b)) ∧ Below w.heap.size w w'

set_option maxRecDepth 100000 in
set_option maxHeartbeats 8000000 in
theorem same_succ (d : Nat) (ih : SameC d) : SameC (d + 1) := by
  intro w ok ok' a b va vb ha hb
  obtain ⟨a1, a2, c1, c2, rfl⟩ := ha.shape
  obtain ⟨b1, b2, d1, d2, rfl⟩ := hb.shape
  have IH := hidI ih
  have lA : a.keys.length ≤ maxLen ∧ a.l.length ≤ maxLen := by obtain ⟨ks, ls, e, h1, h2, h3, h4, h5⟩ := ha; exact ⟨h4.1, h5.1⟩
  have lB : b.keys.length ≤ maxLen ∧ b.l.length ≤ maxLen := by obtain ⟨ks, ls, e, h1, h2, h3, h4, h5⟩ := hb; exact ⟨h4.1, h5.1⟩
  unfold maxLen at lA lB
  obtain ⟨lA1, lA2⟩ := lA
  obtain ⟨lB1, lB2⟩ := lB
  have HA := hidI ha
  have HB := hidI hb
  clear ha hb ih
  by_cases hk : ¬ (a.kind = b.kind)
  · have F : Hid (sameS (d + 1) a b = false) := hidI (by simp [sameS, hk])
    have Ehk : (a.kind == b.kind) = false := by rw [beq_eq_false_iff_ne]; exact hk
    have Nhk : (a.kind != b.kind) = true := by simp [bne, Ehk]
    go_enter Tryz.func8, Tryz.ntmps8
    go_wp2_with fail
    all_goals
      go_ret
      rw [F.out]
      exact ⟨rfl, bel_trans (bel_alloc _ _) (bel_alloc _ _)⟩
  rw [Decidable.not_not] at hk
  by_cases hn : ¬ (a.n = b.n)
  · have F : Hid (sameS (d + 1) a b = false) := hidI (by simp [sameS, hn])
    have Ehk : (a.kind == b.kind) = true := by rw [beq_iff_eq]; exact hk
    have Ehn : (a.n == b.n) = false := by rw [beq_eq_false_iff_ne]; exact hn
    have Nhn : (a.n != b.n) = true := by simp [bne, Ehn]
    clear hk
    go_enter Tryz.func8, Tryz.ntmps8
    go_wp2_with fail
    all_goals
      go_ret
      rw [F.out]
      exact ⟨rfl, bel_trans (bel_alloc _ _) (bel_alloc _ _)⟩
  rw [Decidable.not_not] at hn
  by_cases hs : ¬ (a.s = b.s)
  · have F : Hid (sameS (d + 1) a b = false) := hidI (by simp [sameS, hs])
    have Ehk : (a.kind == b.kind) = true := by rw [beq_iff_eq]; exact hk
    have Ehn : (a.n == b.n) = true := by rw [beq_iff_eq]; exact hn
    have Ehs : (ByteArray.mk a.s.toArray == ByteArray.mk b.s.toArray) = false := ba_ne (by simpa using hs)
    have Nhs : (ByteArray.mk a.s.toArray != ByteArray.mk b.s.toArray) = true := by simp [bne, Ehs]
    clear hk hn
    go_enter Tryz.func8, Tryz.ntmps8
    go_wp2_with fail
    all_goals
      go_ret
      rw [F.out]
      exact ⟨rfl, bel_trans (bel_alloc _ _) (bel_alloc _ _)⟩
  rw [Decidable.not_not] at hs
  by_cases hkl : ¬ (a.keys.length = b.keys.length)
  · have hkx : a.keys ≠ b.keys := fun e => hkl (by rw [e])
    have F : Hid (sameS (d + 1) a b = false) := hidI (by simp [sameS, hkx])
    have Ehk : (a.kind == b.kind) = true := by rw [beq_iff_eq]; exact hk
    have Ehn : (a.n == b.n) = true := by rw [beq_iff_eq]; exact hn
    have Ehs : (ByteArray.mk a.s.toArray == ByteArray.mk b.s.toArray) = true := ba_eq (by simpa using hs)
    have Ehkl : ((a.keys.length : Int) == (b.keys.length : Int)) = false := by rw [beq_eq_false_iff_ne]; omega
    have Nhkl : ((a.keys.length : Int) != (b.keys.length : Int)) = true := by simp only [bne, Ehkl, Bool.not_false]
    clear hkx
    clear hk hn hs
    go_enter Tryz.func8, Tryz.ntmps8
    go_wp2_with fail
    all_goals
      go_ret
      rw [F.out]
      exact ⟨rfl, bel_trans (bel_alloc _ _) (bel_alloc _ _)⟩
  rw [Decidable.not_not] at hkl
  by_cases hll : ¬ (a.l.length = b.l.length)
  · have F : Hid (sameS (d + 1) a b = false) := hidI (by simp [sameS, hll])
    have Ehk : (a.kind == b.kind) = true := by rw [beq_iff_eq]; exact hk
    have Ehn : (a.n == b.n) = true := by rw [beq_iff_eq]; exact hn
    have Ehs : (ByteArray.mk a.s.toArray == ByteArray.mk b.s.toArray) = true := ba_eq (by simpa using hs)
    have Ehkl : ((a.keys.length : Int) == (b.keys.length : Int)) = true := by rw [beq_iff_eq]; omega
    have Ehll : ((a.l.length : Int) == (b.l.length : Int)) = false := by rw [beq_eq_false_iff_ne]; omega
    have Nhll : ((a.l.length : Int) != (b.l.length : Int)) = true := by simp only [bne, Ehll, Bool.not_false]
    clear hk hn hs hkl
    go_enter Tryz.func8, Tryz.ntmps8
    go_wp2_with fail
    all_goals
      go_ret
      rw [F.out]
      exact ⟨rfl, bel_trans (bel_alloc _ _) (bel_alloc _ _)⟩
  rw [Decidable.not_not] at hll
  have FS : Hid (sameS (d + 1) a b = (decide (a.keys = b.keys) && allS (sameS d) a.l b.l)) := hidI (by simp [sameS, hk, hn, hs, hll])
  have HKL := hidI hkl
  have HLL := hidI hll
  rw [← hk, ← hn, ← hs, ← hkl, ← hll] at HB ⊢
  have es : (ByteArray.mk a.s.toArray == ByteArray.mk a.s.toArray) = true := ba_eq rfl
  have I0 : Hid (SameI w ((w.alloc (.cells #[.int .i64 a.kind, .int .i64 a.n, .string ⟨a.s.toArray⟩, .slice a1 a.keys.length c1, .slice a2 a.l.length c2] 25)).alloc (.cells #[.int .i64 a.kind, .int .i64 a.n, .string ⟨a.s.toArray⟩, .slice b1 a.keys.length d1, .slice b2 a.l.length d2] 25)) ok ok' (d + 1) a b a.kind a.n a.s a.keys.length a.l.length a1 a2 b1 b2 c1 c2 d1 d2) :=
    ⟨h2a w _ _, h2b w _ _, HA.out.bel (bel_trans (bel_alloc _ _) (bel_alloc _ _)), HB.out.bel (bel_trans (bel_alloc _ _) (bel_alloc _ _)), bel_trans (bel_alloc _ _) (bel_alloc _ _)⟩
  clear hk hn hs hkl hll
  go_enter Tryz.func8, Tryz.ntmps8
  go_wp2_with fail
  go_loopg [47] a.keys.length (fun gk i wr => ∃ (k : Nat), k ≤ a.keys.length ∧ gk = a.keys.length - k ∧ i = .int .i64 k ∧ (∀ j, j < k → a.keys[j]? = b.keys[j]?) ∧ SameI w wr ok ok' (d + 1) a b a.kind a.n a.s a.keys.length a.l.length a1 a2 b1 b2 c1 c2 d1 d2)
  case atStart => exact ⟨0, Nat.zero_le _, rfl, rfl, fun j hj => absurd hj (by omega), I0.out⟩
  case round =>
    obtain ⟨k, hk, hgk, rfl, hke, hI⟩ := hrel
    have A := hidI (And.intro hke hI)
    obtain ⟨x0, x1, x2, x3, x4, -⟩ := hI.1.c
    obtain ⟨y0, y1, y2, y3, y4, -⟩ := hI.2.1.c
    clear hke
    by_cases hlt : k < a.keys.length
    · have hlt2 : k < b.keys.length := by rw [← HKL.out]; exact hlt
      obtain ⟨g1, o1, rfl, z1, z2, z3⟩ : ∃ g1 o1, a1 = some ⟨g1, o1, none⟩ ∧ a.keys.length ≤ c1 ∧ c1 ≤ maxLen ∧ wr.cell? ⟨g1, o1 + k, none⟩ = some (.string ⟨a.keys[k].toArray⟩) := by
        obtain ⟨ks, ls, e, -, -, -, h4, -⟩ := hI.2.2.1
        simp only [Value.agg.injEq, Array.mk.injEq, List.cons.injEq, and_true] at e
        obtain ⟨-, -, -, rfl, -⟩ := e
        exact strs_at h4 hlt
      obtain ⟨g2, o2, rfl, z4, z5, z6⟩ : ∃ g2 o2, b1 = some ⟨g2, o2, none⟩ ∧ b.keys.length ≤ d1 ∧ d1 ≤ maxLen ∧ wr.cell? ⟨g2, o2 + k, none⟩ = some (.string ⟨b.keys[k].toArray⟩) := by
        obtain ⟨ks, ls, e, -, -, -, h4, -⟩ := hI.2.2.2.1
        simp only [Value.agg.injEq, Array.mk.injEq, List.cons.injEq, and_true] at e
        obtain ⟨-, -, -, rfl, -⟩ := e
        exact strs_at h4 hlt2
      unfold maxLen at z2 z5
      clear hI
      by_cases hq : a.keys[k] = b.keys[k]
      · rw [← hq] at z6
        have q1 : (ByteArray.mk a.keys[k].toArray == ByteArray.mk a.keys[k].toArray) = true := ba_eq rfl
        have HQ := hidI hq
        clear hq
        go_wp2_with fail
        go_quiet (fail)
        go_wp2_with fail
        go_roundg (a.keys.length - (k + 1))
        case measure => omega
        case rel =>
          refine ⟨k + 1, hlt, rfl, by go_num, ?_, A.out.2.drewN _⟩
          intro j hj
          by_cases hjk : j < k
          · exact A.out.1 j hjk
          · have : j = k := by omega
            subst this
            rw [List.getElem?_eq_getElem hlt, List.getElem?_eq_getElem hlt2, HQ.out]
      · have q1 : (ByteArray.mk a.keys[k].toArray == ByteArray.mk b.keys[k].toArray) = false := ba_ne (by simpa using hq)
        have q2 : (a.keys[k] == b.keys[k]) = false := by rw [beq_eq_false_iff_ne]; exact hq
        have HQ := hidI hq
        clear hq
        go_wp2_with fail
        go_quiet (fail)
        go_wp2_with fail
        go_ret
        refine ⟨?_, (A.out.2.drewN _).2.2.2.2⟩
        have hne : a.keys ≠ b.keys := by
          intro e
          apply HQ.out
          have := congrArg (fun l => l[k]?) e
          simp only [List.getElem?_eq_getElem hlt, List.getElem?_eq_getElem hlt2, Option.some.injEq] at this
          exact this
        rw [FS.out]
        simp [hne]
    · have hke : Hid (a.keys = b.keys) := hidI (by
        apply List.ext_getElem?
        intro j
        by_cases hj : j < k
        · exact A.out.1 j hj
        · have h1 : a.keys.length ≤ j := by omega
          rw [List.getElem?_eq_none h1, List.getElem?_eq_none (by rw [← HKL.out]; exact h1)])
      have AI := hidI A.out.2
      clear hI A x0 x1 x2 x3 x4 y0 y1 y2 y3 y4
      obtain ⟨x0, x1, x2, x3, x4, -⟩ := AI.out.1.c
      obtain ⟨y0, y1, y2, y3, y4, -⟩ := AI.out.2.1.c
      go_wp2_with fail
      go_loopg [65] a.l.length (fun gk i wr => ∃ (k : Nat), k ≤ a.l.length ∧ gk = a.l.length - k ∧ i = .int .i64 k ∧ (∀ (j : Nat) (x y : V), j < k → a.l[j]? = some x → b.l[j]? = some y → sameS d x y = true) ∧ SameI w wr ok ok' (d + 1) a b a.kind a.n a.s a.keys.length a.l.length a1 a2 b1 b2 c1 c2 d1 d2)
      case atStart => exact ⟨0, Nat.zero_le _, rfl, rfl, fun j x y hj => absurd hj (by omega), AI.out⟩
      case round =>
        obtain ⟨k', hk', hgk', rfl, hall, hI⟩ := hrel
        have A := hidI (And.intro hall hI)
        clear hall x0 x1 x2 x3 x4 y0 y1 y2 y3 y4
        by_cases hlt' : k' < a.l.length
        · have hltb : k' < b.l.length := by rw [← HLL.out]; exact hlt'
          obtain ⟨g1, o1, rfl, z1, z2, a5, c5, a6, c6, p0, p1, p2, p3, p4, p5⟩ : ∃ g1 o1, a2 = some ⟨g1, o1, none⟩ ∧ a.l.length ≤ c2 ∧ c2 ≤ maxLen ∧ _ := by
            obtain ⟨ks, ls, e, -, -, -, -, h5⟩ := hI.2.2.1
            simp only [Value.agg.injEq, Array.mk.injEq, List.cons.injEq, and_true] at e
            obtain ⟨-, -, -, -, rfl⟩ := e
            exact vals_at h5 hlt'
          obtain ⟨g2, o2, rfl, z4, z5, a5', c5', a6', c6', q0, q1, q2, q3, q4, q5⟩ : ∃ g2 o2, b2 = some ⟨g2, o2, none⟩ ∧ b.l.length ≤ d2 ∧ d2 ≤ maxLen ∧ _ := by
            obtain ⟨ks, ls, e, -, -, -, -, h5⟩ := hI.2.2.2.1
            simp only [Value.agg.injEq, Array.mk.injEq, List.cons.injEq, and_true] at e
            obtain ⟨-, -, -, -, rfl⟩ := e
            exact vals_at h5 hltb
          unfold maxLen at z2 z5
          have x4 := hI.1.c.2.2.2.2.1
          have y4 := hI.2.1.c.2.2.2.2.1
          have CALL : Hid (∀ w', Below wr.heap.size wr w' → Calls Tryz.prog 8 #[.agg #[.int .i64 a.l[k'].kind, .int .i64 a.l[k'].n, .string ⟨a.l[k'].s.toArray⟩, .slice a5 a.l[k'].keys.length c5, .slice a6 a.l[k'].l.length c6], .agg #[.int .i64 b.l[k'].kind, .int .i64 b.l[k'].n, .string ⟨b.l[k'].s.toArray⟩, .slice a5' b.l[k'].keys.length c5', .slice a6' b.l[k'].l.length c6']] w' fun e w3 => e = .returned (.bool (sameS d a.l[k'] b.l[k'])) ∧ Below wr.heap.size wr w3 ∧
              w3.cell? ⟨w.heap.size, 4, none⟩ = some (.slice (some ⟨g1, o1, none⟩) a.l.length c2) ∧ w3.cell? ⟨w.heap.size + 1, 4, none⟩ = some (.slice (some ⟨g2, o2, none⟩) a.l.length d2) ∧
              w3.cell? ⟨g1, o1 + k' * 5, none⟩ = some (.int .i64 a.l[k'].kind) ∧ w3.cell? ⟨g1, o1 + k' * 5 + 1, none⟩ = some (.int .i64 a.l[k'].n) ∧ w3.cell? ⟨g1, o1 + k' * 5 + 2, none⟩ = some (.string ⟨a.l[k'].s.toArray⟩) ∧ w3.cell? ⟨g1, o1 + k' * 5 + 3, none⟩ = some (.slice a5 a.l[k'].keys.length c5) ∧ w3.cell? ⟨g1, o1 + k' * 5 + 4, none⟩ = some (.slice a6 a.l[k'].l.length c6) ∧
              w3.cell? ⟨g2, o2 + k' * 5, none⟩ = some (.int .i64 b.l[k'].kind) ∧ w3.cell? ⟨g2, o2 + k' * 5 + 1, none⟩ = some (.int .i64 b.l[k'].n) ∧ w3.cell? ⟨g2, o2 + k' * 5 + 2, none⟩ = some (.string ⟨b.l[k'].s.toArray⟩) ∧ w3.cell? ⟨g2, o2 + k' * 5 + 3, none⟩ = some (.slice a5' b.l[k'].keys.length c5') ∧ w3.cell? ⟨g2, o2 + k' * 5 + 4, none⟩ = some (.slice a6' b.l[k'].l.length c6')) := by
            intro w' hb'
            refine (IH.out w' ok ok' a.l[k'] b.l[k'] _ _ (p5.bel hb') (q5.bel hb')).mono ?_
            rintro e w3 ⟨rfl, hb3⟩
            have hb4 := bel_trans hb' hb3
            exact ⟨rfl, hb4, cell_bel hb4 x4, cell_bel hb4 y4, cell_bel hb4 p0, cell_bel hb4 p1, cell_bel hb4 p2, cell_bel hb4 p3, cell_bel hb4 p4, cell_bel hb4 q0, cell_bel hb4 q1, cell_bel hb4 q2, cell_bel hb4 q3, cell_bel hb4 q4⟩
          clear hI p5 q5
          go_wp2_with fail
          go_region_held3 (fun w3 => w3.cell? ⟨w.heap.size, 4, none⟩ = some (.slice (some ⟨g1, o1, none⟩) a.l.length c2) ∧ w3.cell? ⟨w.heap.size + 1, 4, none⟩ = some (.slice (some ⟨g2, o2, none⟩) a.l.length d2) ∧
              w3.cell? ⟨g1, o1 + k' * 5, none⟩ = some (.int .i64 a.l[k'].kind) ∧ w3.cell? ⟨g1, o1 + k' * 5 + 1, none⟩ = some (.int .i64 a.l[k'].n) ∧ w3.cell? ⟨g1, o1 + k' * 5 + 2, none⟩ = some (.string ⟨a.l[k'].s.toArray⟩) ∧ w3.cell? ⟨g1, o1 + k' * 5 + 3, none⟩ = some (.slice a5 a.l[k'].keys.length c5) ∧ w3.cell? ⟨g1, o1 + k' * 5 + 4, none⟩ = some (.slice a6 a.l[k'].l.length c6) ∧
              w3.cell? ⟨g2, o2 + k' * 5, none⟩ = some (.int .i64 b.l[k'].kind) ∧ w3.cell? ⟨g2, o2 + k' * 5 + 1, none⟩ = some (.int .i64 b.l[k'].n) ∧ w3.cell? ⟨g2, o2 + k' * 5 + 2, none⟩ = some (.string ⟨b.l[k'].s.toArray⟩) ∧ w3.cell? ⟨g2, o2 + k' * 5 + 3, none⟩ = some (.slice a5' b.l[k'].keys.length c5') ∧ w3.cell? ⟨g2, o2 + k' * 5 + 4, none⟩ = some (.slice a6' b.l[k'].l.length c6')) (go_keep)
            (first | (go_at_call 8; refine (CALL.out _ (by exact ⟨rfl, rfl, rfl, Nat.le_refl _, fun _ _ => rfl⟩)).mono ?_; rintro e w3 ⟨rfl, hb3, s1, s2, s3, s4, s5, s6, s7, s8, s9, s10, s11, s12⟩))
          all_goals
            have A3 := hidI (A.out.2.below hb3)
            clear s1 s2 s3 s4 s5 s6 s7 s8 s9 s10 s11 s12 hb3 p0 p1 p2 p3 p4 q0 q1 q2 q3 q4 x4 y4
            cases hr : sameS d a.l[k'] b.l[k'] with
            | true =>
              have HR := hidI hr
              clear hr
              go_wp2_with fail
              go_roundg (a.l.length - (k' + 1))
              case measure => omega
              case rel =>
                refine ⟨k' + 1, hlt', rfl, by go_num, ?_, A3.out⟩
                intro j x y hj hx hy
                by_cases hjk : j < k'
                · exact A.out.1 j x y hjk hx hy
                · have : j = k' := by omega
                  subst this
                  rw [List.getElem?_eq_getElem hlt'] at hx
                  rw [List.getElem?_eq_getElem hltb] at hy
                  cases hx
                  cases hy
                  exact HR.out
            | false =>
              have HR := hidI hr
              clear hr
              go_wp2_with fail
              go_ret
              refine ⟨?_, A3.out.2.2.2.2⟩
              have hno : allS (sameS d) a.l b.l = false := by
                cases h9 : allS (sameS d) a.l b.l with
                | false => rfl
                | true =>
                  have := (allS_iff _ _).1 h9 k' _ _ (List.getElem?_eq_getElem hlt') (List.getElem?_eq_getElem hltb)
                  rw [HR.out] at this
                  cases this
              rw [FS.out, hno, Bool.and_false]
              rfl
        · have A3 := hidI A.out
          clear hI A
          go_wp2_with fail
          go_ret
          refine ⟨?_, A3.out.2.2.2.2.2⟩
          have hyes : allS (sameS d) a.l b.l = true := (allS_iff _ _).2 fun j x y hx hy => A3.out.1 j x y (by have := (List.getElem?_eq_some_iff.1 hx).1; omega) hx hy
          rw [FS.out, hyes, hke.out]
          simp
theorem same_all (d : Nat) : SameC d := by
  induction d with
  | zero => exact fun _ _ _ _ _ _ _ h => h.elim
  | succ d ih => exact same_succ d ih
end Go.Proofs.YtmdemcjmcnfjmaaGreatDoor

/- same of package stairwellkeep, whatever the depth. -/
set_option linter.unusedSimpArgs false
set_option linter.unusedVariables false
namespace Go.Proofs.YtmdemcjmcnfjmaaGreatDoor
open Go.RowKit

theorem same_is (w : World) (ok ok' : Nat → Prop) (t : V) (va vb : Value) (ha : In w ok t va) (hb : In w ok' t vb) :
    Calls Tryz.prog 8 #[va, vb] w fun e w' => e = .returned (.bool true) ∧ Below w.heap.size w w' := by
  obtain ⟨d, ha⟩ := ha
  obtain ⟨d', hb⟩ := hb
  have h1 := VIs.le (show d ≤ d + d' by omega) ha
  refine (same_all (d + d') w _ _ t t va vb h1 (VIs.le (by omega) hb)).mono ?_
  rintro e w' ⟨rfl, hb⟩
  exact ⟨by rw [sameS_refl _ h1], hb⟩
end Go.Proofs.YtmdemcjmcnfjmaaGreatDoor

/- The walk of keep's OwnerOthers. -/
set_option linter.unusedSimpArgs false
set_option linter.unusedVariables false
namespace Go.Proofs.YtmdemcjmcnfjmaaGreatDoor
open Go.RowKit

theorem sameTexts_yes (w : World) (ok ok' : Nat → Prop) (xs : List (List UInt8)) (v u : Value) (h : StrsAre w ok xs v) (h' : StrsAre w ok' xs u) :
    Calls Tryz.prog 9 #[v, u] w fun e w' => e = .returned (.bool true) ∧ Below w.heap.size w w' :=
  (sameTexts_at w ok ok' xs xs v u h h').mono fun e w' h => ⟨by rw [h.1, decide_eq_true rfl], h.2⟩
attribute [local go_sem ↓] Go.wp_at_zero Go.wp_at_succ
end Go.Proofs.YtmdemcjmcnfjmaaGreatDoor

/- How many paths there are behind an Apply. -/
set_option linter.unusedSimpArgs false
set_option linter.unusedVariables false
namespace Go.Proofs.YtmdemcjmcnfjmaaGreatDoor
open Go.RowKit

theorem allOf_append (a b : List Own) : allOf (a ++ b) = allOf a ++ allOf b := by simp [allOf]
theorem allOf_kept (stays : List UInt8 → List UInt8 → Bool) (l : List Own) : (allOf (keptF stays l)).length ≤ (allOf l).length := by
  induction l with
  | nil => simp [keptF, allOf]
  | cons o r ih =>
    have e : keptF stays (o :: r) = keptF stays [o] ++ keptF stays r := kept_append stays [o] r
    have h1 : (allOf (keptF stays [o])).length ≤ o.paths.length := by
      simp only [keptF, List.map_cons, List.map_nil, List.filter_cons, List.filter_nil]
      split
      · simp [allOf, List.length_filter_le]
      · simp [allOf]
    have h2 : allOf (o :: r) = o.paths.map (fun p => (o.name, p)) ++ allOf r := by simp [allOf]
    rw [e, allOf_append, h2, List.length_append, List.length_append, List.length_map]
    omega
theorem allOf_with (l : List Own) (o : Own) : (allOf (withOwnF l o)).length ≤ (allOf l).length + o.paths.length := by
  unfold withOwnF
  split
  · omega
  · have h2 : ∀ r, allOf (o :: r) = o.paths.map (fun p => (o.name, p)) ++ allOf r := fun r => by simp [allOf]
    have h3 : (allOf l).length = (allOf (l.take (placeO l o.name))).length + (allOf (l.drop (placeO l o.name))).length := by
      rw [← List.length_append, ← allOf_append, List.take_append_drop]
    rw [allOf_append, h2, List.length_append, List.length_append, List.length_map]
    omega
theorem apply_size {v : V} {l : List Own} {who : List UInt8} {want : V} {force : Bool} {w : V} {m : List Own} {c : List (List UInt8 × List UInt8)} (h : applyF v l who want force = (w, m, c, 0)) (hN : (allOf l).length ≤ 2000000) :
    (allOf m).length ≤ 4000000 ∧ (∀ o ∈ m, ∀ x ∈ o.paths, x.length ≤ 140737488351232) ∧ who.length ≤ 12 ∧ ∀ p ∈ leavesF want, p.length ≤ 140737488351232 := by
  obtain ⟨A, hw, hm, -, -, -, -⟩ := apply_ok h
  obtain ⟨gm, -, -⟩ := apply_good h
  have O := applyOk who A.vk A.vg A.wk A.wg A.lg
  have h1 := allOf_with (othersF v want l who) ⟨who, leavesF want⟩
  have h2 := allOf_kept (fun n p => n != who && !blockedF want v (leavesF want) p) l
  have h3 := O.lvn
  refine ⟨?_, fun o ho x hx => ?_, named_len A.whog, fun p hp => (O.lv p hp).1⟩
  · rw [hm]
    unfold othersF at h1 ⊢
    simp only at h1
    omega
  · obtain ⟨-, g2, -⟩ := good_own gm
    exact (gp_len ((gps_parts (g2 o ho).2).2.1 x hx)).1
end Go.Proofs.YtmdemcjmcnfjmaaGreatDoor

/- What number and place of package point do. -/
set_option linter.unusedSimpArgs false
set_option linter.unusedVariables false
namespace Go.Proofs.YtmdemcjmcnfjmaaGreatDoor
open Go.RowKit

def numV (o : Option Nat) : Value := .tuple #[.int .i64 (o.getD 0 : Nat), .bool o.isSome]
theorem numF_drop {s : List UInt8} {k m : Nat} (h : k < s.length) : numF m (s.drop k) = if 48 ≤ s[k].toNat ∧ s[k].toNat ≤ 57 then numF (m * 10 + (s[k].toNat - 48)) (s.drop (k + 1)) else none := by
  rw [List.drop_eq_getElem_cons h, numF]

set_option maxRecDepth 100000 in
set_option maxHeartbeats 4000000 in
theorem number_at (w : World) (s : List UInt8) (hs : s.length ≤ 9223372036854775807) :
    Calls Tryz.prog 114 #[str s] w fun e w' => e = .returned (numV (numP s)) ∧ w' = w := by
  unfold str
  have hF : ∀ w' : World, w' = w → numP s = none → (Ending.returned (.tuple #[.int .i64 0, .bool false]) = Ending.returned (numV (numP s)) ∧ w' = w) := by
    intro w' h1 h2; rw [h2]; exact ⟨rfl, h1⟩
  have HF := hidI hF
  clear hF
  cases s with
  | nil =>
    have HP : Hid (numP [] = none) := hidI rfl
    have hne : (ByteArray.mk ([] : List UInt8).toArray == ByteArray.mk #[]) = true := ba_eq (by simp)
    go_enter Tryz.func114, Tryz.ntmps114
    go_wp2_with fail
    refine bodyPost_ret (v := .tuple #[.int .i64 0, .bool false]) (by simp [results, Tryz.results114, go_sem] <;> rfl) rfl ?_
    exact HF.out _ rfl HP.out
  | cons c r =>
    have hne : (ByteArray.mk (c :: r).toArray == ByteArray.mk #[]) = false := ba_ne (by simp)
    have hsz : 0 < (ByteArray.mk (c :: r).toArray).size := by rw [ba_size]; simp
    have hget : (ByteArray.mk (c :: r).toArray)[0] = c := rfl
    have hbyte : (c.toNat : Int) < 256 := by have := c.toNat_lt; omega
    by_cases h4 : 4 < r.length + 1
    · have h4' : 4 < (r.length : Int) + 1 := by omega
      have HP : Hid (numP (c :: r) = none) := hidI (by unfold numP; rw [if_pos (.inr (.inl h4))])
      go_enter Tryz.func114, Tryz.ntmps114
      go_wp2_with fail
      refine bodyPost_ret (v := .tuple #[.int .i64 0, .bool false]) (by simp [results, Tryz.results114, go_sem] <;> rfl) rfl ?_
      exact HF.out _ rfl HP.out
    · have h4' : ¬ (4 < (r.length : Int) + 1) := by omega
      by_cases hb : c = 48 ∧ r ≠ []
      · have HP : Hid (numP (c :: r) = none) := hidI (by unfold numP; rw [if_pos (.inr (.inr ⟨by rw [hb.1]; rfl, by intro e; simp only [List.cons.injEq] at e; exact hb.2 e.2⟩))])
        have q1 : ((c.toNat : Int) == 48) = true := by rw [hb.1]; rfl
        have q2 : (c == 48) = true := by rw [beq_iff_eq]; exact hb.1
        have q3 : r.isEmpty = false := by cases r with | nil => exact absurd rfl hb.2 | cons _ _ => rfl
        clear hb
        go_enter Tryz.func114, Tryz.ntmps114
        go_wp2_with fail
        refine bodyPost_ret (v := .tuple #[.int .i64 0, .bool false]) (by simp [results, Tryz.results114, go_sem] <;> rfl) rfl ?_
        exact HF.out _ rfl HP.out
      · have HP : Hid (numP (c :: r) = numF 0 (c :: r)) := hidI (by
          unfold numP
          rw [if_neg]
          rintro (h | h | ⟨h1, h2⟩)
          · cases h
          · exact h4 h
          · simp only [List.head?_cons, Option.some.injEq] at h1
            exact hb ⟨h1, fun e => h2 (by rw [h1, e])⟩)
        have hq : ((c.toNat : Int) == 48) = false ∨ ((c.toNat : Int) == 48) = true ∧ (c == 48) = true ∧ r.isEmpty = true := by
          by_cases hc : c = 48
          · have hr : r = [] := Decidable.byContradiction fun h => hb ⟨hc, h⟩
            exact .inr ⟨by rw [hc]; rfl, by rw [hc]; rfl, by rw [hr]; rfl⟩
          · refine .inl ?_
            rw [beq_eq_false_iff_ne]
            intro e
            exact hc (UInt8.toNat_inj.1 (by show c.toNat = 48; omega))
        clear hb
        have hl4 : (c :: r).length ≤ 4 := by simp only [List.length_cons]; omega
        rcases hq with q1 | ⟨q1, q2, q3⟩
        all_goals
          go_enter Tryz.func114, Tryz.ntmps114
          go_wp2_with fail
          go_loop [4, 5] (fun n i => ∃ k m : Nat, k ≤ (c :: r).length ∧ i = .int .i64 k ∧ n = .int .i64 m ∧ numF 0 (c :: r) = numF m ((c :: r).drop k) ∧ m + 1 ≤ 10 ^ k) (fun _ i => (c :: r).length - (intOf i).toNat)
          case atStart => exact ⟨0, 0, Nat.zero_le _, rfl, rfl, rfl, by simp⟩
          case round =>
            obtain ⟨k, m, hk, rfl, rfl, hrec, hm⟩ := hrel
            have HR := hidI hrec
            clear hrec
            have hp4 : 10 ^ k ≤ 10 ^ 4 := Nat.pow_le_pow_right (by omega) (by omega)
            have HM := hidI hm
            have hm4 : m ≤ 9999 := by simp only [Nat.reducePow] at hp4; omega
            clear hm hp4
            by_cases hlt : k < (c :: r).length
            · have hlt' : (k : Int) < (r.length : Int) + 1 := by simp only [List.length_cons] at hlt; omega
              have hb : ((c :: r)[k].toNat : Int) < 256 := by have := (c :: r)[k].toNat_lt; omega
              have hszk : k < (ByteArray.mk (c :: r).toArray).size := by rw [ba_size]; exact hlt
              have hgetk : (ByteArray.mk (c :: r).toArray)[k] = (c :: r)[k] := rfl
              have ND := hidI (numF_drop (m := m) hlt)
              by_cases hlo : (c :: r)[k].toNat < 48
              · have e1 : ((c :: r)[k].toNat : Int) < 48 := by omega
                go_wp2_with fail
                refine bodyPost_ret (v := .tuple #[.int .i64 0, .bool false]) (by simp [results, Tryz.results114, go_sem] <;> rfl) rfl ?_
                exact HF.out _ rfl (by rw [HP.out, HR.out, ND.out, if_neg (by omega)])
              · have e1 : ¬ (((c :: r)[k].toNat : Int) < 48) := by omega
                by_cases hhi : 57 < (c :: r)[k].toNat
                · have e2 : 57 < ((c :: r)[k].toNat : Int) := by omega
                  go_wp2_with fail
                  refine bodyPost_ret (v := .tuple #[.int .i64 0, .bool false]) (by simp [results, Tryz.results114, go_sem] <;> rfl) rfl ?_
                  exact HF.out _ rfl (by rw [HP.out, HR.out, ND.out, if_neg (by omega)])
                · have e2 : ¬ (57 < ((c :: r)[k].toNat : Int)) := by omega
                  have hw1 : IntKind.u8.wrap (((c :: r)[k].toNat : Int) - 48) = ((c :: r)[k].toNat : Int) - 48 := by rw [IntKind.wrap_u8]; omega
                  go_wp2_with fail
                  go_round
                  case rel =>
                    refine ⟨k + 1, m * 10 + ((c :: r)[k].toNat - 48), hlt, by go_num, ?_, by rw [HR.out, ND.out, if_pos (by omega)], ?_⟩
                    · go_num
                    · have := HM.out; rw [Nat.pow_succ]; omega
                  case measure => simp [intOf]; omega
            · have hke : k = (c :: r).length := by omega
              have hlt' : ¬ ((k : Int) < (r.length : Int) + 1) := by simp only [List.length_cons] at hlt; omega
              have HKE := hidI hke
              clear hlt hke
              go_wp2_with fail
              refine bodyPost_ret (v := .tuple #[.int .i64 m, .bool true]) (by simp [results, Tryz.results114, go_sem] <;> rfl) rfl ?_
              rw [HP.out, HR.out, HKE.out, List.drop_length]
              exact ⟨rfl, rfl⟩

set_option maxRecDepth 100000 in
set_option maxHeartbeats 4000000 in
theorem place_at (w : World) (a : Option Addr) (n c : Nat) (s : List UInt8) (hn : n ≤ 9223372036854775807) (hs : s.length ≤ 9223372036854775807) :
    Calls Tryz.prog 71 #[.slice a n c, str s] w fun e w' => e = .returned (numV (placeP n s)) ∧ w' = w := by
  by_cases h : s = [45]
  · have hb : (s == [45]) = true := by rw [beq_iff_eq]; exact h
    have HP : Hid (placeP n s = some n) := hidI (by unfold placeP; rw [if_pos h])
    clear h
    unfold str
    go_enter Tryz.func71, Tryz.ntmps71
    go_wp2_with fail
    refine bodyPost_ret (v := .tuple #[.int .i64 n, .bool true]) (by simp [results, Tryz.results71, go_sem] <;> rfl) rfl ?_
    rw [HP.out]; exact ⟨rfl, rfl⟩
  · have hb : (s == [45]) = false := by rw [beq_eq_false_iff_ne]; exact h
    cases hq : numP s with
    | none =>
      have HP : Hid (placeP n s = none) := hidI (by unfold placeP; rw [if_neg h, hq]; rfl)
      have HQ := hidI hq
      clear h hq
      unfold str
      go_enter Tryz.func71, Tryz.ntmps71
      go_wp2_with fail
      refine (number_at _ s hs).mono ?_
      rintro e w1 ⟨rfl, hw⟩
      rw [hw, HQ.out]
      unfold numV
      clear hw
      go_wp2_with fail
      refine bodyPost_ret (v := .tuple #[.int .i64 0, .bool false]) (by simp [results, Tryz.results71, go_sem] <;> rfl) rfl ?_
      rw [HP.out]; exact ⟨rfl, rfl⟩
    | some i =>
      have HQ := hidI hq
      by_cases hi : i ≤ n
      · have HP : Hid (placeP n s = some i) := hidI (by unfold placeP; rw [if_neg h, hq, Option.bind_some, if_pos hi])
        have e1 : ¬ ((n : Int) < (i : Int)) := by omega
        clear h hq
        unfold str
        go_enter Tryz.func71, Tryz.ntmps71
        go_wp2_with fail
        refine (number_at _ s hs).mono ?_
        rintro e w1 ⟨rfl, hw⟩
        rw [hw, HQ.out]
        unfold numV
        clear hw
        go_wp2_with fail
        refine bodyPost_ret (v := .tuple #[.int .i64 i, .bool true]) (by simp [results, Tryz.results71, go_sem] <;> rfl) rfl ?_
        rw [HP.out]; exact ⟨rfl, rfl⟩
      · have HP : Hid (placeP n s = none) := hidI (by unfold placeP; rw [if_neg h, hq, Option.bind_some, if_neg hi])
        have e1 : (n : Int) < (i : Int) := by omega
        clear h hq
        unfold str
        go_enter Tryz.func71, Tryz.ntmps71
        go_wp2_with fail
        refine (number_at _ s hs).mono ?_
        rintro e w1 ⟨rfl, hw⟩
        rw [hw, HQ.out]
        unfold numV
        clear hw
        go_wp2_with fail
        refine bodyPost_ret (v := .tuple #[.int .i64 0, .bool false]) (by simp [results, Tryz.results71, go_sem] <;> rfl) rfl ?_
        rw [HP.out]; exact ⟨rfl, rfl⟩
end Go.Proofs.YtmdemcjmcnfjmaaGreatDoor

/- What meant of package point does. -/
set_option linter.unusedSimpArgs false
set_option linter.unusedVariables false
namespace Go.Proofs.YtmdemcjmcnfjmaaGreatDoor
open Go.RowKit

/- A list in memory, in two parts. -/
set_option maxRecDepth 100000 in
set_option maxHeartbeats 4000000 in
theorem meant_is (w : World) (ok : Nat → Prop) (t : V) (v : Value) (s : List UInt8) (h : In w ok t v) (hs : s.length ≤ 9223372036854775807) :
    Calls Tryz.prog 37 #[v, str s] w fun e w' => ∃ x b, e = .returned (.tuple #[x, .bool b]) ∧ Below w.heap.size w w' ∧ OptIn w' ok (meantV t s) x b := by
  have H := hidI h.low
  have HO := hidI h
  obtain ⟨l1, l2, l3⟩ := h.lens
  obtain ⟨a1, a2, c1, c2, rfl⟩ := h.form
  clear h
  by_cases hk : t.kind = 4
  · have q1 : (t.kind == 4) = true := by rw [hk]; rfl
    have q2 : (t.kind != 4) = false := by rw [hk]; rfl
    by_cases hm : ∃ i, placeP t.l.length s = some i ∧ i < t.l.length
    · obtain ⟨i, hp, hi⟩ := hm
      have HM : Hid (meantV t s = some t.l[i]) := hidI (by unfold meantV; rw [if_pos hk, hp, Option.bind_some, List.getElem?_eq_getElem hi])
      have HP := hidI hp
      have e1 : ((i : Int) == (t.l.length : Int)) = false := by rw [beq_eq_false_iff_ne]; omega
      clear hp hk
      obtain ⟨b, off, a5, c5, a6, c6, rfl, hc1, hc2, g0, g1, g2, g3, g4, g5⟩ := HO.out.item hi
      have G : Hid (_ ∧ _ ∧ _ ∧ _ ∧ _) := ⟨g0, g1, g2, g3, g4⟩
      have G5 := hidI g5.low
      clear g0 g1 g2 g3 g4 g5
      go_enter Tryz.func37, Tryz.ntmps37
      go_wp2_with fail
      refine (place_at _ _ t.l.length c2 s l2 hs).mono ?_
      rintro e w1 ⟨rfl, hw⟩
      rw [HP.out]
      unfold numV
      have hb1 : Below w.heap.size w w1 := by rw [hw]; exact bel_trans (bel_alloc _ _) (bel_alloc _ _)
      have hbx : BoxIs w1 (w.heap.size + 1) (.int .i64 0) (.int .i64 0) (.string ⟨#[]⟩) (.slice none 0 0) (.slice none 0 0) := by rw [hw]; exact h2b w _ _
      have hbv : BoxIs w1 w.heap.size (.int .i64 t.kind) (.int .i64 t.n) (.string ⟨t.s.toArray⟩) (.slice a1 t.keys.length c1) (.slice (some ⟨b, off, none⟩) t.l.length c2) := by rw [hw]; exact h2a w _ _
      obtain ⟨-, -, -, -, p4, -⟩ := hbv.c
      obtain ⟨x0, x1, x2, x3, x4, y0, y1, y2, y3, y4⟩ := hbx.c
      have Z : Hid (Below w.heap.size w w1 ∧ BoxIs (set5 w1 (w.heap.size + 1) (.int .i64 t.l[i].kind) (.int .i64 t.l[i].n) (.string ⟨t.l[i].s.toArray⟩) (.slice a5 t.l[i].keys.length c5) (.slice a6 t.l[i].l.length c6)) (w.heap.size + 1) (.int .i64 t.l[i].kind) (.int .i64 t.l[i].n) (.string ⟨t.l[i].s.toArray⟩) (.slice a5 t.l[i].keys.length c5) (.slice a6 t.l[i].l.length c6)) := ⟨hb1, hbx.set _ _ _ _ _⟩
      obtain ⟨g0, g1, g2, g3, g4⟩ := G.out
      have m0 := cell_bel hb1 g0
      have m1 := cell_bel hb1 g1
      have m2 := cell_bel hb1 g2
      have m3 := cell_bel hb1 g3
      have m4 := cell_bel hb1 g4
      clear hw hb1 hbx hbv g0 g1 g2 g3 g4 G
      simp only [Option.getD_some, Option.isSome_some]
      go_wp2_with fail
      obtain ⟨z0, z1, z2, z3, z4, -⟩ := Z.out.2.c
      refine bodyPost_ret (v := .tuple #[.agg #[.int .i64 t.l[i].kind, .int .i64 t.l[i].n, .string ⟨t.l[i].s.toArray⟩, .slice a5 t.l[i].keys.length c5, .slice a6 t.l[i].l.length c6], .bool true]) ?_ rfl ?_
      · simp only [set5] at z0 z1 z2 z3 z4
        simp [results, Tryz.results37, go_sem, z0, z1, z2, z3, z4]
      · refine ⟨_, _, rfl, bel_set5 Z.out.1 (Nat.le_succ _) _ _ _ _ _, ?_⟩
        rw [HM.out]
        exact OptIn.some (((G5.out.bel Z.out.1).grown (set5_gb w1 _ _ _ _ _ _) (fun k hk => by omega)).weak fun k hk => hk.1)
    · have HM : Hid (meantV t s = none) := hidI (by
        unfold meantV
        rw [if_pos hk]
        cases hp : placeP t.l.length s with
        | none => rfl
        | some i => rw [Option.bind_some, List.getElem?_eq_none]; exact Nat.le_of_not_lt fun h => hm ⟨i, hp, h⟩)
      have hq : ((placeP t.l.length s).isSome = false ∧ placeP t.l.length s = none) ∨ placeP t.l.length s = some t.l.length := by
        cases hp : placeP t.l.length s with
        | none => exact .inl ⟨rfl, rfl⟩
        | some i =>
          have h1 := place_le hp
          have h2 : ¬ i < t.l.length := fun h => hm ⟨i, hp, h⟩
          exact .inr (by rw [show i = t.l.length by omega])
      have e1 : ((t.l.length : Int) == (t.l.length : Int)) = true := by simp
      clear hm hk
      rcases hq with ⟨-, hp⟩ | hp
      all_goals
        have HP := hidI hp
        clear hp
        go_enter Tryz.func37, Tryz.ntmps37
        go_wp2_with fail
        refine (place_at _ _ t.l.length c2 s l2 hs).mono ?_
        rintro e w1 ⟨rfl, hw⟩
        rw [HP.out]
        unfold numV
        have hb1 : Below w.heap.size w w1 := by rw [hw]; exact bel_trans (bel_alloc _ _) (bel_alloc _ _)
        have hbx : BoxIs w1 (w.heap.size + 1) (.int .i64 0) (.int .i64 0) (.string ⟨#[]⟩) (.slice none 0 0) (.slice none 0 0) := by rw [hw]; exact h2b w _ _
        have hbv : BoxIs w1 w.heap.size (.int .i64 t.kind) (.int .i64 t.n) (.string ⟨t.s.toArray⟩) (.slice a1 t.keys.length c1) (.slice a2 t.l.length c2) := by rw [hw]; exact h2a w _ _
        obtain ⟨-, -, -, -, p4, -⟩ := hbv.c
        obtain ⟨x0, x1, x2, x3, x4, y0, y1, y2, y3, y4⟩ := hbx.c
        have Z : Hid (Below w.heap.size w w1 ∧ BoxIs (set5 w1 (w.heap.size + 1) (.int .i64 0) (.int .i64 0) (.string ⟨#[]⟩) (.slice none 0 0) (.slice none 0 0)) (w.heap.size + 1) (.int .i64 0) (.int .i64 0) (.string ⟨#[]⟩) (.slice none 0 0) (.slice none 0 0)) := ⟨hb1, hbx.set _ _ _ _ _⟩
        clear hw hb1 hbx hbv
        simp only [Option.getD_some, Option.isSome_some, Option.getD_none, Option.isSome_none]
        go_wp2_with fail
        obtain ⟨z0, z1, z2, z3, z4, -⟩ := Z.out.2.c
        refine bodyPost_ret (v := .tuple #[.agg #[.int .i64 0, .int .i64 0, .string ⟨#[]⟩, .slice none 0 0, .slice none 0 0], .bool false]) ?_ rfl ?_
        · simp only [set5] at z0 z1 z2 z3 z4
          simp [results, Tryz.results37, go_sem, z0, z1, z2, z3, z4]
        · refine ⟨_, _, rfl, bel_set5 Z.out.1 (Nat.le_succ _) _ _ _ _ _, ?_⟩
          rw [HM.out]
          exact OptIn.none (in_zero _ _)
  · have q1 : (t.kind == 4) = false := by rw [beq_eq_false_iff_ne]; exact hk
    have q2 : (t.kind != 4) = true := by rw [bne_iff_ne]; exact hk
    have HM : Hid (meantV t s = memV t s) := hidI (by unfold meantV; rw [if_neg hk])
    clear hk
    go_enter Tryz.func37, Tryz.ntmps37
    go_wp2_with fail
    refine (member_is _ (fun k => ok k ∧ k < w.heap.size) t _ s (by exact H.out.bel (bel_trans (bel_alloc _ _) (bel_alloc _ _)))).mono ?_
    rintro e w1 ⟨x, b, rfl, hb1, hb2, y, hy, hyz⟩
    obtain ⟨a5, a6, c5, c6, rfl⟩ := hy.form
    have R : Hid (Below w.heap.size w w1 ∧ b = (meantV t s).isSome ∧ In w1 (fun k => ok k ∧ k < w.heap.size) y (.agg #[.int .i64 y.kind, .int .i64 y.n, .string ⟨y.s.toArray⟩, .slice a5 y.keys.length c5, .slice a6 y.l.length c6]) ∧ ∀ z, meantV t s = some z → y = z) :=
      ⟨bel_trans (bel_trans (bel_alloc _ _) (bel_alloc _ _)) hb1, by rw [HM.out]; exact hb2, hy, by rw [HM.out]; exact hyz⟩
    have hbx : BoxIs w1 (w.heap.size + 1) (.int .i64 0) (.int .i64 0) (.string ⟨#[]⟩) (.slice none 0 0) (.slice none 0 0) := box_bel hb1 (h2b w _ _)
    obtain ⟨x0, x1, x2, x3, x4, y0, y1, y2, y3, y4⟩ := hbx.c
    have Z : Hid (BoxIs (set5 w1 (w.heap.size + 1) (.int .i64 y.kind) (.int .i64 y.n) (.string ⟨y.s.toArray⟩) (.slice a5 y.keys.length c5) (.slice a6 y.l.length c6)) (w.heap.size + 1) (.int .i64 y.kind) (.int .i64 y.n) (.string ⟨y.s.toArray⟩) (.slice a5 y.keys.length c5) (.slice a6 y.l.length c6)) := hbx.set _ _ _ _ _
    clear hb1 hb2 hy hyz hbx
    go_wp2_with fail
    obtain ⟨z0, z1, z2, z3, z4, -⟩ := Z.out.c
    refine bodyPost_ret (v := .tuple #[.agg #[.int .i64 y.kind, .int .i64 y.n, .string ⟨y.s.toArray⟩, .slice a5 y.keys.length c5, .slice a6 y.l.length c6], .bool b]) ?_ rfl ?_
    · simp only [set5] at z0 z1 z2 z3 z4
      simp [results, Tryz.results37, go_sem, z0, z1, z2, z3, z4]
    · obtain ⟨r1, r2, r3, r4⟩ := R.out
      refine ⟨_, _, rfl, bel_set5 r1 (Nat.le_succ _) _ _ _ _ _, r2, y, ?_, r4⟩
      exact (r3.grown (set5_gb w1 _ _ _ _ _ _) (fun k hk => by omega)).weak fun k hk => hk.1
end Go.Proofs.YtmdemcjmcnfjmaaGreatDoor

/- What Get of package point does. -/
set_option linter.unusedSimpArgs false
set_option linter.unusedVariables false
namespace Go.Proofs.YtmdemcjmcnfjmaaGreatDoor
open Go.RowKit

/- On the way: what is got so far. -/
def GetI (w : World) (ok : Nat → Prop) (t : V) (ns : List (List UInt8)) (na : Option Addr) (nc k : Nat) (wr : World) : Prop :=
  ∃ (y : V) (a5 a6 : Option Addr) (c5 c6 : Nat), getV ns t = getV (ns.drop k) y ∧ BoxIs wr w.heap.size (.int .i64 y.kind) (.int .i64 y.n) (.string ⟨y.s.toArray⟩) (.slice a5 y.keys.length c5) (.slice a6 y.l.length c6) ∧ BoxIs wr (w.heap.size + 1) (.int .i64 0) (.int .i64 0) (.string ⟨#[]⟩) (.slice none 0 0) (.slice none 0 0) ∧ Below w.heap.size w wr ∧
    In wr (fun k => ok k ∧ k < w.heap.size) y (.agg #[.int .i64 y.kind, .int .i64 y.n, .string ⟨y.s.toArray⟩, .slice a5 y.keys.length c5, .slice a6 y.l.length c6]) ∧ StrsAre wr (fun k => w.heap.size + 2 ≤ k) ns (.slice na ns.length nc)

set_option maxRecDepth 100000 in
set_option maxHeartbeats 40000000 in
theorem get_is (w : World) (ok : Nat → Prop) (t : V) (v : Value) (p : List UInt8) (h : In w ok t v) (hp : p.length ≤ 140737488351232) (hM : GlobM w) :
    Calls Tryz.prog 14 #[v, str p] w fun e w' => ∃ r, e = .returned (.tuple #[r, .int .i64 (getR (splitP p) t).2]) ∧ Below w.heap.size w w' ∧ In w' ok (getR (splitP p) t).1 r := by
  have H := hidI h.low
  have HMM := hidI hM
  obtain ⟨l1, l2, l3⟩ := h.lens
  obtain ⟨a1, a2, c1, c2, rfl⟩ := h.form
  clear h hM
  go_enter Tryz.func14, Tryz.ntmps14
  go_wp2_with fail
  refine (split_all _ p hp (by exact HMM.out.bel (bel_trans (bel_alloc _ _) (bel_alloc _ _)))).mono ?_
  rintro e w1 ⟨ns, ee, na, nc, rfl, hsp, hns, hb1⟩
  have SP := hidI hsp
  have nlen := hns.1
  unfold maxLen at nlen
  have K1 : Hid (BoxIs w1 w.heap.size (.int .i64 t.kind) (.int .i64 t.n) (.string ⟨t.s.toArray⟩) (.slice a1 t.keys.length c1) (.slice a2 t.l.length c2) ∧ BoxIs w1 (w.heap.size + 1) (.int .i64 0) (.int .i64 0) (.string ⟨#[]⟩) (.slice none 0 0) (.slice none 0 0) ∧ Below w.heap.size w w1 ∧ StrsAre w1 (fun k => w.heap.size + 2 ≤ k) ns (.slice na ns.length nc)) := ⟨box_bel hb1 (h2a w _ _), box_bel hb1 (h2b w _ _), bel_trans (bel_trans (bel_alloc _ _) (bel_alloc _ _)) hb1, hns.imp fun a x hx hc => ⟨by simpa using hx, hc⟩⟩
  clear hb1 hns hsp
  by_cases he : ee = 0
  · subst he
    obtain ⟨p0, p1, p2, p3, p4, -⟩ := K1.out.1.c
    go_wp2_with fail
    refine (good_is _ (fun k => ok k ∧ k < w.heap.size) t _ (by exact H.out.bel K1.out.2.2.1)).mono ?_
    rintro e w2 ⟨rfl, hb2⟩
    have K2 : Hid (BoxIs w2 w.heap.size (.int .i64 t.kind) (.int .i64 t.n) (.string ⟨t.s.toArray⟩) (.slice a1 t.keys.length c1) (.slice a2 t.l.length c2) ∧ BoxIs w2 (w.heap.size + 1) (.int .i64 0) (.int .i64 0) (.string ⟨#[]⟩) (.slice none 0 0) (.slice none 0 0) ∧ Below w.heap.size w w2 ∧ StrsAre w2 (fun k => w.heap.size + 2 ≤ k) ns (.slice na ns.length nc)) := ⟨box_bel hb2 K1.out.1, box_bel hb2 K1.out.2.1, bel_trans K1.out.2.2.1 hb2, K1.out.2.2.2.bel hb2⟩
    clear hb2 p0 p1 p2 p3 p4 K1
    cases hg : goodV t with
    | false =>
      obtain ⟨x0, x1, x2, x3, x4, y0, y1, y2, y3, y4⟩ := (K2.out.2.1).c
      have Z := hidI (bel_set5 K2.out.2.2.1 (Nat.le_succ w.heap.size) (.int .i64 0) (.int .i64 0) (.string ⟨#[]⟩) (.slice none 0 0) (.slice none 0 0))
      have ZB := hidI ((K2.out.2.1).set (.int .i64 0) (.int .i64 0) (.string ⟨#[]⟩) (.slice none 0 0) (.slice none 0 0))
      have HA : Hid (getR (splitP p) t = (zeroT, 1)) := hidI (by rw [SP.out]; unfold getR; rw [if_neg (by simp), if_pos hg])
      clear hg
      go_wp2_with fail
      obtain ⟨z0, z1, z2, z3, z4, -⟩ := ZB.out.c
      refine bodyPost_ret (v := .tuple #[.agg #[.int .i64 0, .int .i64 0, .string ⟨#[]⟩, .slice none 0 0, .slice none 0 0], .int .i64 1]) ?_ rfl ?_
      · simp only [set5] at z0 z1 z2 z3 z4
        simp [results, Tryz.results14, go_sem, z0, z1, z2, z3, z4]
      · refine ⟨_, by rw [HA.out], Z.out, ?_⟩
        rw [HA.out]
        exact in_zero _ _
    | true =>
      have HG := hidI hg
      clear hg
      have S0 : Hid (GetI w ok t ns na nc 0 w2) := ⟨t, a1, a2, c1, c2, rfl, K2.out.1, K2.out.2.1, K2.out.2.2.1, H.out.bel K2.out.2.2.1, K2.out.2.2.2⟩
      clear K2
      go_wp2_with fail
      go_loopg [27] ns.length (fun gk i wr => ∃ k : Nat, k ≤ ns.length ∧ gk = ns.length - k ∧ i = .int .i64 k ∧ GetI w ok t ns na nc k wr)
      case atStart => exact ⟨0, Nat.zero_le _, rfl, rfl, S0.out⟩
      case round =>
        obtain ⟨k, hk, hgk, rfl, y, a5, a6, c5, c6, i1, i2, i3, i4, i5, i6⟩ := hrel
        have GK := hidI hgk
        have I : Hid (getV ns t = getV (ns.drop k) y ∧ BoxIs wr w.heap.size (.int .i64 y.kind) (.int .i64 y.n) (.string ⟨y.s.toArray⟩) (.slice a5 y.keys.length c5) (.slice a6 y.l.length c6) ∧ BoxIs wr (w.heap.size + 1) (.int .i64 0) (.int .i64 0) (.string ⟨#[]⟩) (.slice none 0 0) (.slice none 0 0) ∧ Below w.heap.size w wr ∧ In wr (fun k => ok k ∧ k < w.heap.size) y (.agg #[.int .i64 y.kind, .int .i64 y.n, .string ⟨y.s.toArray⟩, .slice a5 y.keys.length c5, .slice a6 y.l.length c6]) ∧ StrsAre wr (fun k => w.heap.size + 2 ≤ k) ns (.slice na ns.length nc)) := ⟨i1, i2, i3, i4, i5, i6⟩
        obtain ⟨p0, p1, p2, p3, p4, p5, p6, p7, p8, p9⟩ := i2.c
        clear hgk i1 i2 i3 i4 i5 i6
        by_cases hlt : k < ns.length
        · obtain ⟨nb, no, rfl, hc1, hc2, hc⟩ := strs_cells I.out.2.2.2.2.2 hlt
          unfold maxLen at hc2
          have hsl : ns[k].length ≤ 9223372036854775807 := I.out.2.2.2.2.2.mem _ (List.getElem_mem _)
          go_wp2_with fail
          refine (meant_is _ (fun k => ok k ∧ k < w.heap.size) y _ ns[k] (by exact I.out.2.2.2.2.1) hsl).mono ?_
          rintro e w3 ⟨r, b, rfl, hb3, hb, u, hu, huz⟩
          obtain ⟨b5, b6, d5, d6, rfl⟩ := hu.form
          have hbb := bel_trans hb3 (bel_alloc w3 (.cells #[.int .i64 u.kind, .int .i64 u.n, .string ⟨u.s.toArray⟩, .slice b5 u.keys.length d5, .slice b6 u.l.length d6] 25))
          have K3 : Hid (BoxIs (w3.alloc (.cells #[.int .i64 u.kind, .int .i64 u.n, .string ⟨u.s.toArray⟩, .slice b5 u.keys.length d5, .slice b6 u.l.length d6] 25)) w.heap.size (.int .i64 y.kind) (.int .i64 y.n) (.string ⟨y.s.toArray⟩) (.slice a5 y.keys.length c5) (.slice a6 y.l.length c6) ∧ BoxIs (w3.alloc (.cells #[.int .i64 u.kind, .int .i64 u.n, .string ⟨u.s.toArray⟩, .slice b5 u.keys.length d5, .slice b6 u.l.length d6] 25)) (w.heap.size + 1) (.int .i64 0) (.int .i64 0) (.string ⟨#[]⟩) (.slice none 0 0) (.slice none 0 0) ∧ Below w.heap.size w (w3.alloc (.cells #[.int .i64 u.kind, .int .i64 u.n, .string ⟨u.s.toArray⟩, .slice b5 u.keys.length d5, .slice b6 u.l.length d6] 25)) ∧ BoxIs (w3.alloc (.cells #[.int .i64 u.kind, .int .i64 u.n, .string ⟨u.s.toArray⟩, .slice b5 u.keys.length d5, .slice b6 u.l.length d6] 25)) w3.heap.size (.int .i64 u.kind) (.int .i64 u.n) (.string ⟨u.s.toArray⟩) (.slice b5 u.keys.length d5) (.slice b6 u.l.length d6) ∧ In (w3.alloc (.cells #[.int .i64 u.kind, .int .i64 u.n, .string ⟨u.s.toArray⟩, .slice b5 u.keys.length d5, .slice b6 u.l.length d6] 25)) (fun k => ok k ∧ k < w.heap.size) u (.agg #[.int .i64 u.kind, .int .i64 u.n, .string ⟨u.s.toArray⟩, .slice b5 u.keys.length d5, .slice b6 u.l.length d6]) ∧ StrsAre (w3.alloc (.cells #[.int .i64 u.kind, .int .i64 u.n, .string ⟨u.s.toArray⟩, .slice b5 u.keys.length d5, .slice b6 u.l.length d6] 25)) (fun k => w.heap.size + 2 ≤ k) ns (.slice (some ⟨nb, no, none⟩) ns.length nc)) := ⟨box_bel hbb I.out.2.1, box_bel hbb I.out.2.2.1, bel_trans I.out.2.2.2.1 hbb, heap_alloc_new w3 _, hu.bel (bel_alloc _ _), I.out.2.2.2.2.2.bel hbb⟩
          have GS : Hid (getV (ns.drop k) y = (meantV y ns[k]).bind (getV (ns.drop (k + 1)))) := hidI (by rw [List.drop_eq_getElem_cons hlt, getV])
          clear hb3 hbb hu hc p0 p1 p2 p3 p4 p5 p6 p7 p8 p9
          obtain ⟨o0, o1, o2, o3, o4, o5, o6, o7, o8, o9⟩ := K3.out.1.c
          obtain ⟨q0, q1, q2, q3, q4, -⟩ := K3.out.2.2.2.1.c
          cases hm : meantV y ns[k] with
          | none =>
            rw [hm] at hb
            simp only [Option.isSome_none] at hb
            subst hb
            obtain ⟨x0, x1, x2, x3, x4, y0, y1, y2, y3, y4⟩ := (K3.out.2.1).c
            have Z := hidI (bel_set5 K3.out.2.2.1 (Nat.le_succ w.heap.size) (.int .i64 0) (.int .i64 0) (.string ⟨#[]⟩) (.slice none 0 0) (.slice none 0 0))
            have ZB := hidI ((K3.out.2.1).set (.int .i64 0) (.int .i64 0) (.string ⟨#[]⟩) (.slice none 0 0) (.slice none 0 0))
            have HA : Hid (getR (splitP p) t = (zeroT, 3)) := hidI (by rw [SP.out]; unfold getR; rw [if_neg (by simp), if_neg (by simp [HG.out]), I.out.1, GS.out, hm]; rfl)
            clear hm huz o0 o1 o2 o3 o4 o5 o6 o7 o8 o9 q0 q1 q2 q3 q4
            go_wp2_with fail
            obtain ⟨z0, z1, z2, z3, z4, -⟩ := ZB.out.c
            refine bodyPost_ret (v := .tuple #[.agg #[.int .i64 0, .int .i64 0, .string ⟨#[]⟩, .slice none 0 0, .slice none 0 0], .int .i64 3]) ?_ rfl ?_
            · simp only [set5] at z0 z1 z2 z3 z4
              simp [results, Tryz.results14, go_sem, z0, z1, z2, z3, z4]
            · refine ⟨_, by rw [HA.out], Z.out, ?_⟩
              rw [HA.out]
              exact in_zero _ _
          | some z9 =>
            rw [hm] at hb
            simp only [Option.isSome_some] at hb
            subst hb
            obtain rfl := huz z9 hm
            have HM := hidI hm
            have FIN : Hid (GetI w ok t ns (some ⟨nb, no, none⟩) nc (k + 1) (set5 (w3.alloc (.cells #[.int .i64 u.kind, .int .i64 u.n, .string ⟨u.s.toArray⟩, .slice b5 u.keys.length d5, .slice b6 u.l.length d6] 25)) w.heap.size (.int .i64 u.kind) (.int .i64 u.n) (.string ⟨u.s.toArray⟩) (.slice b5 u.keys.length d5) (.slice b6 u.l.length d6))) := by
              have g1 := set5_gb (w3.alloc (.cells #[.int .i64 u.kind, .int .i64 u.n, .string ⟨u.s.toArray⟩, .slice b5 u.keys.length d5, .slice b6 u.l.length d6] 25)) w.heap.size (.int .i64 u.kind) (.int .i64 u.n) (.string ⟨u.s.toArray⟩) (.slice b5 u.keys.length d5) (.slice b6 u.l.length d6)
              refine ⟨u, b5, b6, d5, d6, ?_, K3.out.1.set _ _ _ _ _, K3.out.2.1.grown g1 (by simp), bel_set5 K3.out.2.2.1 (Nat.le_refl _) _ _ _ _ _, K3.out.2.2.2.2.1.grown g1 (fun k hk => by omega), K3.out.2.2.2.2.2.imp (cells_grown g1 (fun k hk e => by cases e; omega))⟩
              rw [I.out.1, GS.out, HM.out]; rfl
            clear hm huz K3
            go_wp2_with fail
            go_roundg (ns.length - (k + 1))
            case measure => rw [GK.out]; omega
            case rel => exact ⟨k + 1, hlt, rfl, by go_num, FIN.out⟩
        · have hke : k = ns.length := by omega
          subst hke
          obtain ⟨x0, x1, x2, x3, x4, y0, y1, y2, y3, y4⟩ := I.out.2.2.1.c
          have Z := hidI (bel_set5 I.out.2.2.2.1 (Nat.le_succ w.heap.size) (.int .i64 y.kind) (.int .i64 y.n) (.string ⟨y.s.toArray⟩) (.slice a5 y.keys.length c5) (.slice a6 y.l.length c6))
          have ZI := hidI ((I.out.2.2.2.2.1.grown (set5_gb wr (w.heap.size + 1) (.int .i64 y.kind) (.int .i64 y.n) (.string ⟨y.s.toArray⟩) (.slice a5 y.keys.length c5) (.slice a6 y.l.length c6)) (fun k hk => by omega)).weak fun k hk => hk.1)
          have ZB := hidI (I.out.2.2.1.set (.int .i64 y.kind) (.int .i64 y.n) (.string ⟨y.s.toArray⟩) (.slice a5 y.keys.length c5) (.slice a6 y.l.length c6))
          have HA : Hid (getR (splitP p) t = (y, 0)) := hidI (by rw [SP.out]; refine get_ok rfl HG.out ?_; rw [I.out.1, List.drop_length]; rfl)
          go_wp2_with fail
          obtain ⟨z0, z1, z2, z3, z4, -⟩ := ZB.out.c
          refine bodyPost_ret (v := .tuple #[.agg #[.int .i64 y.kind, .int .i64 y.n, .string ⟨y.s.toArray⟩, .slice a5 y.keys.length c5, .slice a6 y.l.length c6], .int .i64 0]) ?_ rfl ?_
          · simp only [set5] at z0 z1 z2 z3 z4
            simp [results, Tryz.results14, go_sem, z0, z1, z2, z3, z4]
          · refine ⟨_, by rw [HA.out], Z.out, ?_⟩
            rw [HA.out]
            exact ZI.out
  · have e1 : (ee != 0) = true := by rw [bne_iff_ne]; exact he
    have e2 : (ee == 0) = false := by rw [beq_eq_false_iff_ne]; exact he
    have HE := hidI he
    clear he
    obtain ⟨x0, x1, x2, x3, x4, y0, y1, y2, y3, y4⟩ := (K1.out.2.1).c
    have Z := hidI (bel_set5 K1.out.2.2.1 (Nat.le_succ w.heap.size) (.int .i64 0) (.int .i64 0) (.string ⟨#[]⟩) (.slice none 0 0) (.slice none 0 0))
    have ZB := hidI ((K1.out.2.1).set (.int .i64 0) (.int .i64 0) (.string ⟨#[]⟩) (.slice none 0 0) (.slice none 0 0))
    have HA : Hid (getR (splitP p) t = (zeroT, ee)) := hidI (by rw [SP.out]; unfold getR; rw [if_pos HE.out])
    clear K1
    go_wp2_with fail
    obtain ⟨z0, z1, z2, z3, z4, -⟩ := ZB.out.c
    refine bodyPost_ret (v := .tuple #[.agg #[.int .i64 0, .int .i64 0, .string ⟨#[]⟩, .slice none 0 0, .slice none 0 0], .int .i64 ee]) ?_ rfl ?_
    · simp only [set5] at z0 z1 z2 z3 z4
      simp [results, Tryz.results14, go_sem, z0, z1, z2, z3, z4]
    · refine ⟨_, by rw [HA.out], Z.out, ?_⟩
      rw [HA.out]
      exact in_zero _ _

end Go.Proofs.YtmdemcjmcnfjmaaGreatDoor

/- The walk of keep's OwnerHas. -/
set_option linter.unusedSimpArgs false
set_option linter.unusedVariables false
namespace Go.Proofs.YtmdemcjmcnfjmaaGreatDoor
open Go.RowKit

theorem same_some (w : World) (ok ok' : Nat → Prop) (x y : V) (va vb : Value) (ha : In w ok x va) (hb : In w ok' y vb) :
    ∃ b : Bool, Calls Tryz.prog 8 #[va, vb] w fun e w' => e = .returned (.bool b) ∧ Below w.heap.size w w' := by
  obtain ⟨d, ha⟩ := ha
  obtain ⟨d', hb⟩ := hb
  exact ⟨_, same_all (d + d') w _ _ x y va vb (VIs.le (by omega) ha) (VIs.le (by omega) hb)⟩
theorem rowv {w : World} {base : Nat} {e : TypeId} {size : Nat} {v : Value} {n : Nat} {xs : List Value} (h : w.ownsRow base e size v n xs) : ∃ a c, v = .slice a n c := by
  rcases h.2 with ⟨rfl, rfl⟩ | ⟨g, cap, cur, rfl, -⟩
  · exact ⟨_, _, rfl⟩
  · exact ⟨_, _, rfl⟩
attribute [local go_sem ↓] Go.wp_at_zero Go.wp_at_succ
set_option maxRecDepth 100000 in
set_option maxHeartbeats 4000000 in
theorem has_at (w : World) (ok : Nat → Prop) (t want : V) (l : List Own) (who : List UInt8) (force : Bool) (vt vl vw : Value) (ht : In w ok t vt) (hl : OwnsAre w ok l vl) (hw : In w ok want vw) (hG : Glob w) (hM : GlobM w) (hN : (allOf l).length ≤ 2000000) (hP : ∀ o ∈ l, ∀ x ∈ o.paths, x.length ≤ 140737488351232) (hwho : who.length ≤ 9223372036854775807) :
    Calls Tryz.prog 3 #[vt, vl, .string ⟨who.toArray⟩, vw, .bool force] w fun e w' => e = .returned (.bool true) ∧ Below w.heap.size w w' := by
  have HT := hidI ht
  have HL := hidI hl
  have HW := hidI hw
  have HM := hidI hM
  have HG := hidI hG
  have HN := hidI hN
  obtain ⟨a1, b1, c1, d1, rfl⟩ := ht.form
  obtain ⟨a2, b2, c2, d2, rfl⟩ := hw.form
  obtain ⟨la, lc, rfl⟩ := hl.form
  have ll := hl.1
  unfold maxLen at ll
  obtain ⟨W2, hW2⟩ : ∃ W, W = (w.alloc (.cells #[.int .i64 t.kind, .int .i64 t.n, .string ⟨t.s.toArray⟩, .slice a1 t.keys.length c1, .slice b1 t.l.length d1] 25)).alloc (.cells #[.int .i64 want.kind, .int .i64 want.n, .string ⟨want.s.toArray⟩, .slice a2 want.keys.length c2, .slice b2 want.l.length d2] 25) := ⟨_, rfl⟩
  have Y2 : Hid (Below w.heap.size w W2) := hidI (by rw [hW2]; exact bel_trans (bel_alloc _ _) (bel_alloc _ _))
  have VB : Hid (BoxIs W2 w.heap.size (.int .i64 t.kind) (.int .i64 t.n) (.string ⟨t.s.toArray⟩) (.slice a1 t.keys.length c1) (.slice b1 t.l.length d1)) := hidI (by rw [hW2]; exact h2a _ _ _)
  have WB : Hid (BoxIs W2 (w.heap.size + 1) (.int .i64 want.kind) (.int .i64 want.n) (.string ⟨want.s.toArray⟩) (.slice a2 want.keys.length c2) (.slice b2 want.l.length d2)) := hidI (by rw [hW2]; exact h2b _ _ _)
  have HW2 := hidI hW2
  obtain ⟨res, m, cf, ee, hA⟩ : ∃ res m cf ee, applyF t l who want force = (res, m, cf, ee) := ⟨_, _, _, _, rfl⟩
  have AP := apply_at W2 ok t want l who force _ _ _ (HT.out.bel Y2.out) (HL.out.bel Y2.out) (HW.out.bel Y2.out) (HM.out.bel Y2.out) (by omega) hP hwho
  rw [hA] at AP
  have APC : Hid (Calls Tryz.prog 6 #[.agg #[.int .i64 t.kind, .int .i64 t.n, .string ⟨t.s.toArray⟩, .slice a1 t.keys.length c1, .slice b1 t.l.length d1], .slice la l.length lc, .string ⟨who.toArray⟩, .agg #[.int .i64 want.kind, .int .i64 want.n, .string ⟨want.s.toArray⟩, .slice a2 want.keys.length c2, .slice b2 want.l.length d2], .bool force] W2 fun e w' => ∃ (a3 b3 : Option Addr) (c3 d3 : Nat) (ma : Option Addr) (mc : Nat) (ca : Option Addr) (cc : Nat), e = .returned (.tuple #[.agg #[.int .i64 res.kind, .int .i64 res.n, .string ⟨res.s.toArray⟩, .slice a3 res.keys.length c3, .slice b3 res.l.length d3], .slice ma m.length mc, .slice ca cf.length cc, .int .i64 ee]) ∧ In w' (okN ok W2.heap.size) res (.agg #[.int .i64 res.kind, .int .i64 res.n, .string ⟨res.s.toArray⟩, .slice a3 res.keys.length c3, .slice b3 res.l.length d3]) ∧ OwnsAre w' (okN ok W2.heap.size) m (.slice ma m.length mc) ∧ Below W2.heap.size W2 w') := hidI (AP.mono fun e w' h => by
    obtain ⟨r, ro, rc, rfl, h1, h2, h3, hb⟩ := h
    obtain ⟨a3, b3, c3, d3, rfl⟩ := h1.form
    obtain ⟨ma, mc, rfl⟩ := h2.form
    obtain ⟨ca, cc, rfl⟩ := rowv h3
    exact ⟨a3, b3, c3, d3, ma, mc, ca, cc, rfl, h1, h2, hb⟩)
  obtain ⟨o0, o1, o2, o3, o4, -⟩ := VB.out.c
  obtain ⟨q0, q1, q2, q3, q4, -⟩ := WB.out.c
  have HA := hidI hA
  clear AP hA hW2 ht hl hw hG hM hN hP
  have OWN : Hid (∀ W, Below w.heap.size w W → Calls Tryz.prog 7 #[] W fun e w' => e = .returned (.bool true) ∧ Below W.heap.size W w') := hidI (fun W hW => owns_at W (HG.out.grown (r := none) (gb_below hW) (by simp)) (HM.out.bel hW))
  go_enter Tryz.func3, Tryz.ntmps3
  go_upto_region 1 with fail
  rw [← HW2.out]
  go_upto_region 2 with (go_at_call 6; refine APC.out.mono ?_; rintro e w3 ⟨a3, b3, c3, d3, ma, mc, ca, cc, rfl, h1, h2, hb⟩; have B3 := hidI hb; have I3 := hidI h1; have M3 := hidI h2; clear h1 h2 hb)
  obtain ⟨W3, hW3⟩ : ∃ W, W = w3.alloc (.cells #[.int .i64 res.kind, .int .i64 res.n, .string ⟨res.s.toArray⟩, .slice a3 res.keys.length c3, .slice b3 res.l.length d3] 25) := ⟨_, rfl⟩
  have A3 : Hid (Below w3.heap.size w3 W3) := hidI (by rw [hW3]; exact bel_alloc _ _)
  have X3 : Hid (BoxIs W3 w3.heap.size (.int .i64 res.kind) (.int .i64 res.n) (.string ⟨res.s.toArray⟩) (.slice a3 res.keys.length c3) (.slice b3 res.l.length d3)) := hidI (by rw [hW3]; exact heap_alloc_new _ _)
  rw [← hW3]
  clear hW3 o0 o1 o2 o3 o4 q0 q1 q2 q3 q4
  have Y3 := hidI (bel_trans (bel_trans Y2.out B3.out) A3.out)
  by_cases hee : ee = 0
  rotate_left
  · have e0 : (ee != 0) = true := by simpa using hee
    have e1 : (ee == 0) = false := by rw [beq_eq_false_iff_ne]; exact hee
    have ER := apply_err (v := t) (l := l) (who := who) (want := want) (force := force) (by rw [HA.out]; exact hee)
    rw [HA.out] at ER
    obtain ⟨hr, -, h5, hf⟩ := ER
    simp only at hr h5 hf
    subst hr
    have SM := hidI (same_is W3 _ _ res _ _ (I3.out.bel A3.out) (HT.out.bel Y3.out))
    obtain ⟨v0, v1, v2, v3, v4, -⟩ := (box_bel (bel_trans B3.out A3.out) VB.out).c
    obtain ⟨x0, x1, x2, x3, x4, -⟩ := X3.out.c
    obtain ⟨n, hn⟩ : ∃ n, cf.length = n := ⟨_, rfl⟩
    have h5n : ee = 5 ↔ n ≠ 0 := by rw [h5, ← hn]; simp
    rw [hn]
    clear hn h5 hee HA I3
    by_cases he5 : ee = 5
    · have hnf : force = false := by cases force with | false => rfl | true => exact absurd he5 (hf rfl)
      subst hnf
      have n0 : (0 : Int) < (n : Int) := by have := h5n.1 he5; omega
      have f5 : (ee == 5) = true := by simp [he5]
      clear hf h5n he5
      go_wp2_with (first
        | (go_at_call 8; refine SM.out.mono ?_; rintro e w4 ⟨rfl, hb⟩; have B4 := hidI hb; clear hb)
        | (go_at_call 7; refine (OWN.out _ (bel_trans Y3.out B4.out)).mono ?_; rintro e w5 ⟨rfl, hb⟩; have B5 := hidI hb; clear hb))
      go_ret
      exact ⟨rfl, bel_trans (bel_trans Y3.out B4.out) B5.out⟩
    · have n0 : n = 0 := by apply Classical.byContradiction; intro h9; exact he5 (h5n.2 h9)
      subst n0
      have f5 : (ee == 5) = false := by rw [beq_eq_false_iff_ne]; exact he5
      clear hf h5n he5
      cases force
      · skip
        go_wp2_with (first
          | (go_at_call 8; refine SM.out.mono ?_; rintro e w4 ⟨rfl, hb⟩; have B4 := hidI hb; clear hb)
          | (go_at_call 7; refine (OWN.out _ (bel_trans Y3.out B4.out)).mono ?_; rintro e w5 ⟨rfl, hb⟩; have B5 := hidI hb; clear hb))
        go_ret
        exact ⟨rfl, bel_trans (bel_trans Y3.out B4.out) B5.out⟩
      · skip
        go_wp2_with (first
          | (go_at_call 8; refine SM.out.mono ?_; rintro e w4 ⟨rfl, hb⟩; have B4 := hidI hb; clear hb)
          | (go_at_call 7; refine (OWN.out _ (bel_trans Y3.out B4.out)).mono ?_; rintro e w5 ⟨rfl, hb⟩; have B5 := hidI hb; clear hb))
        go_ret
        exact ⟨rfl, bel_trans (bel_trans Y3.out B4.out) B5.out⟩
  subst hee
  obtain ⟨L, hL⟩ : ∃ L, leavesF want = L := ⟨_, rfl⟩
  obtain ⟨gm, pm, -⟩ := apply_good HA.out
  obtain ⟨-, -, -, -, gr, -, -⟩ := apply_ok HA.out
  have SZ := hidI (apply_size HA.out HN.out)
  have AGAIN := hidI (apply_again HA.out)
  have LEAF : Hid (∀ p ∈ L, p.length ≤ 140737488351232 ∧ ∃ x y, getR (splitP p) want = (x, 0) ∧ getR (splitP p) res = (y, 0) ∧ (x = y ∨ x.kind = 5 ∧ y.kind = 5)) := hidI (fun p hp => ⟨SZ.out.2.2.2 p (by rw [hL]; exact hp), apply_leaf HA.out (by rw [hL]; exact hp)⟩)
  go_upto_region 4 with (go_at_call 7; refine (OWN.out _ Y3.out).mono ?_; rintro e w4 ⟨rfl, hb⟩; have B4 := hidI hb; clear hb)
  have Y4 := hidI (bel_trans Y3.out B4.out)
  have WB4 := hidI (box_bel (bel_trans (bel_trans B3.out A3.out) B4.out) WB.out)
  have RB4 := hidI (box_bel B4.out X3.out)
  have WI4 := hidI (HW.out.bel Y4.out)
  have RI4 := hidI ((I3.out.bel A3.out).bel B4.out)
  have MI4 := hidI ((M3.out.bel A3.out).bel B4.out)
  have GM4 := hidI (HM.out.bel Y4.out)
  have PM : Hid (∀ W, Below w4.heap.size w4 W → Calls Tryz.prog 10 #[.slice ma m.length mc, .string ⟨who.toArray⟩] W fun e w' => ∃ a c, e = .returned (.slice a L.length c) ∧ StrsAre w' (okN ok W2.heap.size) L (.slice a L.length c) ∧ Below W.heap.size W w') := hidI (fun W hW => by
    have := pathsOfK_at W _ m _ who (MI4.out.bel hW)
    rwa [pm, hL] at this)
  have LVS : Hid (∀ W, Below w4.heap.size w4 W → Calls Tryz.prog 11 #[.agg #[.int .i64 want.kind, .int .i64 want.n, .string ⟨want.s.toArray⟩, .slice a2 want.keys.length c2, .slice b2 want.l.length d2]] W fun e w' => ∃ (a : Option Addr) (c : Nat), e = .returned (.slice a L.length c) ∧ StrsAre w' (fun k => W.heap.size ≤ k) L (.slice a L.length c) ∧ Below W.heap.size W w') := hidI (fun W hW => by
    have := leaves_at W _ want _ (WI4.out.bel hW) (GM4.out.bel hW)
    rwa [hL] at this)
  have LV := hidI LVS.out
  have OG : Hid (∀ W, Below w4.heap.size w4 W → Calls Tryz.prog 12 #[.slice ma m.length mc] W fun e w' => e = .returned (.bool true) ∧ Below W.heap.size W w') := hidI (fun W hW => by
    have := goodOwners_at W _ m _ (MI4.out.bel hW) SZ.out.2.1 (GM4.out.bel hW)
    rwa [gm] at this)
  have JG : Hid (∀ W, Below w4.heap.size w4 W → Calls Tryz.prog 13 #[.agg #[.int .i64 res.kind, .int .i64 res.n, .string ⟨res.s.toArray⟩, .slice a3 res.keys.length c3, .slice b3 res.l.length d3]] W fun e w' => e = .returned (.bool true) ∧ Below W.heap.size W w') := hidI (fun W hW => by
    have := good_is W _ res _ (RI4.out.bel hW)
    rwa [gr] at this)
  clear hL gm pm gr
  go_cut [81] (fun cv wc => cv = .bool false ∧ Hid (Below w4.heap.size w4 wc))
  case first =>
    refine wp_region_T (fun wS => Below w4.heap.size w4 wS) [] (by kernel_rfl) (bel_drewN _ 1) (fun hHeld => ?_)
    refine wpAnyT_take (i := 0) (v := ?_) [] (oi := _) rfl (by kernel_rfl) (by kernel_rfl) (by kernel_rfl) (by kernel_rfl) (fun _ _ _ h => h) (Or.inl ⟨by rfl, ?_⟩) hHeld ?_
    rotate_left
    · intro wS hSw
      go_simp
      all_goals with_reducible rfl
    simp only [Act.put, List.setIfInBounds_toArray, List.set_cons_zero, List.set_cons_succ]
    refine wpAnyT_take (i := 1) (v := ?_) [] (oi := _) rfl (by kernel_rfl) (by kernel_rfl) (by kernel_rfl) (by kernel_rfl) (fun _ _ _ h => h) (Or.inl ⟨by rfl, ?_⟩) hHeld ?_
    rotate_left
    · intro wS hSw
      go_simp
      all_goals with_reducible rfl
    simp only [Act.put, List.setIfInBounds_toArray, List.set_cons_zero, List.set_cons_succ]
    refine wpAnyT_take (i := 3) (v := ?_) [] (oi := _) rfl (by kernel_rfl) (by kernel_rfl) (by kernel_rfl) (by kernel_rfl) (fun _ _ _ h => h) (Or.inl ⟨by rfl, ?_⟩) hHeld ?_
    rotate_left
    · intro wS hSw
      obtain ⟨u0, u1, u2, u3, u4, -⟩ := (box_bel hSw WB4.out).c
      obtain ⟨x0, x1, x2, x3, x4, -⟩ := (box_bel hSw RB4.out).c
      go_simp
      all_goals with_reducible rfl
    simp only [Act.put, List.setIfInBounds_toArray, List.set_cons_zero, List.set_cons_succ]
    refine wpAnyT_ready (rs := [2]) (by kernel_rfl) (by simp) ?_
    refine AllReadyT.cons (i := 2) (o := _) rfl (fun K hK => ?_) ?_
    · go_simp
      refine (PM.out _ hHeld).mono ?_
      rintro e w2q ⟨ra, rc9, rfl, hst, hb5⟩
      refine hK.out _ _ (bel_trans hHeld hb5) (fun hHeld2 => ?_)
      have PS := hidI hst
      try replace QS := hidI (QS.out.bel hb5)
      clear hb5 hst
      clear hK K
      replace hHeld := hHeld2
      clear hHeld2
      try simp only [Act.put, List.setIfInBounds_toArray, List.set_cons_zero, List.set_cons_succ]
      refine wpAnyT_ready (rs := [4]) (by kernel_rfl) (by simp) ?_
      refine AllReadyT.cons (i := 4) (o := _) rfl (fun K hK => ?_) ?_
      · go_simp
        refine (LV.out _ hHeld).mono ?_
        rintro e w4q ⟨qa, qc9, rfl, hst, hb5⟩
        refine hK.out _ _ (bel_trans hHeld hb5) (fun hHeld2 => ?_)
        have QS := hidI hst
        try replace PS := hidI (PS.out.bel hb5)
        clear hb5 hst
        clear hK K
        replace hHeld := hHeld2
        clear hHeld2
        try simp only [Act.put, List.setIfInBounds_toArray, List.set_cons_zero, List.set_cons_succ]
        refine wpAnyT_ready (rs := [5]) (by kernel_rfl) (by simp) ?_
        refine AllReadyT.cons (i := 5) (o := _) rfl (fun K hK => ?_) ?_
        · go_simp
          refine (sameTexts_yes _ _ _ L _ _ (by exact PS.out) (by exact QS.out)).mono ?_
          rintro e w5q ⟨rfl, hb5⟩
          refine hK.out _ _ (bel_trans hHeld hb5) (fun hHeld2 => ?_)
          clear hb5
          clear hK K
          replace hHeld := hHeld2
          clear hHeld2
          try simp only [Act.put, List.setIfInBounds_toArray, List.set_cons_zero, List.set_cons_succ]
          refine wpAnyT_take (i := 6) (v := ?_) [] (oi := _) rfl (by kernel_rfl) (by kernel_rfl) (by kernel_rfl) (by kernel_rfl) (fun _ _ _ h => h) (Or.inl ⟨by rfl, ?_⟩) hHeld ?_
          rotate_left
          · intro wS hSw
            go_simp
            all_goals with_reducible rfl
          simp only [Act.put, List.setIfInBounds_toArray, List.set_cons_zero, List.set_cons_succ]
          refine wpAnyT_take (i := 7) (v := ?_) [] (oi := _) rfl (by kernel_rfl) (by kernel_rfl) (by kernel_rfl) (by kernel_rfl) (fun _ _ _ h => h) (Or.inl ⟨by rfl, ?_⟩) hHeld ?_
          rotate_left
          · intro wS hSw
            go_simp
            all_goals with_reducible rfl
          simp only [Act.put, List.setIfInBounds_toArray, List.set_cons_zero, List.set_cons_succ]
          refine wpAnyT_take (i := 8) (v := ?_) [] (oi := _) rfl (by kernel_rfl) (by kernel_rfl) (by kernel_rfl) (by kernel_rfl) (fun _ _ _ h => h) (Or.inl ⟨by rfl, ?_⟩) hHeld ?_
          rotate_left
          · intro wS hSw
            go_simp
            all_goals with_reducible rfl
          simp only [Act.put, List.setIfInBounds_toArray, List.set_cons_zero, List.set_cons_succ]
          refine wpAnyT_ready (rs := [9]) (by kernel_rfl) (by simp) ?_
          refine AllReadyT.cons (i := 9) (o := _) rfl (fun K hK => ?_) ?_
          · go_simp
            refine (OG.out _ hHeld).mono ?_
            rintro e w9q ⟨rfl, hb5⟩
            refine hK.out _ _ (bel_trans hHeld hb5) (fun hHeld2 => ?_)
            clear hb5
            clear hK K
            replace hHeld := hHeld2
            clear hHeld2
            try simp only [Act.put, List.setIfInBounds_toArray, List.set_cons_zero, List.set_cons_succ]
            refine wpAnyT_take (i := 10) (v := ?_) [] (oi := _) rfl (by kernel_rfl) (by kernel_rfl) (by kernel_rfl) (by kernel_rfl) (fun _ _ _ h => h) (Or.inl ⟨by rfl, ?_⟩) hHeld ?_
            rotate_left
            · intro wS hSw
              go_simp
              all_goals with_reducible rfl
            simp only [Act.put, List.setIfInBounds_toArray, List.set_cons_zero, List.set_cons_succ]
            refine wpAnyT_take (i := 11) (v := ?_) [] (oi := _) rfl (by kernel_rfl) (by kernel_rfl) (by kernel_rfl) (by kernel_rfl) (fun _ _ _ h => h) (Or.inl ⟨by rfl, ?_⟩) hHeld ?_
            rotate_left
            · intro wS hSw
              go_simp
              all_goals with_reducible rfl
            simp only [Act.put, List.setIfInBounds_toArray, List.set_cons_zero, List.set_cons_succ]
            refine wpAnyT_take (i := 12) (v := ?_) [] (oi := _) rfl (by kernel_rfl) (by kernel_rfl) (by kernel_rfl) (by kernel_rfl) (fun _ _ _ h => h) (Or.inl ⟨by rfl, ?_⟩) hHeld ?_
            rotate_left
            · intro wS hSw
              go_simp
              all_goals with_reducible rfl
            simp only [Act.put, List.setIfInBounds_toArray, List.set_cons_zero, List.set_cons_succ]
            refine wpAnyT_take (i := 13) (v := ?_) [] (oi := _) rfl (by kernel_rfl) (by kernel_rfl) (by kernel_rfl) (by kernel_rfl) (fun _ _ _ h => h) (Or.inl ⟨by rfl, ?_⟩) hHeld ?_
            rotate_left
            · intro wS hSw
              obtain ⟨u0, u1, u2, u3, u4, -⟩ := (box_bel hSw WB4.out).c
              obtain ⟨x0, x1, x2, x3, x4, -⟩ := (box_bel hSw RB4.out).c
              go_simp
              all_goals with_reducible rfl
            simp only [Act.put, List.setIfInBounds_toArray, List.set_cons_zero, List.set_cons_succ]
            refine wpAnyT_ready (rs := [14]) (by kernel_rfl) (by simp) ?_
            refine AllReadyT.cons (i := 14) (o := _) rfl (fun K hK => ?_) ?_
            · go_simp
              refine (JG.out _ hHeld).mono ?_
              rintro e w14q ⟨rfl, hb5⟩
              refine hK.out _ _ (bel_trans hHeld hb5) (fun hHeld2 => ?_)
              have B6 := hidI hHeld2
              clear hb5
              clear hK K
              replace hHeld := hHeld2
              clear hHeld2
              try simp only [Act.put, List.setIfInBounds_toArray, List.set_cons_zero, List.set_cons_succ]
              refine wpAnyT_take (i := 15) (v := ?_) [] (oi := _) rfl (by kernel_rfl) (by kernel_rfl) (by kernel_rfl) (by kernel_rfl) (fun _ _ _ h => h) (Or.inl ⟨by rfl, ?_⟩) hHeld ?_
              rotate_left
              · intro wS hSw
                go_simp
                all_goals with_reducible rfl
              simp only [Act.put, List.setIfInBounds_toArray, List.set_cons_zero, List.set_cons_succ]
              refine wpAnyT_take (i := 16) (v := ?_) [] (oi := _) rfl (by kernel_rfl) (by kernel_rfl) (by kernel_rfl) (by kernel_rfl) (fun _ _ _ h => h) (Or.inl ⟨by rfl, ?_⟩) hHeld ?_
              rotate_left
              · intro wS hSw
                go_simp
                all_goals with_reducible rfl
              simp only [Act.put, List.setIfInBounds_toArray, List.set_cons_zero, List.set_cons_succ]
              refine wpAnyT_done (by kernel_rfl) ?_ _
              go_wp2_with fail
              go_meet
              case rel => exact ⟨rfl, B6⟩
            exact AllReadyT.nil
          exact AllReadyT.nil
        exact AllReadyT.nil
      exact AllReadyT.nil
    exact AllReadyT.nil
  case rest =>
    obtain ⟨rfl, B6⟩ := hcut
    clear PM LV OG JG
    have Y6a := hidI (bel_trans Y4.out B6.out)
    have B46a := hidI B6.out
    obtain ⟨v0, v1, v2, v3, v4, -⟩ := (box_bel B6.out WB4.out).c
    go_upto_region 7 with (go_at_call 11; refine (LVS.out _ B6.out).mono ?_; rintro e w6 ⟨la9, lc9, rfl, hst, hb⟩; have LS := hidI hst; have B6b := hidI hb; clear hst hb)
    have B46 := hidI (bel_trans B6.out B6b.out)
    have Y6 := hidI (bel_trans Y4.out B46.out)
    clear v0 v1 v2 v3 v4
    go_loopg [85] L.length (fun gk i wr => ∃ k : Nat, k ≤ L.length ∧ gk = L.length - k ∧ i = .int .i64 k ∧ Hid (Below w6.heap.size w6 wr))
    case atStart => exact ⟨0, Nat.zero_le _, rfl, rfl, Below.refl _ _⟩
    case round =>
      obtain ⟨k, hk, hgk, rfl, BL⟩ := hrel
      have GK := hidI hgk
      clear hgk
      have BW7 := hidI (bel_trans B46.out BL.out)
      by_cases hlt : k < L.length
      · obtain ⟨pb, po, rfl, hc1', hc2', hcell0⟩ := strs_at LS.out hlt
        unfold maxLen at hc2'
        have hcell := cell_bel BL.out hcell0
        have j2 : (k : Int) < (L.length : Int) := by omega
        have j3 : (0 : Int) ≤ (k : Int) := by omega
        have LF := LEAF.out _ (List.getElem_mem hlt)
        clear hcell0
        obtain ⟨p, hp⟩ : ∃ p, L[k] = p := ⟨_, rfl⟩
        rw [hp] at hcell LF
        clear hp
        obtain ⟨hlen, x, y, hx, hy, hxy⟩ := LF
        have G1 := get_is wr _ want _ p (WI4.out.bel BW7.out) hlen (GM4.out.bel BW7.out)
        rw [hx] at G1
        have G1C : Hid (Calls Tryz.prog 14 #[.agg #[.int .i64 want.kind, .int .i64 want.n, .string ⟨want.s.toArray⟩, .slice a2 want.keys.length c2, .slice b2 want.l.length d2], .string ⟨p.toArray⟩] wr fun e w' => ∃ r, e = .returned (.tuple #[r, .int .i64 0]) ∧ Below wr.heap.size wr w' ∧ In w' ok x r) := hidI G1
        have HXY := hidI hxy
        have HY := hidI hy
        have HLEN := hidI hlen
        clear G1 hx hy hxy hlen
        obtain ⟨v0, v1, v2, v3, v4, -⟩ := (box_bel BW7.out WB4.out).c
        go_upto_region 10 with (go_at_call 14; refine G1C.out.mono ?_; rintro e w7 ⟨r, rfl, hb, hx⟩; obtain ⟨a4, b4, c4, d4, rfl⟩ := hx.form; have B7 := hidI hb; have XI := hidI hx; clear hb hx)
        obtain ⟨W7, hW7⟩ : ∃ W, W = w7.alloc (.cells #[.int .i64 x.kind, .int .i64 x.n, .string ⟨x.s.toArray⟩, .slice a4 x.keys.length c4, .slice b4 x.l.length d4] 25) := ⟨_, rfl⟩
        have A7 : Hid (Below w7.heap.size w7 W7) := hidI (by rw [hW7]; exact bel_alloc _ _)
        have X7 : Hid (BoxIs W7 w7.heap.size (.int .i64 x.kind) (.int .i64 x.n) (.string ⟨x.s.toArray⟩) (.slice a4 x.keys.length c4) (.slice b4 x.l.length d4)) := hidI (by rw [hW7]; exact heap_alloc_new _ _)
        rw [← hW7]
        clear hW7 v0 v1 v2 v3 v4 hcell
        have BW8 := hidI (bel_trans (bel_trans BW7.out B7.out) A7.out)
        have G2 := get_is W7 _ res _ p (RI4.out.bel BW8.out) HLEN.out (GM4.out.bel BW8.out)
        rw [HY.out] at G2
        have G2C : Hid (Calls Tryz.prog 14 #[.agg #[.int .i64 res.kind, .int .i64 res.n, .string ⟨res.s.toArray⟩, .slice a3 res.keys.length c3, .slice b3 res.l.length d3], .string ⟨p.toArray⟩] W7 fun e w' => ∃ r, e = .returned (.tuple #[r, .int .i64 0]) ∧ Below W7.heap.size W7 w' ∧ In w' (okN ok W2.heap.size) y r) := hidI G2
        clear G2
        obtain ⟨v0, v1, v2, v3, v4, -⟩ := (box_bel BW8.out RB4.out).c
        go_upto_region 11 with (go_at_call 14; refine G2C.out.mono ?_; rintro e w9 ⟨r, rfl, hb, hy⟩; obtain ⟨a5, b5, c5, d5, rfl⟩ := hy.form; have B9 := hidI hb; have YI := hidI hy; clear hb hy)
        obtain ⟨W9, hW9⟩ : ∃ W, W = w9.alloc (.cells #[.int .i64 y.kind, .int .i64 y.n, .string ⟨y.s.toArray⟩, .slice a5 y.keys.length c5, .slice b5 y.l.length d5] 25) := ⟨_, rfl⟩
        have A9 : Hid (Below w9.heap.size w9 W9) := hidI (by rw [hW9]; exact bel_alloc _ _)
        have X9 : Hid (BoxIs W9 w9.heap.size (.int .i64 y.kind) (.int .i64 y.n) (.string ⟨y.s.toArray⟩) (.slice a5 y.keys.length c5) (.slice b5 y.l.length d5)) := hidI (by rw [hW9]; exact heap_alloc_new _ _)
        rw [← hW9]
        clear hW9 v0 v1 v2 v3 v4
        have BE := hidI (bel_trans (bel_trans (bel_trans (bel_trans BL.out B7.out) A7.out) B9.out) A9.out)
        obtain ⟨x0, x1, x2, x3, x4, -⟩ := (box_bel (bel_trans B9.out A9.out) X7.out).c
        obtain ⟨y0, y1, y2, y3, y4, -⟩ := X9.out.c
        have XI9 := hidI (((XI.out.bel A7.out).bel B9.out).bel A9.out)
        have YI9 := hidI (YI.out.bel A9.out)
        by_cases hxy : x = y
        · subst hxy
          have SM := hidI (same_is W9 _ _ x _ _ XI9.out YI9.out)
          go_wp2_with (go_at_call 8; refine SM.out.mono ?_; rintro e w10 ⟨rfl, hb⟩; have BX := hidI (bel_trans BE.out hb); clear x0 x1 x2 x3 x4 y0 y1 y2 y3 y4; obtain ⟨x0, -⟩ := (box_bel (bel_trans (bel_trans B9.out A9.out) hb) X7.out).c; obtain ⟨y0, -⟩ := (box_bel hb X9.out).c; clear hb)
          go_roundg (L.length - (k + 1))
          case measure => rw [GK.out]; omega
          case rel => exact ⟨k + 1, hlt, rfl, by go_num, BX⟩
        · obtain ⟨k1, k2⟩ : x.kind = 5 ∧ y.kind = 5 := HXY.out.resolve_left hxy
          have e5 : (x.kind == 5) = true := by simp [k1]
          have e6 : (y.kind == 5) = true := by simp [k2]
          obtain ⟨bb, hbb⟩ := same_some W9 _ _ x y _ _ XI9.out YI9.out
          have SM := hidI hbb
          clear hbb hxy k1 k2
          cases bb
          · go_wp2_with (go_at_call 8; refine SM.out.mono ?_; rintro e w10 ⟨rfl, hb⟩; have BX := hidI (bel_trans BE.out hb); clear x0 x1 x2 x3 x4 y0 y1 y2 y3 y4; obtain ⟨x0, -⟩ := (box_bel (bel_trans (bel_trans B9.out A9.out) hb) X7.out).c; obtain ⟨y0, -⟩ := (box_bel hb X9.out).c; clear hb)
            go_roundg (L.length - (k + 1))
            case measure => rw [GK.out]; omega
            case rel => exact ⟨k + 1, hlt, rfl, by go_num, BX⟩
          · go_wp2_with (go_at_call 8; refine SM.out.mono ?_; rintro e w10 ⟨rfl, hb⟩; have BX := hidI (bel_trans BE.out hb); clear x0 x1 x2 x3 x4 y0 y1 y2 y3 y4; obtain ⟨x0, -⟩ := (box_bel (bel_trans (bel_trans B9.out A9.out) hb) X7.out).c; obtain ⟨y0, -⟩ := (box_bel hb X9.out).c; clear hb)
            go_roundg (L.length - (k + 1))
            case measure => rw [GK.out]; omega
            case rel => exact ⟨k + 1, hlt, rfl, by go_num, BX⟩
      · have d9 : ¬ (k : Int) < (L.length : Int) := by omega
        have Y7 := hidI (bel_trans Y6.out BL.out)
        obtain ⟨v0, v1, v2, v3, v4, -⟩ := (box_bel BW7.out WB4.out).c
        obtain ⟨x0, x1, x2, x3, x4, -⟩ := (box_bel BW7.out RB4.out).c
        have AP := apply_at wr (fun _ => True) res want m who false _ _ _ ((RI4.out.bel BW7.out).weak fun _ _ => trivial) ((MI4.out.bel BW7.out).weak fun _ _ => trivial) ((WI4.out.bel BW7.out).weak fun _ _ => trivial) (GM4.out.bel BW7.out) SZ.out.1 SZ.out.2.1 hwho
        rw [AGAIN.out] at AP
        have AP2 : Hid (Calls Tryz.prog 6 #[.agg #[.int .i64 res.kind, .int .i64 res.n, .string ⟨res.s.toArray⟩, .slice a3 res.keys.length c3, .slice b3 res.l.length d3], .slice ma m.length mc, .string ⟨who.toArray⟩, .agg #[.int .i64 want.kind, .int .i64 want.n, .string ⟨want.s.toArray⟩, .slice a2 want.keys.length c2, .slice b2 want.l.length d2], .bool false] wr fun e w' => ∃ (a6 b6 : Option Addr) (c6 d6 : Nat) (na : Option Addr) (nc : Nat) (rc6 : Value), e = .returned (.tuple #[.agg #[.int .i64 res.kind, .int .i64 res.n, .string ⟨res.s.toArray⟩, .slice a6 res.keys.length c6, .slice b6 res.l.length d6], .slice na m.length nc, rc6, .int .i64 0]) ∧ In w' (fun _ => True) res (.agg #[.int .i64 res.kind, .int .i64 res.n, .string ⟨res.s.toArray⟩, .slice a6 res.keys.length c6, .slice b6 res.l.length d6]) ∧ OwnsAre w' (fun _ => True) m (.slice na m.length nc) ∧ Below wr.heap.size wr w') := hidI (AP.mono fun e w' h => by
          obtain ⟨r, ro, rc6, rfl, h1, h2, -, hb⟩ := h
          obtain ⟨a6, b6, c6, d6, rfl⟩ := h1.form
          obtain ⟨na, nc, rfl⟩ := h2.form
          exact ⟨a6, b6, c6, d6, na, nc, rc6, rfl, h1.weak fun _ _ => trivial, h2.weak fun _ _ => trivial, hb⟩)
        clear AP
        go_upto_region 15 with (go_at_call 6; refine AP2.out.mono ?_; rintro e w7 ⟨a6, b6, c6, d6, na, nc, rc6, rfl, h1, h2, hb⟩; have B7 := hidI hb; have I7 := hidI h1; have N7 := hidI h2; clear h1 h2 hb)
        obtain ⟨W8, hW8⟩ : ∃ W, W = w7.alloc (.cells #[.int .i64 res.kind, .int .i64 res.n, .string ⟨res.s.toArray⟩, .slice a6 res.keys.length c6, .slice b6 res.l.length d6] 25) := ⟨_, rfl⟩
        have A8 : Hid (Below w7.heap.size w7 W8) := hidI (by rw [hW8]; exact bel_alloc _ _)
        have X8 : Hid (BoxIs W8 w7.heap.size (.int .i64 res.kind) (.int .i64 res.n) (.string ⟨res.s.toArray⟩) (.slice a6 res.keys.length c6) (.slice b6 res.l.length d6)) := hidI (by rw [hW8]; exact heap_alloc_new _ _)
        rw [← hW8]
        clear hW8 v0 v1 v2 v3 v4 x0 x1 x2 x3 x4
        have BW8 := hidI (bel_trans (bel_trans BW7.out B7.out) A8.out)
        obtain ⟨v0, v1, v2, v3, v4, -⟩ := (box_bel BW8.out RB4.out).c
        obtain ⟨x0, x1, x2, x3, x4, -⟩ := X8.out.c
        have SM8 := hidI (same_is W8 _ _ res _ _ (I7.out.bel A8.out) (RI4.out.bel BW8.out))
        go_upto_region 17 with (go_at_call 8; refine SM8.out.mono ?_; rintro e w9 ⟨rfl, hb⟩; have B9 := hidI hb; clear hb)
        have Y9 := hidI (bel_trans (bel_trans (bel_trans Y7.out B7.out) A8.out) B9.out)
        have NI9 := hidI ((N7.out.bel A8.out).bel B9.out)
        have MI9 := hidI ((MI4.out.bel BW8.out).bel B9.out)
        clear v0 v1 v2 v3 v4 x0 x1 x2 x3 x4
        have lm := MI9.out.1
        unfold maxLen at lm
        go_wp2_with fail
        go_loopg [152] m.length (fun gk i wr => ∃ j : Nat, j ≤ m.length ∧ gk = m.length - j ∧ i = .int .i64 j ∧ Hid (Below w9.heap.size w9 wr))
        case atStart => exact ⟨0, Nat.zero_le _, rfl, rfl, Below.refl _ _⟩
        case round =>
          obtain ⟨j, hj, hgj, rfl, BJ⟩ := hrel
          have GJ := hidI hgj
          clear hgj
          by_cases hjt : j < m.length
          · obtain ⟨nb, no, np, npc, rfl, hc1, hc2, hn0, hp0, hst0, hnl⟩ := (NI9.out.bel BJ.out).at hjt
            obtain ⟨mb, mo, mp, mpc, rfl, hd1, hd2, hn1, hp1, hst1, -⟩ := (MI9.out.bel BJ.out).at hjt
            have j2 : (j : Int) < (m.length : Int) := by omega
            have j3 : (0 : Int) ≤ (j : Int) := by omega
            obtain ⟨nm, hnm⟩ : ∃ nm, m[j].name = nm := ⟨_, rfl⟩
            obtain ⟨ps, hps⟩ : ∃ ps, m[j].paths = ps := ⟨_, rfl⟩
            rw [hnm] at hn0 hn1 hnl
            rw [hps] at hp0 hp1 hst0 hst1
            have NN := hidI hn0
            have NP := hidI hp0
            have MN := hidI hn1
            have MP := hidI hp1
            have NS := hidI hst0
            have MS := hidI hst1
            have e9 : (nm == nm) = true := by simp
            have e8 : (nm != nm) = false := by simp
            clear hn0 hn1 hp0 hp1 hst0 hst1 hnm hps
            go_upto_region 20 with fail
            refine wp_region_T (fun wS => Below wr.heap.size wr wS) [] (by kernel_rfl) (bel_drewN _ 1) (fun hHeld => ?_)
            refine wpAnyT_take (i := 0) (v := ?_) [] (oi := _) rfl (by kernel_rfl) (by kernel_rfl) (by kernel_rfl) (by kernel_rfl) (fun _ _ _ h => h) (Or.inl ⟨by rfl, ?_⟩) hHeld ?_
            rotate_left
            · intro wS hSw
              go_simp
              all_goals with_reducible rfl
            simp only [Act.put, List.setIfInBounds_toArray, List.set_cons_zero, List.set_cons_succ]
            refine wpAnyT_take (i := 1) (v := ?_) [] (oi := _) rfl (by kernel_rfl) (by kernel_rfl) (by kernel_rfl) (by kernel_rfl) (fun _ _ _ h => h) (Or.inl ⟨by rfl, ?_⟩) hHeld ?_
            rotate_left
            · intro wS hSw
              go_simp
              all_goals with_reducible rfl
            simp only [Act.put, List.setIfInBounds_toArray, List.set_cons_zero, List.set_cons_succ]
            refine wpAnyT_take (i := 2) (v := ?_) [] (oi := _) rfl (by kernel_rfl) (by kernel_rfl) (by kernel_rfl) (by kernel_rfl) (fun _ _ _ h => h) (Or.inl ⟨by rfl, ?_⟩) hHeld ?_
            rotate_left
            · intro wS hSw
              go_simp
              all_goals with_reducible rfl
            simp only [Act.put, List.setIfInBounds_toArray, List.set_cons_zero, List.set_cons_succ]
            refine wpAnyT_take (i := 3) (v := ?_) [] (oi := _) rfl (by kernel_rfl) (by kernel_rfl) (by kernel_rfl) (by kernel_rfl) (fun _ _ _ h => h) (Or.inl ⟨by rfl, ?_⟩) hHeld ?_
            rotate_left
            · intro wS hSw
              go_simp
              all_goals with_reducible rfl
            simp only [Act.put, List.setIfInBounds_toArray, List.set_cons_zero, List.set_cons_succ]
            refine wpAnyT_take (i := 4) (v := ?_) [] (oi := _) rfl (by kernel_rfl) (by kernel_rfl) (by kernel_rfl) (by kernel_rfl) (fun _ _ _ h => h) (Or.inl ⟨by rfl, ?_⟩) hHeld ?_
            rotate_left
            · intro wS hSw
              have u0 := cell_bel hSw NN.out
              have u1 := cell_bel hSw NP.out
              have u2 := cell_bel hSw MN.out
              have u3 := cell_bel hSw MP.out
              go_simp
              all_goals with_reducible rfl
            simp only [Act.put, List.setIfInBounds_toArray, List.set_cons_zero, List.set_cons_succ]
            refine wpAnyT_take (i := 5) (v := ?_) [] (oi := _) rfl (by kernel_rfl) (by kernel_rfl) (by kernel_rfl) (by kernel_rfl) (fun _ _ _ h => h) (Or.inl ⟨by rfl, ?_⟩) hHeld ?_
            rotate_left
            · intro wS hSw
              go_simp
              all_goals with_reducible rfl
            simp only [Act.put, List.setIfInBounds_toArray, List.set_cons_zero, List.set_cons_succ]
            refine wpAnyT_take (i := 6) (v := ?_) [] (oi := _) rfl (by kernel_rfl) (by kernel_rfl) (by kernel_rfl) (by kernel_rfl) (fun _ _ _ h => h) (Or.inl ⟨by rfl, ?_⟩) hHeld ?_
            rotate_left
            · intro wS hSw
              go_simp
              all_goals with_reducible rfl
            simp only [Act.put, List.setIfInBounds_toArray, List.set_cons_zero, List.set_cons_succ]
            refine wpAnyT_take (i := 7) (v := ?_) [] (oi := _) rfl (by kernel_rfl) (by kernel_rfl) (by kernel_rfl) (by kernel_rfl) (fun _ _ _ h => h) (Or.inl ⟨by rfl, ?_⟩) hHeld ?_
            rotate_left
            · intro wS hSw
              go_simp
              all_goals with_reducible rfl
            simp only [Act.put, List.setIfInBounds_toArray, List.set_cons_zero, List.set_cons_succ]
            refine wpAnyT_take (i := 8) (v := ?_) [] (oi := _) rfl (by kernel_rfl) (by kernel_rfl) (by kernel_rfl) (by kernel_rfl) (fun _ _ _ h => h) (Or.inl ⟨by rfl, ?_⟩) hHeld ?_
            rotate_left
            · intro wS hSw
              go_simp
              all_goals with_reducible rfl
            simp only [Act.put, List.setIfInBounds_toArray, List.set_cons_zero, List.set_cons_succ]
            refine wpAnyT_take (i := 9) (v := ?_) [] (oi := _) rfl (by kernel_rfl) (by kernel_rfl) (by kernel_rfl) (by kernel_rfl) (fun _ _ _ h => h) (Or.inl ⟨by rfl, ?_⟩) hHeld ?_
            rotate_left
            · intro wS hSw
              have u0 := cell_bel hSw NN.out
              have u1 := cell_bel hSw NP.out
              have u2 := cell_bel hSw MN.out
              have u3 := cell_bel hSw MP.out
              go_simp
              all_goals with_reducible rfl
            simp only [Act.put, List.setIfInBounds_toArray, List.set_cons_zero, List.set_cons_succ]
            refine wpAnyT_take (i := 10) (v := ?_) [] (oi := _) rfl (by kernel_rfl) (by kernel_rfl) (by kernel_rfl) (by kernel_rfl) (fun _ _ _ h => h) (Or.inl ⟨by rfl, ?_⟩) hHeld ?_
            rotate_left
            · intro wS hSw
              go_simp
              all_goals with_reducible rfl
            simp only [Act.put, List.setIfInBounds_toArray, List.set_cons_zero, List.set_cons_succ]
            refine wpAnyT_take (i := 11) (v := ?_) [] (oi := _) rfl (by kernel_rfl) (by kernel_rfl) (by kernel_rfl) (by kernel_rfl) (fun _ _ _ h => h) (Or.inl ⟨by rfl, ?_⟩) hHeld ?_
            rotate_left
            · intro wS hSw
              go_simp
              all_goals with_reducible rfl
            simp only [Act.put, List.setIfInBounds_toArray, List.set_cons_zero, List.set_cons_succ]
            refine wpAnyT_take (i := 12) (v := ?_) [] (oi := _) rfl (by kernel_rfl) (by kernel_rfl) (by kernel_rfl) (by kernel_rfl) (fun _ _ _ h => h) (Or.inl ⟨by rfl, ?_⟩) hHeld ?_
            rotate_left
            · intro wS hSw
              go_simp
              all_goals with_reducible rfl
            simp only [Act.put, List.setIfInBounds_toArray, List.set_cons_zero, List.set_cons_succ]
            refine wpAnyT_take (i := 13) (v := ?_) [] (oi := _) rfl (by kernel_rfl) (by kernel_rfl) (by kernel_rfl) (by kernel_rfl) (fun _ _ _ h => h) (Or.inl ⟨by rfl, ?_⟩) hHeld ?_
            rotate_left
            · intro wS hSw
              go_simp
              all_goals with_reducible rfl
            simp only [Act.put, List.setIfInBounds_toArray, List.set_cons_zero, List.set_cons_succ]
            refine wpAnyT_take (i := 14) (v := ?_) [] (oi := _) rfl (by kernel_rfl) (by kernel_rfl) (by kernel_rfl) (by kernel_rfl) (fun _ _ _ h => h) (Or.inl ⟨by rfl, ?_⟩) hHeld ?_
            rotate_left
            · intro wS hSw
              go_simp
              all_goals with_reducible rfl
            simp only [Act.put, List.setIfInBounds_toArray, List.set_cons_zero, List.set_cons_succ]
            refine wpAnyT_take (i := 15) (v := ?_) [] (oi := _) rfl (by kernel_rfl) (by kernel_rfl) (by kernel_rfl) (by kernel_rfl) (fun _ _ _ h => h) (Or.inl ⟨by rfl, ?_⟩) hHeld ?_
            rotate_left
            · intro wS hSw
              go_simp
              all_goals with_reducible rfl
            simp only [Act.put, List.setIfInBounds_toArray, List.set_cons_zero, List.set_cons_succ]
            refine wpAnyT_take (i := 16) (v := ?_) [] (oi := _) rfl (by kernel_rfl) (by kernel_rfl) (by kernel_rfl) (by kernel_rfl) (fun _ _ _ h => h) (Or.inl ⟨by rfl, ?_⟩) hHeld ?_
            rotate_left
            · intro wS hSw
              have u0 := cell_bel hSw NN.out
              have u1 := cell_bel hSw NP.out
              have u2 := cell_bel hSw MN.out
              have u3 := cell_bel hSw MP.out
              go_simp
              all_goals with_reducible rfl
            simp only [Act.put, List.setIfInBounds_toArray, List.set_cons_zero, List.set_cons_succ]
            refine wpAnyT_take (i := 17) (v := ?_) [] (oi := _) rfl (by kernel_rfl) (by kernel_rfl) (by kernel_rfl) (by kernel_rfl) (fun _ _ _ h => h) (Or.inl ⟨by rfl, ?_⟩) hHeld ?_
            rotate_left
            · intro wS hSw
              go_simp
              all_goals with_reducible rfl
            simp only [Act.put, List.setIfInBounds_toArray, List.set_cons_zero, List.set_cons_succ]
            refine wpAnyT_take (i := 18) (v := ?_) [] (oi := _) rfl (by kernel_rfl) (by kernel_rfl) (by kernel_rfl) (by kernel_rfl) (fun _ _ _ h => h) (Or.inl ⟨by rfl, ?_⟩) hHeld ?_
            rotate_left
            · intro wS hSw
              go_simp
              all_goals with_reducible rfl
            simp only [Act.put, List.setIfInBounds_toArray, List.set_cons_zero, List.set_cons_succ]
            refine wpAnyT_take (i := 19) (v := ?_) [] (oi := _) rfl (by kernel_rfl) (by kernel_rfl) (by kernel_rfl) (by kernel_rfl) (fun _ _ _ h => h) (Or.inl ⟨by rfl, ?_⟩) hHeld ?_
            rotate_left
            · intro wS hSw
              go_simp
              all_goals with_reducible rfl
            simp only [Act.put, List.setIfInBounds_toArray, List.set_cons_zero, List.set_cons_succ]
            refine wpAnyT_take (i := 20) (v := ?_) [] (oi := _) rfl (by kernel_rfl) (by kernel_rfl) (by kernel_rfl) (by kernel_rfl) (fun _ _ _ h => h) (Or.inl ⟨by rfl, ?_⟩) hHeld ?_
            rotate_left
            · intro wS hSw
              go_simp
              all_goals with_reducible rfl
            simp only [Act.put, List.setIfInBounds_toArray, List.set_cons_zero, List.set_cons_succ]
            refine wpAnyT_take (i := 21) (v := ?_) [] (oi := _) rfl (by kernel_rfl) (by kernel_rfl) (by kernel_rfl) (by kernel_rfl) (fun _ _ _ h => h) (Or.inl ⟨by rfl, ?_⟩) hHeld ?_
            rotate_left
            · intro wS hSw
              have u0 := cell_bel hSw NN.out
              have u1 := cell_bel hSw NP.out
              have u2 := cell_bel hSw MN.out
              have u3 := cell_bel hSw MP.out
              go_simp
              all_goals with_reducible rfl
            simp only [Act.put, List.setIfInBounds_toArray, List.set_cons_zero, List.set_cons_succ]
            refine wpAnyT_ready (rs := [22]) (by kernel_rfl) (by simp) ?_
            refine AllReadyT.cons (i := 22) (o := _) rfl (fun K hK => ?_) ?_
            · go_simp
              refine (sameTexts_yes _ _ _ ps _ _ (by exact NS.out.bel hHeld) (by exact MS.out.bel hHeld)).mono ?_
              rintro e w22q ⟨rfl, hb5⟩
              refine hK.out _ _ (bel_trans hHeld hb5) (fun hHeld2 => ?_)
              have B9 := hidI hHeld2
              clear hb5
              clear hK K
              replace hHeld := hHeld2
              clear hHeld2
              try simp only [Act.put, List.setIfInBounds_toArray, List.set_cons_zero, List.set_cons_succ]
              refine wpAnyT_take (i := 23) (v := ?_) [] (oi := _) rfl (by kernel_rfl) (by kernel_rfl) (by kernel_rfl) (by kernel_rfl) (fun _ _ _ h => h) (Or.inl ⟨by rfl, ?_⟩) hHeld ?_
              rotate_left
              · intro wS hSw
                go_simp
                all_goals with_reducible rfl
              simp only [Act.put, List.setIfInBounds_toArray, List.set_cons_zero, List.set_cons_succ]
              refine wpAnyT_take (i := 24) (v := ?_) [] (oi := _) rfl (by kernel_rfl) (by kernel_rfl) (by kernel_rfl) (by kernel_rfl) (fun _ _ _ h => h) (Or.inl ⟨by rfl, ?_⟩) hHeld ?_
              rotate_left
              · intro wS hSw
                go_simp
                all_goals with_reducible rfl
              simp only [Act.put, List.setIfInBounds_toArray, List.set_cons_zero, List.set_cons_succ]
              refine wpAnyT_done (by kernel_rfl) ?_ _
              go_wp2_with fail
              go_roundg (m.length - (j + 1))
              case measure => rw [GJ.out]; omega
              case rel => exact ⟨j + 1, hjt, rfl, by go_num, hidI (bel_trans BJ.out B9.out)⟩
            exact AllReadyT.nil
          · have d9 : ¬ (j : Int) < (m.length : Int) := by omega
            go_wp2_with fail
            go_ret
            exact ⟨rfl, bel_trans Y9.out BJ.out⟩
end Go.Proofs.YtmdemcjmcnfjmaaGreatDoor

/- OwnerHas as its row asks for it. -/
set_option linter.unusedSimpArgs false
set_option linter.unusedVariables false
namespace Go.Proofs.YtmdemcjmcnfjmaaGreatDoor
open Go.RowKit

theorem ownerHas_walk (w : World) (ok0 : Nat → Prop) (d0 : Nat) (t0 : V) (v0 : Value) (h0 : VIs w ok0 d0 t0 v0) (_ : siz t0 ≤ 2000000) (ok1 : Nat → Prop) (l1 : List Own) (v1 : Value) (h1 : OwnsAre w ok1 l1 v1) (hN : (allOf l1).length ≤ 2000000) (hP : ∀ o ∈ l1, ∀ x ∈ o.paths, x.length ≤ 140737488351232)
    (who : List UInt8) (hwho : who.length ≤ 140737488351232) (ok3 : Nat → Prop) (d3 : Nat) (t3 : V) (v3 : Value) (h3 : VIs w ok3 d3 t3 v3) (_ : siz t3 ≤ 2000000) (force : Bool) (hG : Glob w) (hM : GlobM w) :
    Calls Tryz.prog 3 #[v0, v1, str who, v3, .bool force] w fun e w' => e = .returned (.bool true) ∧ Below w.heap.size w w' :=
  has_at w (fun _ => True) t0 t3 l1 who force v0 v1 v3 (h0.is.weak fun _ _ => trivial) (h1.weak fun _ _ => trivial) (h3.is.weak fun _ _ => trivial) hG hM hN hP (by omega)
end Go.Proofs.YtmdemcjmcnfjmaaGreatDoor

set_option linter.unusedSimpArgs false
set_option linter.unusedVariables false
namespace Go.Proofs.YtmdemcjmcnfjmaaGreatDoor.ownerHas
open Go.ChangeShapes Go.WideShapes Go.ChangeAt Go.RowKit
open Go.ChangeMaps (open_string shut_string)

set_option maxRecDepth 100000 in
theorem contract (H : Type) (enc : TypeId × Value → H) (W : World) (base : Nat) (args : Array Value) (ds gs : List (DataW H)) (before : List MemPlace)
    (hval : ∀ (j : Nat) t v, Tryz.f3.params[j]? = some t → args[j]? = some v → Value.okWide Tryz.prog W .any base t v)
    (hW : DataW.Whole enc Tryz.prog Tryz.f3.params.toList Rows.ownerHasSpec.vars false W args.toList ds gs before)
    (hk : Rows.uptoSmall H (ds ++ gs) = true) (hZ : (DataW.weightsEach Tryz.prog (Tryz.f3.params.toList ++ (OpenSpec.ofChange Rows.ownerHasSpec).bare.plain.varTypes Tryz.prog) (ds ++ gs)).all (· ≤ reachBytes) = true) (hL : laidMet Tryz.prog laidOw W) (hS : W.ShapedOpen Tryz.prog) :
    Calls Tryz.prog 3 args W fun e W' => ∃ v, e = .returned v ∧ Rows.ownerHasSpec.post enc Tryz.prog Tryz.f3 false true false false W args v W' := by
  have hW' := hW
  obtain ⟨p, q, hA0, hV, rfl, hfz, hnd⟩ := hW
  have hA : DataW.TrodAll enc Tryz.prog W 0 (fun _ => true) true Tryz.f3.params.toList args.toList ds p := hA0
  rw [Tryz.params3] at hA hval
  obtain ⟨v0, vs0, d0, ds0, p0, q0, hargs0, rfl, rfl, h0, r0⟩ := trodAll_cons hA
  obtain ⟨v1, vs1, d1, ds1, p1, q1, hargs1, rfl, rfl, h1, r1⟩ := trodAll_cons r0
  obtain ⟨v2, vs2, d2, ds2, p2, q2, hargs2, rfl, rfl, h2, r2⟩ := trodAll_cons r1
  obtain ⟨v3, vs3, d3, ds3, p3, q3, hargs3, rfl, rfl, h3, r3⟩ := trodAll_cons r2
  obtain ⟨v4, vs4, d4, ds4, p4, q4, hargs4, rfl, rfl, h4, r4⟩ := trodAll_cons r3
  obtain ⟨rfl, rfl, rfl⟩ := trodAll_nil r4
  subst hargs1
  subst hargs2
  subst hargs3
  subst hargs4
  have hargs : args = #[v0, v1, v2, v3, v4] := by
    obtain ⟨l⟩ := args
    exact congrArg Array.mk hargs0
  subst hargs
  obtain ⟨rfl, rfl⟩ := trodVars_none hV
  have k0 : Value.okWide Tryz.prog W .any base 25 v0 := hval 0 _ _ (by simp) (by simp)
  have k1 : Value.okWide Tryz.prog W .any base 26 v1 := hval 1 _ _ (by simp) (by simp)
  have k2 : Value.okWide Tryz.prog W .any base 9 v2 := hval 2 _ _ (by simp) (by simp)
  have k3 : Value.okWide Tryz.prog W .any base 25 v3 := hval 3 _ _ (by simp) (by simp)
  have k4 : Value.okWide Tryz.prog W .any base 4 v4 := hval 4 _ _ (by simp) (by simp)
  obtain ⟨f0, t0, hv0, hz0⟩ := arg_bulk k0 h0
  obtain ⟨os1, hv1, hz1⟩ := arg_owns k1 h1
  obtain ⟨s2, rfl, rfl, rfl, ws2⟩ := open_string Tryz.underlying9 k2 h2
  obtain ⟨f3, t3, hv3, hz3⟩ := arg_bulk k3 h3
  obtain ⟨n4, rfl, rfl, rfl⟩ := open_bool Tryz.underlying4 k4 h4
  clear hA0
  simp only [List.append_nil] at hW'
  have hb := bulk_bound hk
  simp only [List.append_nil, Rows.uptoBulkAll] at hb
  have b0 : siz t0 ≤ 2000000 := by omega
  have b3 : siz t3 ≤ 2000000 := by omega
  have l2 : s2.data.toList.length ≤ 140737488351232 := sized_string (j := 2) hZ (by rw [Tryz.params3]; rfl) rfl
  have e2 : Value.string s2 = str s2.data.toList := by unfold str; cases s2; simp
  have y1 : (allOf os1).length ≤ 2000000 := by have := allOf_sum os1; omega
  have z1 : ∀ o ∈ os1, ∀ x ∈ o.paths, x.length ≤ 140737488351232 := fun o ho x hx => by have := path_sum ho hx; omega
  have walk := ownerHas_walk W (fun _ => True) f0 t0 v0 hv0 b0 (fun _ => True) os1 v1 hv1 y1 z1 s2.data.toList l2 (fun _ => True) f3 t3 v3 hv3 b3 n4 (glob_ow hL) (glob_pt hS)
  rw [← e2] at walk
  refine walk.mono fun e W' ⟨he, hg⟩ => ?_
  subst he
  have ef : Rows.ownerHasSpec.fn H ([d0, d1, .lit (.string s2.data.toList), d3, .lit (.bool n4)] ++ []) = { results := [.lit (.bool true)], args := [d0, d1, .lit (.string s2.data.toList), d3, .lit (.bool n4)] } := rfl
  refine ⟨_, rfl, _, _, _, [], (p0 ++ (p1 ++ ([] ++ (p3 ++ ([] ++ []))))), [], hW', ?_, ?_, ?_, hg.frame _, fun h => by cases h⟩
  · rw [ef]; exact trodAll_mk1 (shut_bool Tryz.underlying4 _)
  · rw [ef, Tryz.params3]; exact trodAll_cons_mk (Below.trod laidOut readableV rowedV h0 hg (trod_old h0)) (trodAll_cons_mk (Below.trod laidOut readableW rowedW h1 hg (trod_old h1)) (trodAll_cons_mk (shut_string Tryz.underlying9 ws2) (trodAll_cons_mk (Below.trod laidOut readableV rowedV h3 hg (trod_old h3)) (trodAll_cons_mk (shut_bool Tryz.underlying4 n4) (trodAll_mk0)))))
  · rw [ef]; rfl

set_option maxRecDepth 100000 in
theorem reads (os : Os) {H : Type} (enc : TypeId × Value → H) : ∃ places, DataW.whole enc Tryz.prog ((owWorld os).forCall (fun _ _ => 0) ⟨#[], #[.agg #[.int .i64 0, .int .i64 0, .string ⟨#[]⟩, .slice none 0 0, .slice none 0 0], .slice none 0 0, .string ⟨#[]⟩, .agg #[.int .i64 0, .int .i64 0, .string ⟨#[]⟩, .slice none 0 0, .slice none 0 0], .bool false], []⟩).memory Tryz.f3.params.toList Rows.ownerHasSpec.vars false #[Value.agg #[.int .i64 0, .int .i64 0, .string ⟨#[]⟩, .slice none 0 0, .slice none 0 0], Value.slice none 0 0, Value.string ⟨#[]⟩, Value.agg #[.int .i64 0, .int .i64 0, .string ⟨#[]⟩, .slice none 0 0, .slice none 0 0], Value.bool false].toList 8 = some ([.agg [.lit (.int .i64 0), .lit (.int .i64 0), .lit (.string []), .nil, .nil], .nil, .lit (.string []), .agg [.lit (.int .i64 0), .lit (.int .i64 0), .lit (.string []), .nil, .nil], .lit (.bool false)], [], places) :=
  ⟨[], by kernel_rfl⟩

set_option maxRecDepth 100000 in
theorem lifted (os : Os) (started : os.Started) (H : Type) (enc : TypeId × Value → H) (F : Stop.Interp) :
    ReturnsInHanded {} Tryz.checked os 3 .any ((Rows.OpenSpec.upto Rows.ownerHasSpec).preRow enc Tryz.prog Tryz.f3 Rows.ownerHasUptoRow.domain false Rows.ownerHasUptoRow.laid) (((Rows.OpenSpec.upto Rows.ownerHasSpec).at F).post enc Tryz.prog Tryz.f3 false true false false) := by
  obtain ⟨places, hx⟩ := reads os enc
  refine returnsInHanded_of_row (C := Tryz.checked) (s := Rows.OpenSpec.upto Rows.ownerHasSpec) own started (by kernel_rfl) Tryz.func3
    (witness_row_at (enc := enc) (C := Tryz.checked) false (owWorld os) #[.agg #[.int .i64 0, .int .i64 0, .string ⟨#[]⟩, .slice none 0 0, .slice none 0 0], .slice none 0 0, .string ⟨#[]⟩, .agg #[.int .i64 0, .int .i64 0, .string ⟨#[]⟩, .slice none 0 0, .slice none 0 0], .bool false] rfl (by kernel_rfl) (by kernel_rfl) (by kernel_rfl)
      (OpenSpec.preRow_of_cond 8 hx (by kernel_rfl) (fun k hk => by cases hk; kernel_rfl) (by kernel_rfl) (ow_met os _))) ?_
  intro W base args ds gs before hval hW _ hc hZ hL hS _
  exact contract H enc W base args ds gs before hval hW (hc _ rfl) hZ hL hS

theorem said : Rows.OwnerHasUptoSaid :=
  OpenClaim.holds_of_cond 3 Tryz.f3 rfl rfl rfl rfl rfl rfl rfl ⟨rfl, rfl, rfl, rfl, rfl⟩ rfl rfl rfl rfl rfl (by kernel_rfl) Tryz.func3 (by kernel_rfl)
    (of_decide_eq_true (by kernel_rfl)) (by unfold Func.isWrapper; first | (rw [if_pos (by decide +kernel)]; kernel_rfl) | (rw [if_neg (by decide +kernel)]; exact ⟨rfl, rfl⟩))
    (fun os started H enc _ F => by rw [OpenClaim.pre_eq_preRow]; exact lifted os started H enc F)

theorem plain (f : FuncId) (fn : Func) (hf : Tryz.pinned.checked.prog.funcNamed "stairwell/stairwellkeep.OwnerHas" = some f) (hfn : Tryz.pinned.checked.prog.funcs[f]? = some fn) :
    true = Tryz.pinned.checked.prog.looks [] ∧ ∀ (j : Nat) t, fn.params[j]? = some t → Tryz.pinned.checked.prog.wantsStandIn t = false := by
  obtain rfl : f = 3 := Option.some.inj ((show Tryz.prog.funcNamed "stairwell/stairwellkeep.OwnerHas" = some 3 by kernel_rfl).symm.trans hf) |>.symm
  obtain rfl : fn = Tryz.f3 := (Option.some.inj (Tryz.func3.symm.trans hfn)).symm
  refine ⟨by kernel_rfl, fun j t ht => ?_⟩
  rw [Tryz.params3] at ht
  have hm := Array.mem_of_getElem? ht
  simp only [Array.mem_def, List.mem_cons, List.not_mem_nil, or_false] at hm
  rcases hm with rfl | rfl | rfl | rfl | rfl
  · exact (show Tryz.prog.wantsStandIn 25 = false by kernel_rfl)
  · exact (show Tryz.prog.wantsStandIn 26 = false by kernel_rfl)
  · exact (show Tryz.prog.wantsStandIn 9 = false by kernel_rfl)
  · exact (show Tryz.prog.wantsStandIn 25 = false by kernel_rfl)
  · exact (show Tryz.prog.wantsStandIn 4 = false by kernel_rfl)

theorem card : Rows.OwnerHasUptoCardSaid :=
  Claim7.holds_tied_plain_at .later [] _ _ _ _ said (fun _ h => by cases h) (by kernel_rfl) (fun _ h => by cases h) ownerHasUpto_row_tie rfl ⟨rfl, rfl⟩ (by kernel_rfl) rfl plain (by kernel_rfl)
end Go.Proofs.YtmdemcjmcnfjmaaGreatDoor.ownerHas
