/- What Parse of package json does. -/
import Derived.Test.YtfbddgpekbhpfacGreatDoorCf
import Derived.Test.YtfbddgpekbhpfacGreatDoorRk
import Derived.Test.YtfbddgpekbhpfacGreatDoorGc
set_option linter.unusedSimpArgs false
set_option linter.unusedVariables false
namespace Go.Proofs.YtfbddgpekbhpfacGreatDoor
open Go.RowKit

theorem value_st (f : Nat) : ValC f := value_all with_all f
def parseV (l : List UInt8) : Option V := (valS (l.length + 1) l).bind fun p => if p.2.dropWhile isSp = [] ∧ goodV p.1 = true then some p.1 else none
def parseS (l : List UInt8) : V × Int := if 2000 < l.length then (leafV 0 0 [], 2) else match parseV l with | some t => (t, 0) | none => (leafV 0 0 [], 1)

set_option maxRecDepth 100000 in
set_option maxHeartbeats 4000000 in
theorem parse_at (w : World) (l : List UInt8) (hl : l.length ≤ maxLen) (hG : Glob w) :
    Calls Tryz.prog 19 #[str l] w fun e w' => ∃ (t : V) (ee : Int) (a7 a8 : Option Addr) (c7 c8 : Nat), e = .returned (.tuple #[(.agg #[.int .i64 t.kind, .int .i64 t.n, .string ⟨t.s.toArray⟩, .slice a7 t.keys.length c7, .slice a8 t.l.length c8]), .int .i64 ee]) ∧ parseS l = (t, ee) ∧ VIs w' (fun k => w.heap.size ≤ k) 2003 t (.agg #[.int .i64 t.kind, .int .i64 t.n, .string ⟨t.s.toArray⟩, .slice a7 t.keys.length c7, .slice a8 t.l.length c8]) ∧ Below w.heap.size w w' := by
  unfold maxLen at hl
  unfold str
  have HG := hidI hG
  clear hG
  by_cases h2 : 2000 < l.length
  · have e0 : 2000 < (l.length : Int) := by omega
    have PS : Hid (parseS l = (leafV 0 0 [], 2)) := hidI (by simp [parseS, h2])
    go_enter Tryz.func19, Tryz.ntmps19
    go_wp2_with fail
    refine bodyPost_ret (v := .tuple #[leaf 0 0 [], .int .i64 2]) (by simp [results, Tryz.results19, go_sem, leaf, str]) rfl ?_
    exact ⟨leafV 0 0 [], 2, none, none, 0, 0, rfl, PS.out, leaf_is _ _ 2002 _ _ _ (by unfold I64; omega) (by unfold I64; omega) (by simp), bel_alloc _ _⟩
  · have e0 : ¬ (2000 < (l.length : Int)) := by omega
    have PS0 : Hid (parseS l = match parseV l with | some t => (t, 0) | none => (leafV 0 0 [], 1)) := hidI (by simp only [parseS, if_neg h2])
    go_enter Tryz.func19, Tryz.ntmps19
    go_wp2_with fail
    have hrd : Hid (RdSt ((w.alloc zcells).alloc (.cells #[.string ⟨l.toArray⟩, .int .i64 0, .bool false] 48)) (w.heap.size + 1) ⟨l.toArray⟩ (some l)) := ⟨0, ⟨h2b w _ _, Nat.zero_le _, by simp [ByteArray.size]; omega⟩, by simp⟩
    have hG2 : Hid (Glob ((w.alloc zcells).alloc (.cells #[.string ⟨l.toArray⟩, .int .i64 0, .bool false] 48))) := HG.out.grown (gb_alloc (gb_alloc (gb_refl w none) _) _) (by simp)
    have hsz : 4 ≤ w.heap.size + 1 := by have := HG.out.size; omega
    refine (value_st (l.length + 1) _ (w.heap.size + 1) ⟨l.toArray⟩ (some l) (by exact hrd.out) (by exact hG2.out) hsz (by simp)).mono ?_
    rintro e w3 ⟨t, st3, a7, a8, c7, c8, rfl, hv3, hst3, hr3, hg3⟩
    have K3 : Hid (VIs w3 (fun k => w.heap.size + 2 ≤ k) (l.length + 1) t (.agg #[.int .i64 t.kind, .int .i64 t.n, .string ⟨t.s.toArray⟩, .slice a7 t.keys.length c7, .slice a8 t.l.length c8]) ∧ (some l).bind (valS (l.length + 1)) = st3.map (fun l => (t, l)) ∧ RdSt w3 (w.heap.size + 1) ⟨l.toArray⟩ st3 ∧ BoxIs w3 w.heap.size (.int .i64 0) (.int .i64 0) (.string ⟨#[]⟩) (.slice none 0 0) (.slice none 0 0) ∧ w.grownBy w3 none) :=
      ⟨by simpa using hv3, hst3, hr3, BoxIs.grown (h2a w _ _) hg3 (by simp), gb_out (gb_alloc (gb_alloc (gb_refl w none) _) _) hg3 (by omega)⟩
    have hsz3 : w.heap.size + 1 < w3.heap.size := hr3.lt
    clear hv3 hst3 hr3 hg3
    go_wp2_with fail
    refine (spaces_st _ (w.heap.size + 1) ⟨l.toArray⟩ st3 (by exact K3.out.2.2.1.grown (World.grownBy_alloc w3 _ none) (by simp))).mono ?_
    rintro e w4 ⟨rfl, hr4, hg4⟩
    have K4 : Hid (RdSt w4 (w.heap.size + 1) ⟨l.toArray⟩ (st3.map (List.dropWhile isSp)) ∧ BoxIs w4 w.heap.size (.int .i64 0) (.int .i64 0) (.string ⟨#[]⟩) (.slice none 0 0) (.slice none 0 0) ∧ BoxIs w4 w3.heap.size (.int .i64 t.kind) (.int .i64 t.n) (.string ⟨t.s.toArray⟩) (.slice a7 t.keys.length c7) (.slice a8 t.l.length c8) ∧ VIs w4 (fun k => w.heap.size + 2 ≤ k) (l.length + 1) t (.agg #[.int .i64 t.kind, .int .i64 t.n, .string ⟨t.s.toArray⟩, .slice a7 t.keys.length c7, .slice a8 t.l.length c8]) ∧ w.grownBy w4 none) :=
      ⟨hr4, (K3.out.2.2.2.1.grown (World.grownBy_alloc w3 _ none) (by simp)).grown hg4 (by simp), BoxIs.grown (heap_alloc_new w3 _) hg4 (by simp; omega), (K3.out.1.grown (World.grownBy_alloc w3 _ none) (by simp)).grown hg4 (fun k hk e => by simp at e; omega), gb_out (gb_alloc K3.out.2.2.2.2 _) hg4 (by omega)⟩
    clear hr4 hg4
    have hval : valS (l.length + 1) l = st3.map (fun l => (t, l)) := K3.out.2.1
    match st3, K3, K4, hval with
    | none, K3, K4, hval =>
      have PS : Hid (parseS l = (leafV 0 0 [], 1)) := hidI (by
        have : parseV l = none := by unfold parseV; rw [hval]; rfl
        rw [PS0.out, this])
      obtain ⟨-, -, c2, -, -⟩ := (RdAt.nil K4.out.1).c
      have EN : Hid (BoxIs w4 w.heap.size (.int .i64 0) (.int .i64 0) (.string ⟨#[]⟩) (.slice none 0 0) (.slice none 0 0) ∧ w.grownBy w4 none) := ⟨K4.out.2.1, K4.out.2.2.2.2⟩
      clear hval
      obtain ⟨x0, x1, x2, x3, x4, y0, y1, y2, y3, y4⟩ := EN.out.1.c
      obtain ⟨z0, z1, z2, z3, z4, -⟩ := (EN.out.1.set (.int .i64 0) (.int .i64 0) (.string ⟨#[]⟩) (.slice none 0 0) (.slice none 0 0)).c
      have Z : Hid (_ ∧ _ ∧ _ ∧ _ ∧ _) := ⟨z0, z1, z2, z3, z4⟩
      clear z0 z1 z2 z3 z4
      go_wp2_with fail
      obtain ⟨z0, z1, z2, z3, z4⟩ := Z.out
      refine bodyPost_ret (v := .tuple #[leaf 0 0 [], .int .i64 1]) ?_ rfl ?_
      · simp only [set5] at z0 z1 z2 z3 z4
        simp [results, Tryz.results19, go_sem, z0, z1, z2, z3, z4, leaf, str]
      · exact ⟨leafV 0 0 [], 1, none, none, 0, 0, rfl, PS.out, leaf_is _ _ 2002 _ _ _ (by unfold I64; omega) (by unfold I64; omega) (by simp), gb_none (gb_set5 EN.out.2 (Nat.le_refl _) _ _ _ _ _)⟩
    | some r, K3, K4, hval =>
      obtain ⟨i, hi, ei⟩ := K4.out.1
      obtain ⟨c0, c1, c2, -, -⟩ := hi.c
      have hile := hi.2.1
      have hel : (ByteArray.mk l.toArray).size = l.length := by simp [ByteArray.size]
      rw [hel] at hile
      have EI := hidI ei
      clear hi ei
      cases hd : r.dropWhile isSp with
      | cons x r2 =>
        have hlt : (i : Int) < (l.length : Int) := by
          have h9 := EI.out
          rw [show (some r).map (List.dropWhile isSp) = some (r.dropWhile isSp) from rfl, hd] at h9
          have := congrArg List.length h9
          simp at this
          omega
        have PS : Hid (parseS l = (leafV 0 0 [], 1)) := hidI (by
          have : parseV l = none := by unfold parseV; rw [hval]; simp [hd]
          rw [PS0.out, this])
        have EN : Hid (BoxIs w4 w.heap.size (.int .i64 0) (.int .i64 0) (.string ⟨#[]⟩) (.slice none 0 0) (.slice none 0 0) ∧ w.grownBy w4 none) := ⟨K4.out.2.1, K4.out.2.2.2.2⟩
        clear hval hd
        obtain ⟨x0, x1, x2, x3, x4, y0, y1, y2, y3, y4⟩ := EN.out.1.c
        obtain ⟨z0, z1, z2, z3, z4, -⟩ := (EN.out.1.set (.int .i64 0) (.int .i64 0) (.string ⟨#[]⟩) (.slice none 0 0) (.slice none 0 0)).c
        have Z : Hid (_ ∧ _ ∧ _ ∧ _ ∧ _) := ⟨z0, z1, z2, z3, z4⟩
        clear z0 z1 z2 z3 z4
        go_wp2_with fail
        obtain ⟨z0, z1, z2, z3, z4⟩ := Z.out
        refine bodyPost_ret (v := .tuple #[leaf 0 0 [], .int .i64 1]) ?_ rfl ?_
        · simp only [set5] at z0 z1 z2 z3 z4
          simp [results, Tryz.results19, go_sem, z0, z1, z2, z3, z4, leaf, str]
        · exact ⟨leafV 0 0 [], 1, none, none, 0, 0, rfl, PS.out, leaf_is _ _ 2002 _ _ _ (by unfold I64; omega) (by unfold I64; omega) (by simp), gb_none (gb_set5 EN.out.2 (Nat.le_refl _) _ _ _ _ _)⟩
      | nil =>
        have hge : ¬ ((i : Int) < (l.length : Int)) := by
          have h9 := EI.out
          rw [show (some r).map (List.dropWhile isSp) = some (r.dropWhile isSp) from rfl, hd] at h9
          have := congrArg List.length h9
          simp at this
          omega
        obtain ⟨p0, p1, p2, p3, p4, -⟩ := K4.out.2.2.1.c
        cases hgd : goodV t with
        | true =>
          have PS : Hid (parseS l = (t, 0)) := hidI (by
            have : parseV l = some t := by unfold parseV; rw [hval]; simp [hd, hgd]
            rw [PS0.out, this])
          have HGD := hidI hgd
          clear hval hd hgd
          go_wp2_with fail
          refine (Good_at _ _ _ t _ (by exact K4.out.2.2.2.1)).mono ?_
          rintro e w5 ⟨rfl, hb5⟩
          rw [HGD.out]
          have K5 : Hid (BoxIs w5 w.heap.size (.int .i64 0) (.int .i64 0) (.string ⟨#[]⟩) (.slice none 0 0) (.slice none 0 0) ∧ BoxIs w5 w3.heap.size (.int .i64 t.kind) (.int .i64 t.n) (.string ⟨t.s.toArray⟩) (.slice a7 t.keys.length c7) (.slice a8 t.l.length c8) ∧ VIs w5 (fun k => w.heap.size + 2 ≤ k) (l.length + 1) t (.agg #[.int .i64 t.kind, .int .i64 t.n, .string ⟨t.s.toArray⟩, .slice a7 t.keys.length c7, .slice a8 t.l.length c8]) ∧ w.grownBy w5 none) := ⟨box_bel hb5 K4.out.2.1, box_bel hb5 K4.out.2.2.1, K4.out.2.2.2.1.bel hb5, gb_trans K4.out.2.2.2.2 (gb_below hb5)⟩
          clear hb5 p0 p1 p2 p3 p4 c0 c1 c2
          obtain ⟨p0, p1, p2, p3, p4, -⟩ := K5.out.2.1.c
          obtain ⟨x0, x1, x2, x3, x4, y0, y1, y2, y3, y4⟩ := K5.out.1.c
          obtain ⟨z0, z1, z2, z3, z4, -⟩ := (K5.out.1.set (.int .i64 t.kind) (.int .i64 t.n) (.string ⟨t.s.toArray⟩) (.slice a7 t.keys.length c7) (.slice a8 t.l.length c8)).c
          have Z : Hid (_ ∧ _ ∧ _ ∧ _ ∧ _) := ⟨z0, z1, z2, z3, z4⟩
          clear z0 z1 z2 z3 z4
          go_wp2_with fail
          obtain ⟨z0, z1, z2, z3, z4⟩ := Z.out
          refine bodyPost_ret (v := .tuple #[(.agg #[.int .i64 t.kind, .int .i64 t.n, .string ⟨t.s.toArray⟩, .slice a7 t.keys.length c7, .slice a8 t.l.length c8]), .int .i64 0]) ?_ rfl ?_
          · simp only [set5] at z0 z1 z2 z3 z4
            simp [results, Tryz.results19, go_sem, z0, z1, z2, z3, z4]
          · refine ⟨t, 0, a7, a8, c7, c8, rfl, PS.out, ?_, gb_none (gb_set5 K5.out.2.2.2 (Nat.le_refl _) _ _ _ _ _)⟩
            exact ((K5.out.2.2.1.grown (set5_gb w5 w.heap.size (.int .i64 t.kind) (.int .i64 t.n) (.string ⟨t.s.toArray⟩) (.slice a7 t.keys.length c7) (.slice a8 t.l.length c8)) (fun k hk e => by simp at e; omega)).weak (fun k hk => by omega)).le (by omega)
        | false =>
          have PS : Hid (parseS l = (leafV 0 0 [], 1)) := hidI (by
            have : parseV l = none := by unfold parseV; rw [hval]; simp [hgd]
            rw [PS0.out, this])
          have HGD := hidI hgd
          clear hval hd hgd
          go_wp2_with fail
          refine (Good_at _ _ _ t _ (by exact K4.out.2.2.2.1)).mono ?_
          rintro e w5 ⟨rfl, hb5⟩
          rw [HGD.out]
          have EN : Hid (BoxIs w5 w.heap.size (.int .i64 0) (.int .i64 0) (.string ⟨#[]⟩) (.slice none 0 0) (.slice none 0 0) ∧ w.grownBy w5 none) := ⟨box_bel hb5 K4.out.2.1, gb_trans K4.out.2.2.2.2 (gb_below hb5)⟩
          clear hb5 p0 p1 p2 p3 p4 c0 c1 c2
          obtain ⟨x0, x1, x2, x3, x4, y0, y1, y2, y3, y4⟩ := EN.out.1.c
          obtain ⟨z0, z1, z2, z3, z4, -⟩ := (EN.out.1.set (.int .i64 0) (.int .i64 0) (.string ⟨#[]⟩) (.slice none 0 0) (.slice none 0 0)).c
          have Z : Hid (_ ∧ _ ∧ _ ∧ _ ∧ _) := ⟨z0, z1, z2, z3, z4⟩
          clear z0 z1 z2 z3 z4
          go_wp2_with fail
          obtain ⟨z0, z1, z2, z3, z4⟩ := Z.out
          refine bodyPost_ret (v := .tuple #[leaf 0 0 [], .int .i64 1]) ?_ rfl ?_
          · simp only [set5] at z0 z1 z2 z3 z4
            simp [results, Tryz.results19, go_sem, z0, z1, z2, z3, z4, leaf, str]
          · exact ⟨leafV 0 0 [], 1, none, none, 0, 0, rfl, PS.out, leaf_is _ _ 2002 _ _ _ (by unfold I64; omega) (by unfold I64; omega) (by simp), gb_none (gb_set5 EN.out.2 (Nat.le_refl _) _ _ _ _ _)⟩
end Go.Proofs.YtfbddgpekbhpfacGreatDoor
