/- Whatever it is handed, PatchDoes answers true and leaves all as it was.
   Its conditions: what it is handed is of bulk at most 1048576 (values and letters); the listed package-level variables hold what the program's text lays (the card ties them, over a pruned copy of the project). -/
import Derived.Test.YtaifciobaapehaaDoorGZm
import Derived.Test.YtaifciobaapehaaDoorGWp
import Derived.Laws.MakeOwn
import Derived.Test.YtaifciobaapehaaDoorXz
import Derived.Maps.AppendAt
import Derived.Lib.AppendZeros
import Derived.Test.YtaifciobaapehaaDoorXa
import Derived.Test.YtaifciobaapehaaDoorShq
import Derived.Test.YtaifciobaapehaaDoorKd
import Derived.Test.YtaifciobaapehaaDoorRows
/- What Read of package patch does. -/
set_option linter.unusedSimpArgs false
set_option linter.unusedVariables false
namespace Go.Proofs.YtaifciobaapehaaDoor
open Go.RowKit

/- What Read answers. -/
/- A row of operations that is being laid. -/
theorem infoOp : ∃ j, Tryd.prog.info? 43 = some j ∧ j.zero = some (.agg #[.int .i64 0, .string ⟨#[]⟩, .string ⟨#[]⟩, .int .i64 0, .int .i64 0, .string ⟨#[]⟩, .slice none 0 0, .slice none 0 0]) ∧ j.size = 8 ∧ j.bytes = 120 := by
  have h : (Tryd.prog.info? 43).map (fun i => (i.zero, i.size, i.bytes)) = some (some (.agg #[.int .i64 0, .string ⟨#[]⟩, .string ⟨#[]⟩, .int .i64 0, .int .i64 0, .string ⟨#[]⟩, .slice none 0 0, .slice none 0 0]), 8, 120) := by kernel_rfl
  cases e : Tryd.prog.info? 43 with
  | none => rw [e] at h; cases h
  | some j => rw [e] at h; simp at h; exact ⟨j, rfl, h.1, h.2.1, h.2.2⟩
end Go.Proofs.YtaifciobaapehaaDoor

/- What MemberOf of package stairwellref does. -/
set_option linter.unusedSimpArgs false
set_option linter.unusedVariables false
namespace Go.Proofs.YtaifciobaapehaaDoor
open Go.RowKit

end Go.Proofs.YtaifciobaapehaaDoor

/- What ReadOps of package stairwellref does. -/
set_option linter.unusedSimpArgs false
set_option linter.unusedVariables false
namespace Go.Proofs.YtaifciobaapehaaDoor
open Go.RowKit

def opCells (o : OpT) (a7 a8 : Option Addr) (c7 c8 : Nat) : List Value := [.int .i64 o.kind, .string ⟨o.path.toArray⟩, .string ⟨o.frm.toArray⟩, .int .i64 o.value.kind, .int .i64 o.value.n, .string ⟨o.value.s.toArray⟩, .slice a7 o.value.keys.length c7, .slice a8 o.value.l.length c8]
/- Cells that hold operations. -/
def RowOp (w : World) (ok : Nat → Prop) : List OpT → List Value → Prop
  | [], cs => cs = []
  | o :: os, cs => ∃ a7 a8 c7 c8 rest, cs = opCells o a7 a8 c7 c8 ++ rest ∧ (I64 o.kind ∧ o.path.length ≤ 140737488351232 ∧ o.frm.length ≤ 140737488351232) ∧ In w ok o.value (.agg #[.int .i64 o.value.kind, .int .i64 o.value.n, .string ⟨o.value.s.toArray⟩, .slice a7 o.value.keys.length c7, .slice a8 o.value.l.length c8]) ∧ RowOp w ok os rest
theorem RowOp.imp {w w' : World} {ok ok' : Nat → Prop} (h : ∀ x v, In w ok x v → In w' ok' x v) : ∀ {os : List OpT} {cs : List Value}, RowOp w ok os cs → RowOp w' ok' os cs
  | [], cs, e => e
  | o :: os, cs, ⟨a7, a8, c7, c8, rest, e, g, hi, hr⟩ => ⟨a7, a8, c7, c8, rest, e, g, h _ _ hi, hr.imp h⟩
theorem RowOp.length {w : World} {ok : Nat → Prop} : ∀ {os : List OpT} {cs : List Value}, RowOp w ok os cs → cs.length = os.length * 8
  | [], cs, e => by have e : cs = [] := e; subst e; rfl
  | o :: os, cs, ⟨a7, a8, c7, c8, rest, e, g, hi, hr⟩ => by rw [e]; simp [opCells, hr.length]; omega
theorem RowOp.at {w : World} {ok : Nat → Prop} : ∀ {os : List OpT} {cs : List Value}, RowOp w ok os cs → ∀ (i : Nat) (o : OpT), os[i]? = some o → ∃ a7 a8 c7 c8, (I64 o.kind ∧ o.path.length ≤ 140737488351232 ∧ o.frm.length ≤ 140737488351232) ∧ In w ok o.value (.agg #[.int .i64 o.value.kind, .int .i64 o.value.n, .string ⟨o.value.s.toArray⟩, .slice a7 o.value.keys.length c7, .slice a8 o.value.l.length c8]) ∧ ∀ j, j < 8 → cs[i * 8 + j]? = (opCells o a7 a8 c7 c8)[j]?
  | [], cs, e, i, o, ho => by simp at ho
  | z :: os, cs, ⟨a7, a8, c7, c8, rest, e, g, hi, hr⟩, 0, o, ho => by
    simp at ho
    subst ho
    refine ⟨a7, a8, c7, c8, g, hi, fun j hj => ?_⟩
    rw [e, List.getElem?_append_left (by simp [opCells]; omega)]
    simp
  | z :: os, cs, ⟨a7, a8, c7, c8, rest, e, g, hi, hr⟩, i + 1, o, ho => by
    obtain ⟨b7, b8, d7, d8, g2, hi2, h3⟩ := hr.at i o (by simpa using ho)
    refine ⟨b7, b8, d7, d8, g2, hi2, fun j hj => ?_⟩
    rw [e, List.getElem?_append_right (by simp [opCells]; omega), ← h3 j hj]
    congr 1
    simp [opCells]; omega
/- An operation pushed onto a row of one's own. -/
end Go.Proofs.YtaifciobaapehaaDoor

/- A list of operations, appended onto nothing. -/
set_option linter.unusedSimpArgs false
set_option linter.unusedVariables false
namespace Go.Proofs.YtaifciobaapehaaDoor
open Go.RowKit

theorem ops_row (W : World) (ok : Nat → Prop) (b : Nat) : ∀ (os : List OpT) (off : Nat), (∀ i o, os[i]? = some o → ∃ v0 v1 v2 v3 v4 v5 v6 v7, W.cell? ⟨b, off + i * 8, none⟩ = some v0 ∧ W.cell? ⟨b, off + i * 8 + 1, none⟩ = some v1 ∧ W.cell? ⟨b, off + i * 8 + 2, none⟩ = some v2 ∧ W.cell? ⟨b, off + i * 8 + 3, none⟩ = some v3 ∧
      W.cell? ⟨b, off + i * 8 + 4, none⟩ = some v4 ∧ W.cell? ⟨b, off + i * 8 + 5, none⟩ = some v5 ∧ W.cell? ⟨b, off + i * 8 + 6, none⟩ = some v6 ∧ W.cell? ⟨b, off + i * 8 + 7, none⟩ = some v7 ∧ OpIn W ok o (.agg #[v0, v1, v2, v3, v4, v5, v6, v7])) →
    ∃ cs, RowOp W ok os cs ∧ ∀ j u, cs[j]? = some u → W.cell? ⟨b, off + j, none⟩ = some u
  | [], _, _ => ⟨[], rfl, by simp⟩
  | o :: os, off, h => by
    obtain ⟨rest, h1, h2⟩ := ops_row W ok b os (off + 8) (fun i o' ho => by
      have h9 := h (i + 1) o' (by simpa using ho)
      rw [show off + (i + 1) * 8 = off + 8 + i * 8 by omega] at h9
      exact h9)
    obtain ⟨v0, v1, v2, v3, v4, v5, v6, v7, g0, g1, g2, g3, g4, g5, g6, g7, o1, o2, o3, a7, a8, c7, c8, e, hi⟩ := h 0 o rfl
    simp only [Value.agg.injEq, Array.mk.injEq, List.cons.injEq, and_true] at e
    obtain ⟨rfl, rfl, rfl, rfl, rfl, rfl, rfl, rfl⟩ := e
    simp only [Nat.zero_mul, Nat.add_zero] at g0 g1 g2 g3 g4 g5 g6 g7
    refine ⟨opCells o a7 a8 c7 c8 ++ rest, ⟨a7, a8, c7, c8, rest, rfl, ⟨o1, o2, o3⟩, hi, h1⟩, fun j u hj => ?_⟩
    by_cases hlt : j < 8
    · rw [List.getElem?_append_left (by simp [opCells]; omega)] at hj
      rcases (show j = 0 ∨ j = 1 ∨ j = 2 ∨ j = 3 ∨ j = 4 ∨ j = 5 ∨ j = 6 ∨ j = 7 by omega) with rfl | rfl | rfl | rfl | rfl | rfl | rfl | rfl <;> simp only [opCells, List.getElem?_cons_zero, List.getElem?_cons_succ, Option.some.injEq] at hj <;> subst hj
      · exact g0
      · exact g1
      · exact g2
      · exact g3
      · exact g4
      · exact g5
      · exact g6
      · exact g7
    · rw [List.getElem?_append_right (by simp [opCells]; omega)] at hj
      have h9 := h2 (j - 8) u (by simpa [opCells] using hj)
      rw [show off + 8 + (j - 8) = off + j by omega] at h9
      exact h9
theorem row_one {W : World} {ok : Nat → Prop} : ∀ {os : List OpT} {cs : List Value}, RowOp W ok os cs → ∀ u ∈ cs, u.oneCell' = true
  | [], cs, e, u, hu => by have e : cs = [] := e; rw [e] at hu; cases hu
  | o :: os, cs, ⟨a7, a8, c7, c8, rest, e, _, _, hr⟩, u, hu => by
    rw [e] at hu
    rcases List.mem_append.1 hu with hu | hu
    · simp only [opCells, List.mem_cons, List.not_mem_nil, or_false] at hu
      rcases hu with rfl | rfl | rfl | rfl | rfl | rfl | rfl | rfl <;> rfl
    · exact row_one hr u hu
theorem own_opsB {w : World} {B : Nat} {ok ok' : Nat → Prop} {v : Value} {os : List OpT} {cs : List Value} {n : Nat} (h : w.ownsRow B 43 8 v n cs) (hr : RowOp w ok os cs) (hn : n ≤ 9223372036854775807) (hB : ∀ k, B ≤ k → ok' k) (hk : ∀ k, ok k → ok' k) : OpsAre w ok' os v := by
  have hl : os.length = n := by have := h.1; have := hr.length; omega
  refine ⟨by omega, ?_⟩
  rcases h.2 with ⟨e, h0⟩ | ⟨g, cap, cur, e, h1, h2, h3, h4, h5, h6⟩
  · exact .inl ⟨List.eq_nil_of_length_eq_zero (by omega), none, e⟩
  · refine .inr ⟨g, 0, cap, by rw [hl]; exact e, by omega, h4, fun i o ho => ?_⟩
    obtain ⟨a7, a8, c7, c8, ⟨g1, g2, g3⟩, hi, hq⟩ := hr.at i o ho
    have cell : ∀ j u, j < 8 → (opCells o a7 a8 c7 c8)[j]? = some u → w.cell? ⟨g, 0 + i * 8 + j, none⟩ = some u := by
      intro j u hj hu
      have := h.cells (g := g) (by rw [e]; rfl) (i * 8 + j) u (by rw [hq j hj]; exact hu)
      rw [addr_add] at this
      rw [show 0 + i * 8 + j = 0 + (i * 8 + j) by omega]
      exact this
    exact ⟨_, _, _, _, _, _, _, _, hB g h1, cell 0 _ (by omega) rfl, cell 1 _ (by omega) rfl, cell 2 _ (by omega) rfl, cell 3 _ (by omega) rfl, cell 4 _ (by omega) rfl, cell 5 _ (by omega) rfl, cell 6 _ (by omega) rfl, cell 7 _ (by omega) rfl, g1, g2, g3, a7, a8, c7, c8, rfl, hi.weak hk⟩
theorem run_copyO (W : World) (ok : Nat → Prop) (os : List OpT) (v : Value) (h : OpsAre W ok os v) (hl : os.length ≤ 1000000000) (ty : TypeId) :
    ∃ v' W', (Builtin.append_ #[35, 35] ty #[.slice none 0 0, v]).run Tryd.prog W = .ok v' W' ∧ OpsAre W' (okN ok W.heap.size) os v' ∧ Below W.heap.size W W' := by
  obtain ⟨i0, hi, hz0, hz1, hz2⟩ := infoOp
  have some_case : ∀ (ad : Addr) (c : Nat) (cs : List Value), RowOp W ok os cs → (∀ j u, cs[j]? = some u → W.cell? (ad.add j) = some u) →
      ∃ v' W', (Builtin.append_ #[35, 35] ty #[.slice none 0 0, .slice (some ad) os.length c]).run Tryd.prog W = .ok v' W' ∧ OpsAre W' (okN ok W.heap.size) os v' ∧ Below W.heap.size W W' := by
    intro ad c cs hr hc
    obtain ⟨v', W', hr', ho, hg, -, -⟩ := run_append_own_at (P := Tryd.prog) W W.heap.size 35 ty 43 i0 _ 8 120 Tryd.underlying35 hi hz0 hz1 hz2 rfl (by decide) (.slice none 0 0) 0 [] (World.ownsRow_nil _ _ _ _) ad os.length c cs hr.length hc (row_one hr) (by unfold maxLen; omega) (by omega) (Nat.le_refl _)
    have hb : Below W.heap.size W W' := gb_none (by simpa [Value.ownBlock] using hg)
    refine ⟨v', W', hr', ?_, hb⟩
    simp only [Nat.zero_add, List.nil_append] at ho
    exact own_opsB ho (hr.imp fun _ _ h => h.bel hb) (by omega) (fun k hk => .inr hk) (fun k hk => .inl hk)
  rcases h.2 with ⟨rfl, a, rfl⟩ | ⟨b, off, c, rfl, h1, h2, h3⟩
  · cases a with
    | none =>
      refine ⟨.slice none 0 0, W, ?_, ⟨by simp, .inl ⟨rfl, none, rfl⟩⟩, Below.refl _ _⟩
      simp [Builtin.append_, run_underlying Tryd.underlying35, hi, go_sem]
    | some ad => exact some_case ad 0 [] rfl (by simp)
  · obtain ⟨cs, hr, hc⟩ := ops_row W ok b os off (fun i o ho => by
      obtain ⟨v0, v1, v2, v3, v4, v5, v6, v7, -, g⟩ := h3 i o ho
      exact ⟨v0, v1, v2, v3, v4, v5, v6, v7, g⟩)
    refine some_case ⟨b, off, none⟩ c cs hr fun j u hj => ?_
    rw [addr_add]
    exact hc j u hj
end Go.Proofs.YtaifciobaapehaaDoor

/- What alikeButItems of package json does. -/
set_option linter.unusedSimpArgs false
set_option linter.unusedVariables false
namespace Go.Proofs.YtaifciobaapehaaDoor
open Go.RowKit

theorem equalS_at (w : World) (ok ok' : Nat → Prop) (xs ys : List (List UInt8)) (v1 v2 : Value) (h1 : StrsAre w ok xs v1) (h2 : StrsAre w ok' ys v2) :
    Calls Tryd.prog 86 #[v1, v2] w fun e w' => e = .returned (.bool (decide (xs = ys))) ∧ Below w.heap.size w w' := by
  have hm := h2.1
  unfold maxLen at hm
  have hm1 := h1.1
  unfold maxLen at hm1
  obtain ⟨a2, c2, e2⟩ := h2.form
  rcases h1.2 with ⟨rfl, a, rfl⟩ | ⟨b, off, c, rfl, g1, g2, g3⟩
  · rw [e2]
    refine (Tryd.slices_Equal_string_empty a a2 0 ys.length c2 w hm).mono ?_
    rintro e w' ⟨rfl, rfl⟩
    refine ⟨?_, Below.refl _ _⟩
    congr 2
    cases ys <;> simp
  · by_cases hl : xs.length = ys.length
    · rcases h2.2 with ⟨rfl, a, e⟩ | ⟨b2, off2, c3, e, f1, f2, f3⟩
      · have hx : xs = [] := List.eq_nil_of_length_eq_zero (by simpa using hl)
        subst hx
        rw [e2]
        refine (Tryd.slices_Equal_string_empty _ a2 c 0 c2 w (by omega)).mono ?_
        rintro e w' ⟨rfl, rfl⟩
        exact ⟨by simp, Below.refl _ _⟩
      · subst e
        refine (Tryd.slices_Equal_string b off xs.length c b2 off2 ys.length c3 (xs.map fun l => (⟨l.toArray⟩ : ByteArray)) (ys.map fun l => (⟨l.toArray⟩ : ByteArray)) w (by simp) (by simp) hm1 hm ?_ ?_).mono ?_
        · intro j hj
          have hj' : j < xs.length := by simpa using hj
          rw [(g3 j xs[j] (List.getElem?_eq_getElem hj')).2.2]
          simp [str, hj']
        · intro j hj
          have hj' : j < ys.length := by simpa using hj
          rw [(f3 j ys[j] (List.getElem?_eq_getElem hj')).2.2]
          simp [str, hj']
        · rintro e w' ⟨rfl, q, rfl⟩
          refine ⟨?_, ⟨rfl, rfl, rfl, Nat.le_refl _, fun _ _ => rfl⟩⟩
          congr 2
          rw [List.take_of_length_le (by simp), List.take_of_length_le (by simp)]
          have inj : ∀ (a b : List (List UInt8)), (a.map fun l => (⟨l.toArray⟩ : ByteArray)) = (b.map fun l => (⟨l.toArray⟩ : ByteArray)) ↔ a = b := by
            intro a
            induction a with
            | nil => intro b; cases b <;> simp
            | cons x a ih =>
              intro b
              cases b with
              | nil => simp
              | cons y b => simp [ih b]
          exact decide_eq_decide.2 (inj xs ys)
    · rw [e2]
      refine (Tryd.slices_Equal_string_lens _ a2 xs.length c ys.length c2 w hl).mono ?_
      rintro e w' ⟨rfl, rfl⟩
      refine ⟨?_, Below.refl _ _⟩
      congr 2
      have : ¬ xs = ys := fun e => hl (by rw [e])
      simp [this]
def aliked (a b : V) : Bool := decide (a.kind = b.kind) && decide (a.n = b.n) && decide (a.s = b.s) && decide (a.keys = b.keys) && decide (a.l.length = b.l.length)
set_option maxRecDepth 100000 in
set_option maxHeartbeats 4000000 in
theorem alike_is (w : World) (ok ok' : Nat → Prop) (a b : V) (va vb : Value) (ha : In w ok a va) (hb : In w ok' b vb) :
    Calls Tryd.prog 76 #[va, vb] w fun e w' => e = .returned (.bool (aliked a b)) ∧ Below w.heap.size w w' := by
  obtain ⟨l1, l2, l3⟩ := ha.lens
  obtain ⟨m1, m2, m3⟩ := hb.lens
  obtain ⟨d1, ha⟩ := ha.at
  obtain ⟨d2, hb⟩ := hb.at
  obtain ⟨ks, ls, rfl, -, -, -, h4, h5⟩ := ha
  obtain ⟨ks', ls', rfl, -, -, -, g4, g5⟩ := hb
  have H4 := hidI h4
  have G4 := hidI g4
  obtain ⟨a1, c1, rfl⟩ := h4.form
  obtain ⟨a2, c2, rfl⟩ := h5.form
  obtain ⟨a3, c3, rfl⟩ := g4.form
  obtain ⟨a4, c4, rfl⟩ := g5.form
  clear h4 h5 g4 g5
  unfold str
  have B2 : Hid (∀ o1 o2, Below w.heap.size w ((w.alloc o1).alloc o2)) := fun o1 o2 => bel_trans (bel_alloc _ _) (bel_alloc _ _)
  by_cases e1 : a.kind = b.kind
  · have q1 : (a.kind == b.kind) = true := by rw [beq_iff_eq]; exact e1
    by_cases e2 : a.n = b.n
    · have q2 : (a.n == b.n) = true := by rw [beq_iff_eq]; exact e2
      by_cases e3 : a.s = b.s
      · have q3 : (a.s == b.s) = true := by rw [beq_iff_eq]; exact e3
        have HE : Hid (aliked a b = (decide (a.keys = b.keys) && decide (a.l.length = b.l.length))) := hidI (by simp [aliked, e1, e2, e3])
        clear e1 e2 e3
        cases hk : decide (a.keys = b.keys) with
        | true =>
          by_cases hl : a.l.length = b.l.length
          · have q4 : ((a.l.length : Int) == (b.l.length : Int)) = true := by rw [hl]; simp
            have HR : Hid (aliked a b = true) := hidI (by rw [HE.out, hk]; simp [hl])
            have HK := hidI hk
            clear hk hl
            go_enter Tryd.func76, Tryd.ntmps76
            go_wp2_with fail
            refine (equalS_at _ _ _ a.keys b.keys _ _ (by exact H4.out.bel (B2.out _ _)) (by exact G4.out.bel (B2.out _ _))).mono ?_
            rintro e w1 ⟨rfl, hb1⟩
            rw [HK.out]
            have p4 := (box_bel hb1 (h2a w _ _)).c.2.2.2.2.1
            have r4 := (box_bel hb1 (h2b w _ _)).c.2.2.2.2.1
            have HB := hidI (bel_trans (B2.out _ _) hb1)
            clear hb1
            go_wp2_with fail
            go_ret
            exact ⟨by rw [HR.out]; rfl, HB.out⟩
          · have q4 : ((a.l.length : Int) == (b.l.length : Int)) = false := by rw [beq_eq_false_iff_ne]; omega
            have HR : Hid (aliked a b = false) := hidI (by rw [HE.out, hk]; simp [hl])
            have HK := hidI hk
            clear hk hl
            go_enter Tryd.func76, Tryd.ntmps76
            go_wp2_with fail
            refine (equalS_at _ _ _ a.keys b.keys _ _ (by exact H4.out.bel (B2.out _ _)) (by exact G4.out.bel (B2.out _ _))).mono ?_
            rintro e w1 ⟨rfl, hb1⟩
            rw [HK.out]
            have p4 := (box_bel hb1 (h2a w _ _)).c.2.2.2.2.1
            have r4 := (box_bel hb1 (h2b w _ _)).c.2.2.2.2.1
            have HB := hidI (bel_trans (B2.out _ _) hb1)
            clear hb1
            go_wp2_with fail
            go_ret
            exact ⟨by rw [HR.out]; rfl, HB.out⟩
        | false =>
          have HR : Hid (aliked a b = false) := hidI (by rw [HE.out, hk]; rfl)
          have HK := hidI hk
          clear hk
          go_enter Tryd.func76, Tryd.ntmps76
          go_wp2_with fail
          refine (equalS_at _ _ _ a.keys b.keys _ _ (by exact H4.out.bel (B2.out _ _)) (by exact G4.out.bel (B2.out _ _))).mono ?_
          rintro e w1 ⟨rfl, hb1⟩
          rw [HK.out]
          have HB := hidI (bel_trans (B2.out _ _) hb1)
          clear hb1
          go_wp2_with fail
          go_ret
          exact ⟨by rw [HR.out]; rfl, HB.out⟩
      · have q3 : (a.s == b.s) = false := by rw [beq_eq_false_iff_ne]; exact e3
        have HR : Hid (aliked a b = false) := hidI (by simp [aliked, e3])
        clear e1 e2 e3
        go_enter Tryd.func76, Tryd.ntmps76
        go_wp2_with fail
        go_ret
        exact ⟨by rw [HR.out]; rfl, B2.out _ _⟩
    · have q2 : (a.n == b.n) = false := by rw [beq_eq_false_iff_ne]; exact e2
      have HR : Hid (aliked a b = false) := hidI (by simp [aliked, e2])
      clear e1 e2
      go_enter Tryd.func76, Tryd.ntmps76
      go_wp2_with fail
      go_ret
      exact ⟨by rw [HR.out]; rfl, B2.out _ _⟩
  · have q1 : (a.kind == b.kind) = false := by rw [beq_eq_false_iff_ne]; exact e1
    have HR : Hid (aliked a b = false) := hidI (by simp [aliked, e1])
    clear e1
    go_enter Tryd.func76, Tryd.ntmps76
    go_wp2_with fail
    go_ret
    exact ⟨by rw [HR.out]; rfl, B2.out _ _⟩
end Go.Proofs.YtaifciobaapehaaDoor

/- What Same of package json does. -/
set_option linter.unusedSimpArgs false
set_option linter.unusedVariables false
namespace Go.Proofs.YtaifciobaapehaaDoor
open Go.RowKit
theorem alike_eq {x y : V} (h : aliked x y = true) : (x = y ↔ x.l = y.l) ∧ y.l.length = x.l.length := by
  simp only [aliked, Bool.and_eq_true, decide_eq_true_eq] at h
  obtain ⟨⟨⟨⟨h1, h2⟩, h3⟩, h4⟩, h5⟩ := h
  refine ⟨⟨fun e => by rw [e], fun e => ?_⟩, h5.symm⟩
  rw [← V_eta x, ← V_eta y, h1, h2, h3, h4, e]
theorem alike_no {x y : V} (h : aliked x y = false) : x ≠ y := by
  rintro rfl
  simp [aliked] at h

set_option maxRecDepth 100000 in
set_option maxHeartbeats 40000000 in
theorem same_run (w : World) (ok ok' : Nat → Prop) (a b : V) (va vb : Value) (ha : In w ok a va) (hb : In w ok' b vb) (hN : cnt a ≤ 2000000000000) :
    Calls Tryd.prog 62 #[va, vb] w fun e w' => SameP w a b e w' := by
  have HA := hidI ha
  have HB := hidI hb
  obtain ⟨a1, a2, c1, c2, rfl⟩ := ha.form
  obtain ⟨a3, a4, c3, c4, rfl⟩ := hb.form
  clear ha hb
  go_enter Tryd.func62, Tryd.ntmps62
  go_upto_region 1 with fail
  go_cut [5, 6] (fun lv rv wc => ∃ ia ib, SI w ok ok' ia ib [[a]] [[b]] lv rv wc)
  case first =>
    go_region
    all_goals
      go_wp2_with fail
      go_meet
      case rel =>
        first
          | exact ⟨w.heap.size + 2, w.heap.size + 4, si_start HA.out HB.out (by repeat (first | exact Below.refl _ _ | refine bel_dr ?_ | refine bel_al ?_ _)) (heap_at6 w _ _ _ _ _ _ 3 (by decide)) (heap_at6 w _ _ _ _ _ _ 5 (by decide)) (heap_at6 w _ _ _ _ _ _ 2 (by decide)) (heap_at6 w _ _ _ _ _ _ 4 (by decide)) (by refine ⟨?_, ?_, ?_, ?_, ?_, ?_, ?_⟩ <;> omega)⟩
          | exact ⟨w.heap.size + 2, w.heap.size + 3, si_start HA.out HB.out (by repeat (first | exact Below.refl _ _ | refine bel_dr ?_ | refine bel_al ?_ _)) (heap_at6 w _ _ _ _ _ _ 4 (by decide)) (heap_at6 w _ _ _ _ _ _ 5 (by decide)) (heap_at6 w _ _ _ _ _ _ 2 (by decide)) (heap_at6 w _ _ _ _ _ _ 3 (by decide)) (by refine ⟨?_, ?_, ?_, ?_, ?_, ?_, ?_⟩ <;> omega)⟩
          | exact ⟨w.heap.size + 2, w.heap.size + 3, si_start HA.out HB.out (by repeat (first | exact Below.refl _ _ | refine bel_dr ?_ | refine bel_al ?_ _)) (heap_at6 w _ _ _ _ _ _ 5 (by decide)) (heap_at6 w _ _ _ _ _ _ 4 (by decide)) (heap_at6 w _ _ _ _ _ _ 2 (by decide)) (heap_at6 w _ _ _ _ _ _ 3 (by decide)) (by refine ⟨?_, ?_, ?_, ?_, ?_, ?_, ?_⟩ <;> omega)⟩
          | exact ⟨w.heap.size + 3, w.heap.size + 2, si_start HA.out HB.out (by repeat (first | exact Below.refl _ _ | refine bel_dr ?_ | refine bel_al ?_ _)) (heap_at6 w _ _ _ _ _ _ 4 (by decide)) (heap_at6 w _ _ _ _ _ _ 5 (by decide)) (heap_at6 w _ _ _ _ _ _ 3 (by decide)) (heap_at6 w _ _ _ _ _ _ 2 (by decide)) (by refine ⟨?_, ?_, ?_, ?_, ?_, ?_, ?_⟩ <;> omega)⟩
          | exact ⟨w.heap.size + 3, w.heap.size + 2, si_start HA.out HB.out (by repeat (first | exact Below.refl _ _ | refine bel_dr ?_ | refine bel_al ?_ _)) (heap_at6 w _ _ _ _ _ _ 5 (by decide)) (heap_at6 w _ _ _ _ _ _ 4 (by decide)) (heap_at6 w _ _ _ _ _ _ 3 (by decide)) (heap_at6 w _ _ _ _ _ _ 2 (by decide)) (by refine ⟨?_, ?_, ?_, ?_, ?_, ?_, ?_⟩ <;> omega)⟩
          | exact ⟨w.heap.size + 4, w.heap.size + 2, si_start HA.out HB.out (by repeat (first | exact Below.refl _ _ | refine bel_dr ?_ | refine bel_al ?_ _)) (heap_at6 w _ _ _ _ _ _ 5 (by decide)) (heap_at6 w _ _ _ _ _ _ 3 (by decide)) (heap_at6 w _ _ _ _ _ _ 4 (by decide)) (heap_at6 w _ _ _ _ _ _ 2 (by decide)) (by refine ⟨?_, ?_, ?_, ?_, ?_, ?_, ?_⟩ <;> omega)⟩
  case rest =>
    obtain ⟨ia, ib, hS⟩ := hcut
    have S0 := hidI hS
    clear hS
    go_wp2_with fail
    go_loopg [5, 6] (1 + cnt a) (fun gk lv rv wr => ∃ ls rs, (a = b ↔ ls = rs) ∧ PL ls rs ∧ gk = mu ls ∧ mu ls ≤ 2000000000001 ∧ SI w ok ok' ia ib ls rs lv rv wr)
    case atStart => exact ⟨[[a]], [[b]], ⟨fun e => by rw [e], fun e => by simpa using e⟩, ⟨rfl, fun j l r h1 h2 => by cases j <;> simp at h1 h2; rw [← h1, ← h2]; rfl⟩, by simp [mu, cnts_nil, cnts_cons], by simp [mu, cnts_nil, cnts_cons]; omega, S0.out⟩
    case round =>
      obtain ⟨ls, rs, hiff, hpl, hgk, hM, hSI⟩ := hrel
      rcases ends ls with rfl | ⟨ms, xs, rfl⟩
      · obtain ⟨gL, gR, cL, cR, rfl, rfl, hSE⟩ := hSI
        have hSB := hSE.2.2.2.2.2.2.2.2.2
        have R : Hid (a = b ∧ Below w.heap.size w wr) := hidI ⟨hiff.2 (List.eq_nil_of_length_eq_zero (by simpa using hpl.1)).symm, hSB⟩
        clear hiff hpl hgk hM hSE hSB
        have e0 : ([] : List (List V)).length = 0 := rfl
        rw [e0]
        go_wp2_with fail
        go_ret
        exact ⟨true, rfl, ⟨fun _ => R.out.1, fun _ => rfl⟩, R.out.2⟩
      · obtain ⟨qs, ys, rfl, hpl', hxy⟩ := hpl.pop
        obtain ⟨gL, gR, cL, cR, rfl, rfl, hL, hR, n1, n2, n3, n4, n5, n6, n7, hBw⟩ := hSI
        obtain ⟨xv, px, vx, hL'⟩ := hL.pop
        obtain ⟨yv, py, vy, hR'⟩ := hR.pop
        obtain ⟨M, hgM⟩ : ∃ M, gk = M := ⟨_, rfl⟩
        rw [hgM] at hgk
        have GKM := hidI hgM
        clear hgM
        have hq : qs.length = ms.length := hpl'.1
        rw [hq] at py
        have J0 : Hid (SJ w ok ok' ia ib a b xs ys xv yv M 0 (.slice (some ⟨gL, 0, none⟩) ms.length cL) (.slice (some ⟨gR, 0, none⟩) ms.length cR) wr) := hidI ⟨ms, qs, by rw [hiff, snoc_both]; simp, hpl', by rw [hgk, mu_push]; simp; omega, by omega, vx, vy, gL, gR, cL, cR, rfl, by rw [hq], hL', hR', n1, n2, n3, n4, n5, n6, n7, hBw⟩
        have zL := hL.cap
        have zR := hR.cap
        have eL : (ms ++ [xs]).length = ms.length + 1 := by simp
        have eR : (qs ++ [ys]).length = ms.length + 1 := by simp [hq]
        rw [eL] at zL ⊢
        rw [eR] at zR ⊢
        obtain ⟨z1, z2⟩ := zL
        obtain ⟨z3, z4⟩ := zR
        obtain ⟨xa, xc, rfl⟩ := vx.form
        obtain ⟨ya, yc, rfl⟩ := vy.form
        have lx := vx.len
        have HXY := hidI hxy
        have GM : Hid (M ≤ 2000000000001) := hidI (by rw [hgk]; exact hM)
        clear hiff hpl hpl' hL hR hL' hR' hgk hM vx vy n1 n2 n3 n4 n5 n6 n7 hBw eL eR hq hxy
        have y1 : (0 : Int) ≤ (ms.length : Int) := by omega
        have y2 : (ms.length : Int) < ((ms.length + 1 : Nat) : Int) := by omega
        have y3 : (ms.length : Int) ≤ (cL : Int) := by omega
        have y4 : (ms.length : Int) ≤ (cR : Int) := by omega
        go_wp2_with fail
        go_quiet (fail)
        go_wp2_with fail
        go_quiet (fail)
        go_wp2_with fail
        go_loopg [5, 6, 39] xs.length (fun gi lv rv i wi => ∃ k : Nat, k ≤ xs.length ∧ gi = xs.length - k ∧ i = .int .i64 k ∧ SJ w ok ok' ia ib a b xs ys (.slice xa xs.length xc) (.slice ya ys.length yc) M k lv rv wi)
        case atStart => exact ⟨0, Nat.zero_le _, rfl, rfl, by first | exact J0.out | exact J0.out.bel (bel_drewN _ _) | exact J0.out.bel (Below.refl _ _)⟩
        case round =>
          obtain ⟨k, hk, hgi, rfl, ls, rs, i1, i2, i3, i4, i5, i6, gL', gR', cL', cR', rfl, rfl, i7⟩ := hrel
          have GI := hidI hgi
          have J : Hid ((a = b ↔ ls = rs ∧ xs.drop k = ys.drop k) ∧ PL ls rs ∧ mu ls + cnts (xs.drop k) + 1 ≤ M ∧ ValsIn wr (okX ok w.heap.size ia) xs (.slice xa xs.length xc) ∧ ValsIn wr (okX ok' w.heap.size ib) ys (.slice ya ys.length yc) ∧ SE w ok ok' ia ib ls rs gL' gR' cL' cR' wr) := hidI ⟨i1, i2, i3, i5, i6, i7⟩
          clear hgi i1 i2 i3 i4 i7
          by_cases hlt : k < xs.length
          · have hlt' : k < ys.length := by have := HXY.out; omega
            obtain ⟨xb, xo, p5, q5, p6, q6, rfl, x1, x2, g0, g1, g2, g3, g4, g5⟩ := i5.item hlt
            obtain ⟨yb, yo, p7, q7, p8, q8, rfl, x3, x4, f0, f1, f2, f3, f4, f5⟩ := i6.item hlt'
            clear i5 i6
            have w1 : (0 : Int) ≤ (k : Int) := by omega
            have w2 : (k : Int) < (xs.length : Int) := by omega
            have w3 : (k : Int) < (ys.length : Int) := by omega
            have CALL : Hid (∀ w', Below wr.heap.size wr w' → Calls Tryd.prog 76 #[.agg #[.int .i64 xs[k].kind, .int .i64 xs[k].n, .string ⟨xs[k].s.toArray⟩, .slice p5 xs[k].keys.length q5, .slice p6 xs[k].l.length q6], .agg #[.int .i64 ys[k].kind, .int .i64 ys[k].n, .string ⟨ys[k].s.toArray⟩, .slice p7 ys[k].keys.length q7, .slice p8 ys[k].l.length q8]] w' fun e w4 => e = .returned (.bool (aliked xs[k] ys[k])) ∧ Below wr.heap.size wr w4 ∧
                w4.cell? ⟨xb, xo + k * 5, none⟩ = some (.int .i64 xs[k].kind) ∧ w4.cell? ⟨xb, xo + k * 5 + 1, none⟩ = some (.int .i64 xs[k].n) ∧ w4.cell? ⟨xb, xo + k * 5 + 2, none⟩ = some (.string ⟨xs[k].s.toArray⟩) ∧ w4.cell? ⟨xb, xo + k * 5 + 3, none⟩ = some (.slice p5 xs[k].keys.length q5) ∧ w4.cell? ⟨xb, xo + k * 5 + 4, none⟩ = some (.slice p6 xs[k].l.length q6) ∧ w4.cell? ⟨yb, yo + k * 5, none⟩ = some (.int .i64 ys[k].kind) ∧ w4.cell? ⟨yb, yo + k * 5 + 1, none⟩ = some (.int .i64 ys[k].n) ∧ w4.cell? ⟨yb, yo + k * 5 + 2, none⟩ = some (.string ⟨ys[k].s.toArray⟩) ∧ w4.cell? ⟨yb, yo + k * 5 + 3, none⟩ = some (.slice p7 ys[k].keys.length q7) ∧ w4.cell? ⟨yb, yo + k * 5 + 4, none⟩ = some (.slice p8 ys[k].l.length q8)) := by
              intro w' hb'
              refine (alike_is w' _ _ xs[k] ys[k] _ _ (g5.bel hb') (f5.bel hb')).mono ?_
              rintro e w4 ⟨rfl, hb4⟩
              have hb5 := bel_trans hb' hb4
              exact ⟨rfl, hb5, cell_bel hb5 g0, cell_bel hb5 g1, cell_bel hb5 g2, cell_bel hb5 g3, cell_bel hb5 g4, cell_bel hb5 f0, cell_bel hb5 f1, cell_bel hb5 f2, cell_bel hb5 f3, cell_bel hb5 f4⟩
            have VX := hidI g5.vals
            have VY := hidI f5.vals
            clear g5 f5
            go_wp2_with fail
            go_region_held3 (fun w4 => w4.cell? ⟨xb, xo + k * 5, none⟩ = some (.int .i64 xs[k].kind) ∧ w4.cell? ⟨xb, xo + k * 5 + 1, none⟩ = some (.int .i64 xs[k].n) ∧ w4.cell? ⟨xb, xo + k * 5 + 2, none⟩ = some (.string ⟨xs[k].s.toArray⟩) ∧ w4.cell? ⟨xb, xo + k * 5 + 3, none⟩ = some (.slice p5 xs[k].keys.length q5) ∧ w4.cell? ⟨xb, xo + k * 5 + 4, none⟩ = some (.slice p6 xs[k].l.length q6) ∧ w4.cell? ⟨yb, yo + k * 5, none⟩ = some (.int .i64 ys[k].kind) ∧ w4.cell? ⟨yb, yo + k * 5 + 1, none⟩ = some (.int .i64 ys[k].n) ∧ w4.cell? ⟨yb, yo + k * 5 + 2, none⟩ = some (.string ⟨ys[k].s.toArray⟩) ∧ w4.cell? ⟨yb, yo + k * 5 + 3, none⟩ = some (.slice p7 ys[k].keys.length q7) ∧ w4.cell? ⟨yb, yo + k * 5 + 4, none⟩ = some (.slice p8 ys[k].l.length q8)) (go_keep)
              (first | (go_at_call 76; refine (CALL.out _ (by exact ⟨rfl, rfl, rfl, Nat.le_refl _, fun _ _ => rfl⟩)).mono ?_; rintro e w4 ⟨rfl, hb4, s0, s1, s2, s3, s4, r0, r1, r2, r3, r4⟩))
            all_goals
              have HB4 := hidI hb4
              have E4 := hidI (J.out.2.2.2.2.2.bel hb4)
              clear hb4 g0 g1 g2 g3 g4 f0 f1 f2 f3 f4 CALL s0 s1 s2 s3 r0 r1 r2 r3
              cases hr : aliked xs[k] ys[k] with
              | false =>
                have R : Hid ((¬ a = b) ∧ Below w.heap.size w w4) := hidI ⟨fun e => absurd ((drop_both hlt hlt').1 (J.out.1.1 e).2).1 (alike_no hr), E4.out.2.2.2.2.2.2.2.2.2⟩
                clear hr s4 r4
                go_wp2_with fail
                go_ret
                exact ⟨false, rfl, ⟨fun e => absurd e Bool.false_ne_true, fun e => absurd e R.out.1⟩, R.out.2⟩
              | true =>
                have HR := hidI hr
                clear hr
                by_cases h0 : xs[k].l.length = 0
                · have d0 : ¬ (0 : Int) < (xs[k].l.length : Int) := by omega
                  have FIN : Hid (SJ w ok ok' ia ib a b xs ys (.slice (some ⟨xb, xo, none⟩) xs.length xc) (.slice (some ⟨yb, yo, none⟩) ys.length yc) M (k + 1) (.slice (some ⟨gL', 0, none⟩) ls.length cL') (.slice (some ⟨gR', 0, none⟩) rs.length cR') w4) := by
                    obtain ⟨j1, j2, j3, j5, j6, j7⟩ := J.out
                    have he := alike_eq HR.out
                    have e1 : xs[k].l = [] := List.eq_nil_of_length_eq_zero h0
                    have e2 : ys[k].l = [] := List.eq_nil_of_length_eq_zero (by rw [he.2, h0])
                    have e3 : xs[k] = ys[k] := he.1.2 (by rw [e1, e2])
                    have e4 := cnts_drop hlt
                    exact hidI ⟨ls, rs, by rw [j1, drop_both hlt hlt']; simp [e3], j2, by omega, GM.out, j5.bel HB4.out, j6.bel HB4.out, gL', gR', cL', cR', rfl, rfl, E4.out⟩
                  clear h0 r4
                  go_wp2_with fail
                  go_roundg (xs.length - (k + 1))
                  case measure => rw [GI.out]; omega
                  case rel => exact ⟨k + 1, hlt, rfl, by go_num, FIN.out⟩
                · have d0 : (0 : Int) < (xs[k].l.length : Int) := by omega
                  have WL : Hid (Wait w4 w.heap.size (okX ok w.heap.size ia) ls gL' cL') := hidI E4.out.1
                  have WR : Hid (Wait w4 w.heap.size (okX ok' w.heap.size ib) rs gR' cR') := hidI E4.out.2.1
                  have VX4 : Hid (ValsIn w4 (okX ok w.heap.size ia) xs[k].l (.slice p6 xs[k].l.length q6)) := hidI (VX.out.bel HB4.out)
                  have VY4 : Hid (ValsIn w4 (okX ok' w.heap.size ib) ys[k].l (.slice p8 ys[k].l.length q8)) := hidI (VY.out.bel HB4.out)
                  have LA := hidI E4.out.lows
                  have LB := hidI E4.out.swap.lows
                  have gL4 : Hid (gL' < w4.heap.size) := hidI E4.out.1.lt.2
                  have gR4 : Hid (gR' < w4.heap.size) := hidI E4.out.2.1.lt.2
                  have nLR : Hid (gR' ≠ gL') := hidI E4.out.2.2.1.symm
                  have nRL : Hid (gL' ≠ gR') := hidI E4.out.2.2.1
                  have nLB : Hid (∀ j, (okX ok' w.heap.size ib) j → j ≠ gL') := hidI (okX_ne E4.out.1.lt.1 E4.out.2.2.2.2.2.1)
                  have nRA : Hid (∀ j, (okX ok w.heap.size ia) j → j ≠ gR') := hidI (okX_ne E4.out.2.1.lt.1 E4.out.2.2.2.2.1)
                  have nXL : Hid (xb ≠ gL') := hidI (okX_ne E4.out.1.lt.1 E4.out.2.2.2.1 _ (J.out.2.2.2.1.blk hlt))
                  have nXR : Hid (xb ≠ gR') := hidI (nRA.out _ (J.out.2.2.2.1.blk hlt))
                  have nYL : Hid (yb ≠ gL') := hidI (nLB.out _ (J.out.2.2.2.2.1.blk hlt'))
                  have nYR : Hid (yb ≠ gR') := hidI (okX_ne E4.out.2.1.lt.1 E4.out.2.2.2.2.2.2.1 _ (J.out.2.2.2.2.1.blk hlt'))
                  have nls : ls.length ≤ 5000000000000 := by have := mu_len ls; have := J.out.2.2.1; have := GM.out; omega
                  have nrs : rs.length ≤ 5000000000000 := by have := J.out.2.1.1; omega
                  have midL : Hid (∀ (W w7 : World) (g7 c7 : Nat), Below w4.heap.size w4 W → Wait w7 w.heap.size (okX ok w.heap.size ia) (ls ++ [xs[k].l]) g7 c7 → W.grownBy w7 (some gL') → (g7 = gL' ∨ W.heap.size = g7) →
                    (w7.cell? ⟨xb, xo + k * 5 + 4, none⟩ = some (.slice p6 xs[k].l.length q6) ∧ w7.cell? ⟨yb, yo + k * 5 + 4, none⟩ = some (.slice p8 ys[k].l.length q8) ∧ (∀ o, (w7.alloc o).cell? ⟨xb, xo + k * 5 + 4, none⟩ = some (.slice p6 xs[k].l.length q6)) ∧ (∀ o, (w7.alloc o).cell? ⟨yb, yo + k * 5 + 4, none⟩ = some (.slice p8 ys[k].l.length q8))) ∧
                    (∀ nb o, w4.heap.size ≤ nb → W.heap[nb]? = some o → w7.heap[nb]? = some o) ∧ Wait w7 w.heap.size (okX ok' w.heap.size ib) rs gR' cR' ∧ ValsIn w7 (okX ok' w.heap.size ib) ys[k].l (.slice p8 ys[k].l.length q8) ∧ (∀ j, (okX ok' w.heap.size ib) j → j < w7.heap.size) ∧
                    w4.grownBy w7 (some gL') ∧ Wait w7 w.heap.size (okX ok w.heap.size ia) (ls ++ [xs[k].l]) g7 c7 ∧ (g7 = gL' ∨ w4.heap.size ≤ g7)) := by
                    intro W w7 g7 c7 b1 h7 q7 o7
                    have G : w4.grownBy w7 (some gL') := gb_trans (gb_below b1) q7
                    have cx := G.cell s4 (by simpa using nXL.out)
                    have cy := G.cell r4 (by simpa using nYL.out)
                    refine ⟨⟨cx, cy, fun o => cell_bel (bel_alloc w7 o) cx, fun o => cell_bel (bel_alloc w7 o) cy⟩, fun nb o hn ho => (q7.block nb (Array.getElem?_eq_some_iff.1 ho).1 (by simp; have := gL4.out; omega)).trans ho, WR.out.far G nLR.out nLB.out, VY4.out.grown G nLB.out, fun j hj => Nat.lt_of_lt_of_le (LB.out j hj) G.size, G, h7, o7.imp id fun e => by have := b1.size; omega⟩
                  have midR : Hid (∀ (W w7 : World) (g7 c7 : Nat), Below w4.heap.size w4 W → Wait w7 w.heap.size (okX ok' w.heap.size ib) (rs ++ [ys[k].l]) g7 c7 → W.grownBy w7 (some gR') → (g7 = gR' ∨ W.heap.size = g7) →
                    (w7.cell? ⟨xb, xo + k * 5 + 4, none⟩ = some (.slice p6 xs[k].l.length q6) ∧ w7.cell? ⟨yb, yo + k * 5 + 4, none⟩ = some (.slice p8 ys[k].l.length q8) ∧ (∀ o, (w7.alloc o).cell? ⟨xb, xo + k * 5 + 4, none⟩ = some (.slice p6 xs[k].l.length q6)) ∧ (∀ o, (w7.alloc o).cell? ⟨yb, yo + k * 5 + 4, none⟩ = some (.slice p8 ys[k].l.length q8))) ∧
                    (∀ nb o, w4.heap.size ≤ nb → W.heap[nb]? = some o → w7.heap[nb]? = some o) ∧ Wait w7 w.heap.size (okX ok w.heap.size ia) ls gL' cL' ∧ ValsIn w7 (okX ok w.heap.size ia) xs[k].l (.slice p6 xs[k].l.length q6) ∧ (∀ j, (okX ok w.heap.size ia) j → j < w7.heap.size) ∧
                    w4.grownBy w7 (some gR') ∧ Wait w7 w.heap.size (okX ok' w.heap.size ib) (rs ++ [ys[k].l]) g7 c7 ∧ (g7 = gR' ∨ w4.heap.size ≤ g7)) := by
                    intro W w7 g7 c7 b1 h7 q7 o7
                    have G : w4.grownBy w7 (some gR') := gb_trans (gb_below b1) q7
                    have cx := G.cell s4 (by simpa using nXR.out)
                    have cy := G.cell r4 (by simpa using nYR.out)
                    refine ⟨⟨cx, cy, fun o => cell_bel (bel_alloc w7 o) cx, fun o => cell_bel (bel_alloc w7 o) cy⟩, fun nb o hn ho => (q7.block nb (Array.getElem?_eq_some_iff.1 ho).1 (by simp; have := gR4.out; omega)).trans ho, WL.out.far G nRL.out nRA.out, VX4.out.grown G nRA.out, fun j hj => Nat.lt_of_lt_of_le (LA.out j hj) G.size, G, h7, o7.imp id fun e => by have := b1.size; omega⟩
                  have FINL : Hid (∀ (g7 c7 g8 c8 : Nat) (w7 w8 : World), w4.grownBy w7 (some gL') → Wait w7 w.heap.size (okX ok w.heap.size ia) (ls ++ [xs[k].l]) g7 c7 → (g7 = gL' ∨ w4.heap.size ≤ g7) → w7.grownBy w8 (some gR') → Wait w8 w.heap.size (okX ok' w.heap.size ib) (rs ++ [ys[k].l]) g8 c8 → (g8 = gR' ∨ w7.heap.size ≤ g8) →
                      SJ w ok ok' ia ib a b xs ys (.slice (some ⟨xb, xo, none⟩) xs.length xc) (.slice (some ⟨yb, yo, none⟩) ys.length yc) M (k + 1) (.slice (some ⟨g7, 0, none⟩) (ls.length + 1) c7) (.slice (some ⟨g8, 0, none⟩) (rs.length + 1) c8) w8) := by
                    intro g7 c7 g8 c8 w7 w8 q7 h7 o7 q8 h8 o8
                    obtain ⟨j1, j2, j3, j5, j6, j7⟩ := J.out
                    have he := alike_eq HR.out
                    have e4 := cnts_drop hlt
                    have e5 := cnt_eq xs[k]
                    refine ⟨ls ++ [xs[k].l], rs ++ [ys[k].l], by rw [j1, drop_both hlt hlt', snoc_both, he.1, and_assoc], j2.push he.2, by rw [mu_push]; omega, GM.out, ((j5.bel HB4.out).grown q7 ?_).grown q8 nRA.out, ((j6.bel HB4.out).grown q7 nLB.out).grown q8 ?_, g7, g8, c7, c8, by simp, by simp, push_end E4.out q7 h7 o7 q8 h8 o8⟩
                    · exact okX_ne E4.out.1.lt.1 E4.out.2.2.2.1
                    · exact okX_ne E4.out.2.1.lt.1 E4.out.2.2.2.2.2.2.1
                  have FINR : Hid (∀ (g7 c7 g8 c8 : Nat) (w7 w8 : World), w4.grownBy w7 (some gR') → Wait w7 w.heap.size (okX ok' w.heap.size ib) (rs ++ [ys[k].l]) g7 c7 → (g7 = gR' ∨ w4.heap.size ≤ g7) → w7.grownBy w8 (some gL') → Wait w8 w.heap.size (okX ok w.heap.size ia) (ls ++ [xs[k].l]) g8 c8 → (g8 = gL' ∨ w7.heap.size ≤ g8) →
                      SJ w ok ok' ia ib a b xs ys (.slice (some ⟨xb, xo, none⟩) xs.length xc) (.slice (some ⟨yb, yo, none⟩) ys.length yc) M (k + 1) (.slice (some ⟨g8, 0, none⟩) (ls.length + 1) c8) (.slice (some ⟨g7, 0, none⟩) (rs.length + 1) c7) w8) := by
                    intro g7 c7 g8 c8 w7 w8 q7 h7 o7 q8 h8 o8
                    obtain ⟨j1, j2, j3, j5, j6, j7⟩ := J.out
                    have he := alike_eq HR.out
                    have e4 := cnts_drop hlt
                    have e5 := cnt_eq xs[k]
                    refine ⟨ls ++ [xs[k].l], rs ++ [ys[k].l], by rw [j1, drop_both hlt hlt', snoc_both, he.1, and_assoc], j2.push he.2, by rw [mu_push]; omega, GM.out, ((j5.bel HB4.out).grown q7 nRA.out).grown q8 ?_, ((j6.bel HB4.out).grown q7 ?_).grown q8 nLB.out, g8, g7, c8, c7, by simp, by simp, (push_end E4.out.swap q7 h7 o7 q8 h8 o8).swap⟩
                    · exact okX_ne E4.out.1.lt.1 E4.out.2.2.2.1
                    · exact okX_ne E4.out.2.1.lt.1 E4.out.2.2.2.2.2.2.1
                  have s5 : ∀ o, (w4.alloc o).cell? ⟨xb, xo + k * 5 + 4, none⟩ = some (.slice p6 xs[k].l.length q6) := fun o => cell_bel (bel_alloc w4 o) s4
                  have r5 : ∀ o, (w4.alloc o).cell? ⟨yb, yo + k * 5 + 4, none⟩ = some (.slice p8 ys[k].l.length q8) := fun o => cell_bel (bel_alloc w4 o) r4
                  have s6 : ∀ o o', ((w4.alloc o).alloc o').cell? ⟨xb, xo + k * 5 + 4, none⟩ = some (.slice p6 xs[k].l.length q6) := fun o o' => cell_bel (bel_alloc _ o') (s5 o)
                  have r6 : ∀ o o', ((w4.alloc o).alloc o').cell? ⟨yb, yo + k * 5 + 4, none⟩ = some (.slice p8 ys[k].l.length q8) := fun o o' => cell_bel (bel_alloc _ o') (r5 o)
                  clear h0
                  go_upto_region 12 with fail
                  go_region_held3 (fun w' => w'.cell? ⟨xb, xo + k * 5 + 4, none⟩ = some (.slice p6 xs[k].l.length q6) ∧ w'.cell? ⟨yb, yo + k * 5 + 4, none⟩ = some (.slice p8 ys[k].l.length q8)) (go_keep)
                    (first | (refine step_push (by rfl) _ _ (by rfl) (by rfl) (by rfl) (WL.out.bel (by first | exact Below.refl _ _ | exact bel_al (Below.refl _ _) _ | exact bel_al (bel_al (Below.refl _ _) _) _ | exact bel_dr (Below.refl _ _) | exact bel_dr (bel_al (Below.refl _ _) _) | exact bel_dr (bel_al (bel_al (Below.refl _ _) _) _) | exact bel_dr (bel_dr (Below.refl _ _)) | exact bel_dr (bel_dr (bel_al (Below.refl _ _) _)) | exact bel_dr (bel_dr (bel_al (bel_al (Below.refl _ _) _) _)) | exact bel_dr (bel_dr (bel_dr (Below.refl _ _))) | exact bel_dr (bel_dr (bel_dr (bel_al (Below.refl _ _) _))) | exact bel_dr (bel_dr (bel_dr (bel_al (bel_al (Below.refl _ _) _) _))))) (by first | exact heap_alloc_new _ _ | exact h2a _ _ _ | exact h2b _ _ _) (VX4.out.bel (by first | exact Below.refl _ _ | exact bel_al (Below.refl _ _) _ | exact bel_al (bel_al (Below.refl _ _) _) _ | exact bel_dr (Below.refl _ _) | exact bel_dr (bel_al (Below.refl _ _) _) | exact bel_dr (bel_al (bel_al (Below.refl _ _) _) _) | exact bel_dr (bel_dr (Below.refl _ _)) | exact bel_dr (bel_dr (bel_al (Below.refl _ _) _)) | exact bel_dr (bel_dr (bel_al (bel_al (Below.refl _ _) _) _)) | exact bel_dr (bel_dr (bel_dr (Below.refl _ _))) | exact bel_dr (bel_dr (bel_dr (bel_al (Below.refl _ _) _))) | exact bel_dr (bel_dr (bel_dr (bel_al (bel_al (Below.refl _ _) _) _))))) (by omega) (fun j hj => Nat.lt_of_lt_of_le (LA.out j hj) (szle (a := w4) (by first | exact Below.refl _ _ | exact bel_al (Below.refl _ _) _ | exact bel_al (bel_al (Below.refl _ _) _) _ | exact bel_dr (Below.refl _ _) | exact bel_dr (bel_al (Below.refl _ _) _) | exact bel_dr (bel_al (bel_al (Below.refl _ _) _) _) | exact bel_dr (bel_dr (Below.refl _ _)) | exact bel_dr (bel_dr (bel_al (Below.refl _ _) _)) | exact bel_dr (bel_dr (bel_al (bel_al (Below.refl _ _) _) _)) | exact bel_dr (bel_dr (bel_dr (Below.refl _ _))) | exact bel_dr (bel_dr (bel_dr (bel_al (Below.refl _ _) _))) | exact bel_dr (bel_dr (bel_dr (bel_al (bel_al (Below.refl _ _) _) _)))))) ?_; intro g7 c7 w7 h7 q7 o7; have P7 : Hid _ := hidI (midL.out _ _ _ _ (by first | exact Below.refl _ _ | exact bel_al (Below.refl _ _) _ | exact bel_al (bel_al (Below.refl _ _) _) _ | exact bel_dr (Below.refl _ _) | exact bel_dr (bel_al (Below.refl _ _) _) | exact bel_dr (bel_al (bel_al (Below.refl _ _) _) _) | exact bel_dr (bel_dr (Below.refl _ _)) | exact bel_dr (bel_dr (bel_al (Below.refl _ _) _)) | exact bel_dr (bel_dr (bel_al (bel_al (Below.refl _ _) _) _)) | exact bel_dr (bel_dr (bel_dr (Below.refl _ _))) | exact bel_dr (bel_dr (bel_dr (bel_al (Below.refl _ _) _))) | exact bel_dr (bel_dr (bel_dr (bel_al (bel_al (Below.refl _ _) _) _)))) h7 q7 o7); obtain ⟨v1, v2, v3, v4⟩ := P7.out.1; have N7 : Hid _ := hidI P7.out.2.1; clear h7 q7 o7) | (refine step_push (by rfl) _ _ (by rfl) (by rfl) (by rfl) (P7.out.2.2.1.bel (by first | exact Below.refl _ _ | exact bel_al (Below.refl _ _) _ | exact bel_al (bel_al (Below.refl _ _) _) _ | exact bel_dr (Below.refl _ _) | exact bel_dr (bel_al (Below.refl _ _) _) | exact bel_dr (bel_al (bel_al (Below.refl _ _) _) _) | exact bel_dr (bel_dr (Below.refl _ _)) | exact bel_dr (bel_dr (bel_al (Below.refl _ _) _)) | exact bel_dr (bel_dr (bel_al (bel_al (Below.refl _ _) _) _)) | exact bel_dr (bel_dr (bel_dr (Below.refl _ _))) | exact bel_dr (bel_dr (bel_dr (bel_al (Below.refl _ _) _))) | exact bel_dr (bel_dr (bel_dr (bel_al (bel_al (Below.refl _ _) _) _))))) (by first | exact heap_alloc_new _ _ | exact N7.out _ _ (by simp) (heap_alloc_new _ _) | exact N7.out _ _ (by simp) (h2a _ _ _) | exact N7.out _ _ (by simp) (h2b _ _ _)) (P7.out.2.2.2.1.bel (by first | exact Below.refl _ _ | exact bel_al (Below.refl _ _) _ | exact bel_al (bel_al (Below.refl _ _) _) _ | exact bel_dr (Below.refl _ _) | exact bel_dr (bel_al (Below.refl _ _) _) | exact bel_dr (bel_al (bel_al (Below.refl _ _) _) _) | exact bel_dr (bel_dr (Below.refl _ _)) | exact bel_dr (bel_dr (bel_al (Below.refl _ _) _)) | exact bel_dr (bel_dr (bel_al (bel_al (Below.refl _ _) _) _)) | exact bel_dr (bel_dr (bel_dr (Below.refl _ _))) | exact bel_dr (bel_dr (bel_dr (bel_al (Below.refl _ _) _))) | exact bel_dr (bel_dr (bel_dr (bel_al (bel_al (Below.refl _ _) _) _))))) (by omega) (fun j hj => Nat.lt_of_lt_of_le (P7.out.2.2.2.2.1 j hj) (szle (a := w7) (by first | exact Below.refl _ _ | exact bel_al (Below.refl _ _) _ | exact bel_al (bel_al (Below.refl _ _) _) _ | exact bel_dr (Below.refl _ _) | exact bel_dr (bel_al (Below.refl _ _) _) | exact bel_dr (bel_al (bel_al (Below.refl _ _) _) _) | exact bel_dr (bel_dr (Below.refl _ _)) | exact bel_dr (bel_dr (bel_al (Below.refl _ _) _)) | exact bel_dr (bel_dr (bel_al (bel_al (Below.refl _ _) _) _)) | exact bel_dr (bel_dr (bel_dr (Below.refl _ _))) | exact bel_dr (bel_dr (bel_dr (bel_al (Below.refl _ _) _))) | exact bel_dr (bel_dr (bel_dr (bel_al (bel_al (Below.refl _ _) _) _)))))) ?_; intro g8 c8 w8 h8 q8 o8; have P8 := hidI (two_up (a := w7) (by first | exact Below.refl _ _ | exact bel_al (Below.refl _ _) _ | exact bel_al (bel_al (Below.refl _ _) _) _ | exact bel_dr (Below.refl _ _) | exact bel_dr (bel_al (Below.refl _ _) _) | exact bel_dr (bel_al (bel_al (Below.refl _ _) _) _) | exact bel_dr (bel_dr (Below.refl _ _)) | exact bel_dr (bel_dr (bel_al (Below.refl _ _) _)) | exact bel_dr (bel_dr (bel_al (bel_al (Below.refl _ _) _) _)) | exact bel_dr (bel_dr (bel_dr (Below.refl _ _))) | exact bel_dr (bel_dr (bel_dr (bel_al (Below.refl _ _) _))) | exact bel_dr (bel_dr (bel_dr (bel_al (bel_al (Below.refl _ _) _) _)))) q8 o8); have P9 := hidI h8; have v5 := P8.out.1.cell v1 (by simpa using nXL.out); have v6 := P8.out.1.cell v2 (by simpa using nYL.out); clear h8 q8 o8) | (refine step_push (by rfl) _ _ (by rfl) (by rfl) (by rfl) (WR.out.bel (by first | exact Below.refl _ _ | exact bel_al (Below.refl _ _) _ | exact bel_al (bel_al (Below.refl _ _) _) _ | exact bel_dr (Below.refl _ _) | exact bel_dr (bel_al (Below.refl _ _) _) | exact bel_dr (bel_al (bel_al (Below.refl _ _) _) _) | exact bel_dr (bel_dr (Below.refl _ _)) | exact bel_dr (bel_dr (bel_al (Below.refl _ _) _)) | exact bel_dr (bel_dr (bel_al (bel_al (Below.refl _ _) _) _)) | exact bel_dr (bel_dr (bel_dr (Below.refl _ _))) | exact bel_dr (bel_dr (bel_dr (bel_al (Below.refl _ _) _))) | exact bel_dr (bel_dr (bel_dr (bel_al (bel_al (Below.refl _ _) _) _))))) (by first | exact heap_alloc_new _ _ | exact h2a _ _ _ | exact h2b _ _ _) (VY4.out.bel (by first | exact Below.refl _ _ | exact bel_al (Below.refl _ _) _ | exact bel_al (bel_al (Below.refl _ _) _) _ | exact bel_dr (Below.refl _ _) | exact bel_dr (bel_al (Below.refl _ _) _) | exact bel_dr (bel_al (bel_al (Below.refl _ _) _) _) | exact bel_dr (bel_dr (Below.refl _ _)) | exact bel_dr (bel_dr (bel_al (Below.refl _ _) _)) | exact bel_dr (bel_dr (bel_al (bel_al (Below.refl _ _) _) _)) | exact bel_dr (bel_dr (bel_dr (Below.refl _ _))) | exact bel_dr (bel_dr (bel_dr (bel_al (Below.refl _ _) _))) | exact bel_dr (bel_dr (bel_dr (bel_al (bel_al (Below.refl _ _) _) _))))) (by omega) (fun j hj => Nat.lt_of_lt_of_le (LB.out j hj) (szle (a := w4) (by first | exact Below.refl _ _ | exact bel_al (Below.refl _ _) _ | exact bel_al (bel_al (Below.refl _ _) _) _ | exact bel_dr (Below.refl _ _) | exact bel_dr (bel_al (Below.refl _ _) _) | exact bel_dr (bel_al (bel_al (Below.refl _ _) _) _) | exact bel_dr (bel_dr (Below.refl _ _)) | exact bel_dr (bel_dr (bel_al (Below.refl _ _) _)) | exact bel_dr (bel_dr (bel_al (bel_al (Below.refl _ _) _) _)) | exact bel_dr (bel_dr (bel_dr (Below.refl _ _))) | exact bel_dr (bel_dr (bel_dr (bel_al (Below.refl _ _) _))) | exact bel_dr (bel_dr (bel_dr (bel_al (bel_al (Below.refl _ _) _) _)))))) ?_; intro g7 c7 w7 h7 q7 o7; have P7 : Hid _ := hidI (midR.out _ _ _ _ (by first | exact Below.refl _ _ | exact bel_al (Below.refl _ _) _ | exact bel_al (bel_al (Below.refl _ _) _) _ | exact bel_dr (Below.refl _ _) | exact bel_dr (bel_al (Below.refl _ _) _) | exact bel_dr (bel_al (bel_al (Below.refl _ _) _) _) | exact bel_dr (bel_dr (Below.refl _ _)) | exact bel_dr (bel_dr (bel_al (Below.refl _ _) _)) | exact bel_dr (bel_dr (bel_al (bel_al (Below.refl _ _) _) _)) | exact bel_dr (bel_dr (bel_dr (Below.refl _ _))) | exact bel_dr (bel_dr (bel_dr (bel_al (Below.refl _ _) _))) | exact bel_dr (bel_dr (bel_dr (bel_al (bel_al (Below.refl _ _) _) _)))) h7 q7 o7); obtain ⟨v1, v2, v3, v4⟩ := P7.out.1; have N7 : Hid _ := hidI P7.out.2.1; clear h7 q7 o7) | (refine step_push (by rfl) _ _ (by rfl) (by rfl) (by rfl) (P7.out.2.2.1.bel (by first | exact Below.refl _ _ | exact bel_al (Below.refl _ _) _ | exact bel_al (bel_al (Below.refl _ _) _) _ | exact bel_dr (Below.refl _ _) | exact bel_dr (bel_al (Below.refl _ _) _) | exact bel_dr (bel_al (bel_al (Below.refl _ _) _) _) | exact bel_dr (bel_dr (Below.refl _ _)) | exact bel_dr (bel_dr (bel_al (Below.refl _ _) _)) | exact bel_dr (bel_dr (bel_al (bel_al (Below.refl _ _) _) _)) | exact bel_dr (bel_dr (bel_dr (Below.refl _ _))) | exact bel_dr (bel_dr (bel_dr (bel_al (Below.refl _ _) _))) | exact bel_dr (bel_dr (bel_dr (bel_al (bel_al (Below.refl _ _) _) _))))) (by first | exact heap_alloc_new _ _ | exact N7.out _ _ (by simp) (heap_alloc_new _ _) | exact N7.out _ _ (by simp) (h2a _ _ _) | exact N7.out _ _ (by simp) (h2b _ _ _)) (P7.out.2.2.2.1.bel (by first | exact Below.refl _ _ | exact bel_al (Below.refl _ _) _ | exact bel_al (bel_al (Below.refl _ _) _) _ | exact bel_dr (Below.refl _ _) | exact bel_dr (bel_al (Below.refl _ _) _) | exact bel_dr (bel_al (bel_al (Below.refl _ _) _) _) | exact bel_dr (bel_dr (Below.refl _ _)) | exact bel_dr (bel_dr (bel_al (Below.refl _ _) _)) | exact bel_dr (bel_dr (bel_al (bel_al (Below.refl _ _) _) _)) | exact bel_dr (bel_dr (bel_dr (Below.refl _ _))) | exact bel_dr (bel_dr (bel_dr (bel_al (Below.refl _ _) _))) | exact bel_dr (bel_dr (bel_dr (bel_al (bel_al (Below.refl _ _) _) _))))) (by omega) (fun j hj => Nat.lt_of_lt_of_le (P7.out.2.2.2.2.1 j hj) (szle (a := w7) (by first | exact Below.refl _ _ | exact bel_al (Below.refl _ _) _ | exact bel_al (bel_al (Below.refl _ _) _) _ | exact bel_dr (Below.refl _ _) | exact bel_dr (bel_al (Below.refl _ _) _) | exact bel_dr (bel_al (bel_al (Below.refl _ _) _) _) | exact bel_dr (bel_dr (Below.refl _ _)) | exact bel_dr (bel_dr (bel_al (Below.refl _ _) _)) | exact bel_dr (bel_dr (bel_al (bel_al (Below.refl _ _) _) _)) | exact bel_dr (bel_dr (bel_dr (Below.refl _ _))) | exact bel_dr (bel_dr (bel_dr (bel_al (Below.refl _ _) _))) | exact bel_dr (bel_dr (bel_dr (bel_al (bel_al (Below.refl _ _) _) _)))))) ?_; intro g8 c8 w8 h8 q8 o8; have P8 := hidI (two_up (a := w7) (by first | exact Below.refl _ _ | exact bel_al (Below.refl _ _) _ | exact bel_al (bel_al (Below.refl _ _) _) _ | exact bel_dr (Below.refl _ _) | exact bel_dr (bel_al (Below.refl _ _) _) | exact bel_dr (bel_al (bel_al (Below.refl _ _) _) _) | exact bel_dr (bel_dr (Below.refl _ _)) | exact bel_dr (bel_dr (bel_al (Below.refl _ _) _)) | exact bel_dr (bel_dr (bel_al (bel_al (Below.refl _ _) _) _)) | exact bel_dr (bel_dr (bel_dr (Below.refl _ _))) | exact bel_dr (bel_dr (bel_dr (bel_al (Below.refl _ _) _))) | exact bel_dr (bel_dr (bel_dr (bel_al (bel_al (Below.refl _ _) _) _)))) q8 o8); have P9 := hidI h8; have v5 := P8.out.1.cell v1 (by simpa using nXR.out); have v6 := P8.out.1.cell v2 (by simpa using nYR.out); clear h8 q8 o8))
                  all_goals
                    go_wp2_with fail
                    go_roundg (xs.length - (k + 1))
                    case measure => rw [GI.out]; omega
                    case rel => first
                      | exact ⟨k + 1, hlt, rfl, by go_num, FINL.out _ _ _ _ _ _ P7.out.2.2.2.2.2.1 P7.out.2.2.2.2.2.2.1 P7.out.2.2.2.2.2.2.2 P8.out.1 P9.out P8.out.2⟩
                      | exact ⟨k + 1, hlt, rfl, by go_num, FINR.out _ _ _ _ _ _ P7.out.2.2.2.2.2.1 P7.out.2.2.2.2.2.2.1 P7.out.2.2.2.2.2.2.2 P8.out.1 P9.out P8.out.2⟩
          · have FIN : Hid ((∃ ls2 rs2, (a = b ↔ ls2 = rs2) ∧ PL ls2 rs2 ∧ mu ls = mu ls2 ∧ mu ls2 ≤ 2000000000001 ∧ SI w ok ok' ia ib ls2 rs2 (.slice (some ⟨gL', 0, none⟩) ls.length cL') (.slice (some ⟨gR', 0, none⟩) rs.length cR') wr) ∧ mu ls < M) := by
              obtain ⟨j1, j2, j3, j5, j6, j7⟩ := J.out
              have l1 : xs.drop k = [] := List.drop_eq_nil_of_le (by omega)
              have l2 : ys.drop k = [] := List.drop_eq_nil_of_le (by have := HXY.out; omega)
              have := GM.out
              exact hidI ⟨⟨ls, rs, by rw [j1, l1, l2]; simp, j2, rfl, by omega, gL', gR', cL', cR', rfl, rfl, j7⟩, by omega⟩
            have d1 : ¬ (k : Int) < (xs.length : Int) := by omega
            clear i5 i6 J
            go_wp2_with fail
            go_roundg (mu ls)
            case measure => rw [GKM.out]; exact FIN.out.2
            case rel => exact FIN.out.1
end Go.Proofs.YtaifciobaapehaaDoor

/- Same of package json does what is said of it. -/
set_option linter.unusedSimpArgs false
set_option linter.unusedVariables false
namespace Go.Proofs.YtaifciobaapehaaDoor
open Go.RowKit

theorem sameJ : SameJ := fun w ok ok' a b va vb ha hb hn => (same_run w ok ok' a b va vb ha hb (by have := nice_cnt hn; omega)).mono fun _ _ h => h
end Go.Proofs.YtaifciobaapehaaDoor

/- Two operations on an empty list, plainly. -/
set_option linter.unusedSimpArgs false
set_option linter.unusedVariables false
namespace Go.Proofs.YtaifciobaapehaaDoor
open Go.RowKit

def paO1 : OpT := ⟨1, [47, 45], [], ⟨1, 0, [], [], []⟩⟩
def paO2 : OpT := ⟨5, [47, 48], [47, 48], ⟨0, 0, [], [], []⟩⟩
def paT : V := ⟨4, 0, [], [], []⟩
def paT1 : V := ⟨4, 0, [], [], [⟨1, 0, [], [], []⟩]⟩
def paT2 : V := ⟨4, 0, [], [], [⟨1, 0, [], [], []⟩, ⟨1, 0, [], [], []⟩]⟩
def paF (t : V) (o : OpT) : V × Int := if o.kind = 1 then layR addedV o.path (splitP o.path) t o.value else copiedR t o.frm o.path
theorem pa_split1 : splitP [47, 45] = ([[45]], 0) := by
  have e : joinP [[45]] = [47, 45] := by unfold joinP; rw [List.flatMap_cons, marked_eq]; rfl
  have := split_join [[45]] (by rw [e]; decide)
  rwa [e] at this
theorem pa_split2 : splitP [47, 48] = ([[48]], 0) := by
  have e : joinP [[48]] = [47, 48] := by unfold joinP; rw [List.flatMap_cons, marked_eq]; rfl
  have := split_join [[48]] (by rw [e]; decide)
  rwa [e] at this
theorem pa_step1 : paF paT paO1 = (paT1, 0) := by
  show layR addedV [47, 45] (splitP [47, 45]) paT ⟨1, 0, [], [], []⟩ = _
  rw [pa_split1]
  kernel_rfl
theorem pa_get : getR (splitP paO2.frm) paT1 = (⟨1, 0, [], [], []⟩, 0) := by
  show getR (splitP [47, 48]) paT1 = _
  rw [pa_split2]
  kernel_rfl
theorem pa_step2 : paF paT1 paO2 = (paT2, 0) := by
  show copiedR paT1 paO2.frm [47, 48] = _
  unfold copiedR
  rw [pa_get]
  show layR addedV [47, 48] (splitP [47, 48]) paT1 ⟨1, 0, [], [], []⟩ = _
  rw [pa_split2]
  kernel_rfl
theorem pa_all : allR paF [paO1, paO2] paT = (paT2, 0) := by
  unfold allR
  have e : runR paF [paO1, paO2] paT = (paT2, 0) := by simp [runR, pa_step1, pa_step2]
  rw [if_neg (by simp), e]
  simp
theorem pa_ok : AllOk paF [paO1, paO2] paT := by
  refine ⟨one_add paO1 paT rfl, fun _ => ?_⟩
  rw [pa_step1]
  refine ⟨?_, fun _ => trivial⟩
  exact one_copy paO2 paT1 rfl
theorem pa_i64 (n : Int) (h1 : 0 ≤ n) (h2 : n ≤ 100) : I64 n := by unfold I64; omega
theorem cell_block {w : World} {b : Nat} {cs : Array Value} {t : TypeId} (h : w.heap[b]? = some (.cells cs t)) (i : Nat) : w.cell? ⟨b, i, none⟩ = cs[i]? := by
  simp [World.cell?, h]
theorem pa_ops (w : World) (o : Obj) (ho : o = .cells #[.int .i64 1, .string ⟨#[47, 45]⟩, .string ⟨#[]⟩, .int .i64 1, .int .i64 0, .string ⟨#[]⟩, .slice none 0 0, .slice none 0 0, .int .i64 5, .string ⟨#[47, 48]⟩, .string ⟨#[47, 48]⟩, .int .i64 0, .int .i64 0, .string ⟨#[]⟩, .slice none 0 0, .slice none 0 0] 43) :
    OpsAre (w.alloc o) (fun _ => True) [paO1, paO2] (.slice (some ⟨w.heap.size, 0, none⟩) 2 2) := by
  have hb := heap_alloc_new w o
  have c : ∀ i, (w.alloc o).cell? ⟨w.heap.size, i, none⟩ = (#[Value.int .i64 1, .string ⟨#[47, 45]⟩, .string ⟨#[]⟩, .int .i64 1, .int .i64 0, .string ⟨#[]⟩, .slice none 0 0, .slice none 0 0, .int .i64 5, .string ⟨#[47, 48]⟩, .string ⟨#[47, 48]⟩, .int .i64 0, .int .i64 0, .string ⟨#[]⟩, .slice none 0 0, .slice none 0 0] : Array Value)[i]? := by
    intro i
    rw [ho] at hb ⊢
    exact cell_block hb i
  refine ⟨by simp, .inr ⟨w.heap.size, 0, 2, rfl, by simp, by simp, fun i o' h => ?_⟩⟩
  match i, h with
  | 0, h =>
    simp only [List.getElem?_cons_zero, Option.some.injEq] at h
    subst h
    exact ⟨_, _, _, _, _, _, _, _, trivial, (c 0).trans rfl, (c 1).trans rfl, (c 2).trans rfl, (c 3).trans rfl, (c 4).trans rfl, (c 5).trans rfl, (c 6).trans rfl, (c 7).trans rfl, pa_i64 1 (by omega) (by omega), by decide, by decide, none, none, 0, 0, rfl, in_leaf _ _ 1 0 (pa_i64 _ (by omega) (by omega)) (pa_i64 _ (by omega) (by omega))⟩
  | 1, h =>
    simp only [List.getElem?_cons_succ, List.getElem?_cons_zero, Option.some.injEq] at h
    subst h
    exact ⟨_, _, _, _, _, _, _, _, trivial, (c 8).trans rfl, (c 9).trans rfl, (c 10).trans rfl, (c 11).trans rfl, (c 12).trans rfl, (c 13).trans rfl, (c 14).trans rfl, (c 15).trans rfl, pa_i64 5 (by omega) (by omega), by decide, by decide, none, none, 0, 0, rfl, in_leaf _ _ 0 0 (pa_i64 _ (by omega) (by omega)) (pa_i64 _ (by omega) (by omega))⟩

end Go.Proofs.YtaifciobaapehaaDoor

/- What patches of package stairwelllaw does. -/
set_option linter.unusedSimpArgs false
set_option linter.unusedVariables false
namespace Go.Proofs.YtaifciobaapehaaDoor
open Go.RowKit

set_option maxRecDepth 100000 in
set_option maxHeartbeats 4000000 in
theorem lpatches_at (w : World) (hM : GlobM w) : Calls Tryd.prog 18 #[] w fun e w' => e = .returned (.bool true) ∧ Below w.heap.size w w' := by
  have HMM := hidI hM
  clear hM
  go_enter Tryd.func18, Tryd.ntmps18
  go_wp2_with fail
  refine (all_is paF _ (fun _ => True) paT [paO1, paO2] _ _ (by exact in_leaf _ _ 4 0 (pa_i64 _ (by omega) (by omega)) (pa_i64 _ (by omega) (by omega))) (by exact pa_ops w _ rfl) (by exact HMM.out.bel (bel_alloc _ _)) (fun _ => pa_ok)).mono ?_
  rintro e w1 ⟨r, rfl, hb1, hr⟩
  rw [pa_all] at hr ⊢
  simp only at hr ⊢
  obtain ⟨T, hT, hl⟩ : ∃ T, T = paT2 ∧ T.l.length = 2 := ⟨_, rfl, rfl⟩
  rw [← hT] at hr
  clear hT
  obtain ⟨a5, a6, c5, c6, rfl⟩ := hr.form
  have q2 : ((T.l.length : Int) == 2) = true := by rw [hl]; rfl
  have HB := hidI (bel_trans (bel_alloc w _) (bel_trans hb1 (bel_alloc w1 (.cells #[.int .i64 T.kind, .int .i64 T.n, .string ⟨T.s.toArray⟩, .slice a5 T.keys.length c5, .slice a6 T.l.length c6] 25))))
  obtain ⟨-, l2, -⟩ := hr.lens
  clear hb1 hr hl
  go_wp2_with fail
  go_ret
  exact ⟨rfl, HB.out⟩
end Go.Proofs.YtaifciobaapehaaDoor

/- What CopyValue of the reference does, so told. -/
set_option linter.unusedSimpArgs false
set_option linter.unusedVariables false
namespace Go.Proofs.YtaifciobaapehaaDoor
open Go.RowKit

theorem rcopy_is (w : World) (ok : Nat → Prop) (t : V) (v : Value) (h : In w ok t v) (hN : siz t ≤ 1000000000000) :
    Calls Tryd.prog 6 #[v] w fun e w' => ∃ r, e = .returned r ∧ Below w.heap.size w w' ∧ In w' (fun k => w.heap.size ≤ k) t r := by
  obtain ⟨d, h⟩ := h
  refine (copyValue_all d w ok t v h hN).mono ?_
  rintro e w' ⟨r, rfl, hb, hr⟩
  exact ⟨r, rfl, hb, hr.is⟩
end Go.Proofs.YtaifciobaapehaaDoor

/- The walk of the law PatchDoes. -/
set_option linter.unusedSimpArgs false
set_option linter.unusedVariables false
namespace Go.Proofs.YtaifciobaapehaaDoor
open Go.RowKit

theorem OpIn.grown {w w' : World} {ok : Nat → Prop} {g : Nat} {o : OpT} {v : Value} (h : OpIn w ok o v) (hg : w.grownBy w' (some g)) (hr : ∀ k, ok k → k ≠ g) : OpIn w' ok o v := by
  obtain ⟨h1, h2, h3, a7, a8, c7, c8, e, hi⟩ := h
  exact ⟨h1, h2, h3, a7, a8, c7, c8, e, hi.grown hg hr⟩
theorem OpsAre.imp {w w' : World} {ok ok' : Nat → Prop} {os : List OpT} {v : Value} (h : OpsAre w ok os v) (hb : ∀ b x u, ok b → w.cell? ⟨b, x, none⟩ = some u → ok' b ∧ w'.cell? ⟨b, x, none⟩ = some u) (hi : ∀ o u, OpIn w ok o u → OpIn w' ok' o u) : OpsAre w' ok' os v := by
  refine ⟨h.1, ?_⟩
  rcases h.2 with h0 | ⟨b, off, c, e, h1, h2, h3⟩
  · exact .inl h0
  · refine .inr ⟨b, off, c, e, h1, h2, fun i o ho => ?_⟩
    obtain ⟨v0, v1, v2, v3, v4, v5, v6, v7, hk, g0, g1, g2, g3, g4, g5, g6, g7, g8⟩ := h3 i o ho
    exact ⟨v0, v1, v2, v3, v4, v5, v6, v7, (hb _ _ _ hk g0).1, (hb _ _ _ hk g0).2, (hb _ _ _ hk g1).2, (hb _ _ _ hk g2).2, (hb _ _ _ hk g3).2, (hb _ _ _ hk g4).2, (hb _ _ _ hk g5).2, (hb _ _ _ hk g6).2, (hb _ _ _ hk g7).2, hi _ _ g8⟩
theorem OpsAre.weak {w : World} {ok ok' : Nat → Prop} {os : List OpT} {v : Value} (h : OpsAre w ok os v) (hk : ∀ k, ok k → ok' k) : OpsAre w ok' os v := h.imp (fun _ _ _ h1 h2 => ⟨hk _ h1, h2⟩) (fun _ _ h => h.weak hk)
theorem OpsAre.low {w : World} {ok : Nat → Prop} {os : List OpT} {v : Value} (h : OpsAre w ok os v) : OpsAre w (fun k => ok k ∧ k < w.heap.size) os v :=
  h.imp (fun b x u h1 h2 => ⟨⟨h1, by
    rcases Nat.lt_or_ge b w.heap.size with h9 | h9
    · exact h9
    · simp [World.cell?, Array.getElem?_eq_none h9] at h2⟩, h2⟩) (fun _ _ h => h.low)
theorem OpsAre.grown {w w' : World} {ok : Nat → Prop} {g : Nat} {os : List OpT} {v : Value} (h : OpsAre w ok os v) (hg : w.grownBy w' (some g)) (hr : ∀ k, ok k → k ≠ g) : OpsAre w' ok os v :=
  h.imp (fun b x u h1 h2 => ⟨h1, hg.cell h2 (by simpa using hr b h1)⟩) (fun _ _ h => h.grown hg hr)
/- Up to the answer of All: the values, their boxes; M is where the region begins. -/
def QA (w : World) (t : V) (os : List OpT) (a1 a2 b1 b2 : Option Addr) (c1 c2 e1 e2 : Nat) (oa : Option Addr) (oc : Nat) (gc M : Nat) (W : World) : Prop :=
  BoxIs W w.heap.size (.int .i64 t.kind) (.int .i64 t.n) (.string ⟨t.s.toArray⟩) (.slice a1 t.keys.length c1) (.slice a2 t.l.length c2) ∧ BoxIs W gc (.int .i64 t.kind) (.int .i64 t.n) (.string ⟨t.s.toArray⟩) (.slice b1 t.keys.length e1) (.slice b2 t.l.length e2) ∧ In W (fun k => k < M) t (.agg #[.int .i64 t.kind, .int .i64 t.n, .string ⟨t.s.toArray⟩, .slice a1 t.keys.length c1, .slice a2 t.l.length c2]) ∧ In W (fun k => k < M) t (.agg #[.int .i64 t.kind, .int .i64 t.n, .string ⟨t.s.toArray⟩, .slice b1 t.keys.length e1, .slice b2 t.l.length e2]) ∧ OpsAre W (fun k => k < M) os (.slice oa os.length oc) ∧ Below w.heap.size w W ∧ M ≤ W.heap.size
theorem QA.bel {w W W' : World} {t : V} {os : List OpT} {a1 a2 b1 b2 oa : Option Addr} {c1 c2 e1 e2 oc : Nat} {gc M : Nat} (h : QA w t os a1 a2 b1 b2 c1 c2 e1 e2 oa oc gc M W) (hb : Below W.heap.size W W') : QA w t os a1 a2 b1 b2 c1 c2 e1 e2 oa oc gc M W' :=
  ⟨box_bel hb h.1, box_bel hb h.2.1, h.2.2.1.bel hb, h.2.2.2.1.bel hb, h.2.2.2.2.1.bel hb, bel_trans h.2.2.2.2.2.1 hb, Nat.le_trans h.2.2.2.2.2.2 hb.size⟩
theorem QA.fresh {w W : World} {t : V} {os : List OpT} {a1 a2 b1 b2 oa : Option Addr} {c1 c2 e1 e2 oc : Nat} {gc M : Nat} (_ : QA w t os a1 a2 b1 b2 c1 c2 e1 e2 oa oc gc M (W.alloc (.cells #[.int .i64 0, .int .i64 0, .string ⟨#[]⟩, .slice none 0 0, .slice none 0 0] 25))) : BoxIs (W.alloc (.cells #[.int .i64 0, .int .i64 0, .string ⟨#[]⟩, .slice none 0 0, .slice none 0 0] 25)) W.heap.size (.int .i64 0) (.int .i64 0) (.string ⟨#[]⟩) (.slice none 0 0) (.slice none 0 0) := heap_alloc_new W _
theorem QA.fresh2 {w W : World} {t : V} {os : List OpT} {a1 a2 b1 b2 oa : Option Addr} {c1 c2 e1 e2 oc : Nat} {gc M : Nat} (_ : QA w t os a1 a2 b1 b2 c1 c2 e1 e2 oa oc gc M (W.alloc (.cells #[.int .i64 0, .int .i64 0, .string ⟨#[]⟩, .slice none 0 0, .slice none 0 0] 25)).drew) : BoxIs (W.alloc (.cells #[.int .i64 0, .int .i64 0, .string ⟨#[]⟩, .slice none 0 0, .slice none 0 0] 25)).drew W.heap.size (.int .i64 0) (.int .i64 0) (.string ⟨#[]⟩) (.slice none 0 0) (.slice none 0 0) := heap_alloc_new W _
/- With the answer of All in its box g6. -/
def QB (w : World) (t z : V) (os : List OpT) (a1 a2 b1 b2 : Option Addr) (c1 c2 e1 e2 : Nat) (oa : Option Addr) (oc : Nat) (za zb : Option Addr) (zc zd gc g6 : Nat) (W : World) : Prop :=
  (BoxIs W w.heap.size (.int .i64 t.kind) (.int .i64 t.n) (.string ⟨t.s.toArray⟩) (.slice a1 t.keys.length c1) (.slice a2 t.l.length c2) ∧ BoxIs W gc (.int .i64 t.kind) (.int .i64 t.n) (.string ⟨t.s.toArray⟩) (.slice b1 t.keys.length e1) (.slice b2 t.l.length e2) ∧ BoxIs W g6 (.int .i64 z.kind) (.int .i64 z.n) (.string ⟨z.s.toArray⟩) (.slice za z.keys.length zc) (.slice zb z.l.length zd)) ∧ (In W (fun k => k ≠ g6) t (.agg #[.int .i64 t.kind, .int .i64 t.n, .string ⟨t.s.toArray⟩, .slice a1 t.keys.length c1, .slice a2 t.l.length c2]) ∧ In W (fun k => k ≠ g6) t (.agg #[.int .i64 t.kind, .int .i64 t.n, .string ⟨t.s.toArray⟩, .slice b1 t.keys.length e1, .slice b2 t.l.length e2]) ∧ OpsAre W (fun k => k ≠ g6) os (.slice oa os.length oc) ∧ In W (fun k => k ≠ g6) z (.agg #[.int .i64 z.kind, .int .i64 z.n, .string ⟨z.s.toArray⟩, .slice za z.keys.length zc, .slice zb z.l.length zd])) ∧ Below w.heap.size w W ∧ w.heap.size < gc ∧ gc < g6 ∧ g6 < W.heap.size
theorem qb_new {w W : World} {t z : V} {os : List OpT} {a1 a2 b1 b2 oa : Option Addr} {c1 c2 e1 e2 oc : Nat} {za zb : Option Addr} {zc zd : Nat} {gc M : Nat} {okz : Nat → Prop} (h : QA w t os a1 a2 b1 b2 c1 c2 e1 e2 oa oc gc M W) (hg : w.heap.size < gc) (hgM : gc < M) (hz : In W okz z (.agg #[.int .i64 z.kind, .int .i64 z.n, .string ⟨z.s.toArray⟩, .slice za z.keys.length zc, .slice zb z.l.length zd])) (hz2 : ∀ k, okz k → k < W.heap.size) :
    QB w t z os a1 a2 b1 b2 c1 c2 e1 e2 oa oc za zb zc zd gc W.heap.size (W.alloc (.cells #[.int .i64 z.kind, .int .i64 z.n, .string ⟨z.s.toArray⟩, .slice za z.keys.length zc, .slice zb z.l.length zd] 25)) := by
  have hb := bel_alloc W (.cells #[.int .i64 z.kind, .int .i64 z.n, .string ⟨z.s.toArray⟩, .slice za z.keys.length zc, .slice zb z.l.length zd] 25)
  have hM := h.2.2.2.2.2.2
  exact ⟨⟨box_bel hb h.1, box_bel hb h.2.1, heap_alloc_new W _⟩, ⟨(h.2.2.1.bel hb).weak (fun k hk => by omega), (h.2.2.2.1.bel hb).weak (fun k hk => by omega), (h.2.2.2.2.1.bel hb).weak (fun k hk => by omega), (hz.bel hb).weak (fun k hk => Nat.ne_of_lt (hz2 k hk))⟩, bel_trans h.2.2.2.2.2.1 hb, hg, by omega, by rw [al_size]; omega⟩
theorem qb_put {w W : World} {t z : V} {os : List OpT} {a1 a2 b1 b2 oa : Option Addr} {c1 c2 e1 e2 oc : Nat} {za zb : Option Addr} {zc zd : Nat} {gc M g6 : Nat} {okz : Nat → Prop} {u0 u1 u2 u3 u4 : Value} (h : QA w t os a1 a2 b1 b2 c1 c2 e1 e2 oa oc gc M W) (hg : w.heap.size < gc) (hgM : gc < M) (hM : M ≤ g6) (hn : BoxIs W g6 u0 u1 u2 u3 u4) (hz : In W okz z (.agg #[.int .i64 z.kind, .int .i64 z.n, .string ⟨z.s.toArray⟩, .slice za z.keys.length zc, .slice zb z.l.length zd])) (hz2 : ∀ k, okz k → k ≠ g6) :
    QB w t z os a1 a2 b1 b2 c1 c2 e1 e2 oa oc za zb zc zd gc g6 (set5 W g6 (.int .i64 z.kind) (.int .i64 z.n) (.string ⟨z.s.toArray⟩) (.slice za z.keys.length zc) (.slice zb z.l.length zd)) := by
  have g1 := set5_gb W g6 (.int .i64 z.kind) (.int .i64 z.n) (.string ⟨z.s.toArray⟩) (.slice za z.keys.length zc) (.slice zb z.l.length zd)
  have hlt := hn.lt
  have hsz : W.heap.size ≤ (set5 W g6 (.int .i64 z.kind) (.int .i64 z.n) (.string ⟨z.s.toArray⟩) (.slice za z.keys.length zc) (.slice zb z.l.length zd)).heap.size := g1.size
  exact ⟨⟨h.1.grown g1 (by simp; omega), h.2.1.grown g1 (by simp; omega), hn.set _ _ _ _ _⟩, ⟨(h.2.2.1.grown g1 (fun k hk => by omega)).weak (fun k hk => by omega), (h.2.2.2.1.grown g1 (fun k hk => by omega)).weak (fun k hk => by omega), (h.2.2.2.2.1.grown g1 (fun k hk => by omega)).weak (fun k hk => by omega), (hz.grown g1 hz2).weak hz2⟩, bel_set5 h.2.2.2.2.2.1 (by omega) _ _ _ _ _, hg, by omega, by omega⟩
/- With both answers in their boxes. -/
def QC (w : World) (t : V) (os : List OpT) (a1 a2 b1 b2 : Option Addr) (c1 c2 e1 e2 : Nat) (oa : Option Addr) (oc : Nat) (gc g6 g8 : Nat) (W : World) : Prop :=
  (BoxIs W w.heap.size (.int .i64 t.kind) (.int .i64 t.n) (.string ⟨t.s.toArray⟩) (.slice a1 t.keys.length c1) (.slice a2 t.l.length c2) ∧ BoxIs W gc (.int .i64 t.kind) (.int .i64 t.n) (.string ⟨t.s.toArray⟩) (.slice b1 t.keys.length e1) (.slice b2 t.l.length e2)) ∧ (In W (fun k => k ≠ g6 ∧ k ≠ g8) t (.agg #[.int .i64 t.kind, .int .i64 t.n, .string ⟨t.s.toArray⟩, .slice a1 t.keys.length c1, .slice a2 t.l.length c2]) ∧ In W (fun k => k ≠ g6 ∧ k ≠ g8) t (.agg #[.int .i64 t.kind, .int .i64 t.n, .string ⟨t.s.toArray⟩, .slice b1 t.keys.length e1, .slice b2 t.l.length e2]) ∧ OpsAre W (fun k => k ≠ g6 ∧ k ≠ g8) os (.slice oa os.length oc)) ∧ Below w.heap.size w W ∧ w.heap.size < gc ∧ gc < g6 ∧ g6 < g8 ∧ g8 < W.heap.size
theorem QC.bel {w W W' : World} {t : V} {os : List OpT} {a1 a2 b1 b2 oa : Option Addr} {c1 c2 e1 e2 oc : Nat} {gc g6 g8 : Nat} (h : QC w t os a1 a2 b1 b2 c1 c2 e1 e2 oa oc gc g6 g8 W) (hb : Below W.heap.size W W') : QC w t os a1 a2 b1 b2 c1 c2 e1 e2 oa oc gc g6 g8 W' :=
  ⟨⟨box_bel hb h.1.1, box_bel hb h.1.2⟩, ⟨h.2.1.1.bel hb, h.2.1.2.1.bel hb, h.2.1.2.2.bel hb⟩, bel_trans h.2.2.1 hb, h.2.2.2.1, h.2.2.2.2.1, h.2.2.2.2.2.1, Nat.lt_of_lt_of_le h.2.2.2.2.2.2 hb.size⟩
theorem QC.grown {w W W' : World} {t : V} {os : List OpT} {a1 a2 b1 b2 oa : Option Addr} {c1 c2 e1 e2 oc : Nat} {gc g6 g8 g : Nat} (h : QC w t os a1 a2 b1 b2 c1 c2 e1 e2 oa oc gc g6 g8 W) (hg : W.grownBy W' (some g)) (hr : g = g6 ∨ g = g8) : QC w t os a1 a2 b1 b2 c1 c2 e1 e2 oa oc gc g6 g8 W' := by
  obtain ⟨⟨h1, h2⟩, ⟨h4, h5, h6⟩, h7, h8, h9, h10, h11⟩ := h
  have hn : ∀ k, (fun k => k ≠ g6 ∧ k ≠ g8) k → k ≠ g := fun k hk e => by rcases hr with hr | hr <;> subst hr <;> subst e <;> first | exact hk.1 rfl | exact hk.2 rfl
  refine ⟨⟨h1.grown hg (by rcases hr with rfl | rfl <;> simp <;> omega), h2.grown hg (by rcases hr with rfl | rfl <;> simp <;> omega)⟩, ⟨h4.grown hg hn, h5.grown hg hn, h6.grown hg hn⟩, ?_, h8, h9, h10, Nat.lt_of_lt_of_le h11 hg.size⟩
  exact ⟨hg.os.trans h7.os, hg.tape.trans h7.tape, hg.output.trans h7.output, Nat.le_trans h7.size hg.size, fun j hj => (hg.block j (by have := h7.size; omega) (fun e => by cases e; rcases hr with rfl | rfl <;> omega)).trans (h7.block j hj)⟩
theorem qc_put {w W : World} {t y : V} {os : List OpT} {a1 a2 b1 b2 oa : Option Addr} {c1 c2 e1 e2 oc : Nat} {gc g6 g8 g : Nat} {ya yb : Option Addr} {yc yd : Nat} {u0 u1 u2 u3 u4 : Value} (h : QC w t os a1 a2 b1 b2 c1 c2 e1 e2 oa oc gc g6 g8 W) (hr : g = g6 ∨ g = g8) (hb : BoxIs W g u0 u1 u2 u3 u4) (hy : In W (fun k => k ≠ g6 ∧ k ≠ g8) y (.agg #[.int .i64 y.kind, .int .i64 y.n, .string ⟨y.s.toArray⟩, .slice ya y.keys.length yc, .slice yb y.l.length yd])) :
    QC w t os a1 a2 b1 b2 c1 c2 e1 e2 oa oc gc g6 g8 (set5 W g (.int .i64 y.kind) (.int .i64 y.n) (.string ⟨y.s.toArray⟩) (.slice ya y.keys.length yc) (.slice yb y.l.length yd)) ∧ BoxIs (set5 W g (.int .i64 y.kind) (.int .i64 y.n) (.string ⟨y.s.toArray⟩) (.slice ya y.keys.length yc) (.slice yb y.l.length yd)) g (.int .i64 y.kind) (.int .i64 y.n) (.string ⟨y.s.toArray⟩) (.slice ya y.keys.length yc) (.slice yb y.l.length yd) ∧ In (set5 W g (.int .i64 y.kind) (.int .i64 y.n) (.string ⟨y.s.toArray⟩) (.slice ya y.keys.length yc) (.slice yb y.l.length yd)) (fun k => k ≠ g6 ∧ k ≠ g8) y (.agg #[.int .i64 y.kind, .int .i64 y.n, .string ⟨y.s.toArray⟩, .slice ya y.keys.length yc, .slice yb y.l.length yd]) := by
  have g1 := set5_gb W g (.int .i64 y.kind) (.int .i64 y.n) (.string ⟨y.s.toArray⟩) (.slice ya y.keys.length yc) (.slice yb y.l.length yd)
  exact ⟨h.grown g1 hr, hb.set _ _ _ _ _, hy.grown g1 (fun k hk e => by rcases hr with hr | hr <;> subst hr <;> subst e <;> first | exact hk.1 rfl | exact hk.2 rfl)⟩
theorem qc_of {g6 g8 B : Nat} (h6 : g6 < B) (h8 : g8 < B) : ∀ k, okN (fun k => k ≠ g6 ∧ k ≠ g8) B k → k ≠ g6 ∧ k ≠ g8 := by
  intro k hk
  rcases hk with hk | hk
  · exact hk
  · exact ⟨by omega, by omega⟩
theorem allOk_of (hS : SameJ) : ∀ (os : List OpT) (t : V), AllOk oneR os t
  | [], _ => trivial
  | o :: os, t => ⟨one_is hS t o, fun _ => allOk_of hS os _⟩

theorem all_mix {W : World} {t : V} {os : List OpT} {v ov : Value} {M C S : Nat} (h : In W (fun k => k < M) t v) (ho : OpsAre W (fun k => okN (fun k => k < M) C k ∧ k < S) os ov) (hl : M ≤ S) (hM : GlobM W) :
    Calls Tryd.prog 19 #[v, ov] W fun e w' => ∃ r, e = .returned (.tuple #[r, .int .i64 (allR oneR os t).2]) ∧ Below W.heap.size W w' ∧ In w' (okN (fun k => okN (fun k => k < M) C k ∧ k < S) W.heap.size) (allR oneR os t).1 r :=
  all_is oneR W _ t os v ov (h.weak fun _ hk => ⟨.inl hk, Nat.lt_of_lt_of_le hk hl⟩) ho hM (fun _ => allOk_of sameJ os t)

attribute [local go_sem ↓] Go.wp_at_zero Go.wp_at_succ
open Classical in
set_option maxRecDepth 100000 in
set_option maxHeartbeats 40000000 in
theorem patchDoes_walk (w : World) (ok1 : Nat → Prop) (d1 : Nat) (t : V) (v : Value) (h1 : VIs w ok1 d1 t v) (hN : siz t ≤ 2000000) (os : List OpT) (ov : Value) (h2 : OpsAre w (fun _ => True) os ov) (hL : os.length ≤ 2000000) (hX : ∀ o ∈ os, siz o.value ≤ 2000000) (hM : GlobM w) :
    Calls Tryd.prog 5 #[v, ov] w fun e w' => e = .returned (.bool true) ∧ Below w.heap.size w w' := by
  have T0 := hidI h1.is.low
  have O0 := hidI h2.low
  have MM := hidI hM
  have HL := hidI (show os.length ≤ 1000000000 by omega)
  have N1 := hidI (show siz t ≤ 1000000000000 by omega)
  have N2 := hidI (show cnt t ≤ 100000000000 by have := cnt_siz t; omega)
  have NX : Hid (∀ o ∈ os, cnt o.value ≤ 100000000000) := hidI (fun o ho => by have := cnt_siz o.value; have := hX o ho; omega)
  obtain ⟨a1, a2, c1, c2, rfl⟩ := h1.is.form
  obtain ⟨oa, oc, rfl⟩ := h2.form
  have hol := h2.1
  clear h1 h2 hM hN hX hL
  obtain ⟨r9, hr9⟩ : ∃ r, allR oneR os t = r := ⟨_, rfl⟩
  obtain ⟨z, E⟩ := r9
  have HR := hidI hr9
  clear hr9
  have K0 : Hid (BoxIs (w.alloc (.cells #[.int .i64 t.kind, .int .i64 t.n, .string ⟨t.s.toArray⟩, .slice a1 t.keys.length c1, .slice a2 t.l.length c2] 25)) w.heap.size (.int .i64 t.kind) (.int .i64 t.n) (.string ⟨t.s.toArray⟩) (.slice a1 t.keys.length c1) (.slice a2 t.l.length c2) ∧ Below w.heap.size w (w.alloc (.cells #[.int .i64 t.kind, .int .i64 t.n, .string ⟨t.s.toArray⟩, .slice a1 t.keys.length c1, .slice a2 t.l.length c2] 25))) := hidI ⟨heap_alloc_new w _, bel_alloc _ _⟩
  go_enter Tryd.func5, Tryd.ntmps5
  obtain ⟨k0, k1, k2, k3, k4, -⟩ := K0.out.1.c
  go_wp2_with fail
  refine (rcopy_is _ _ t _ (by exact T0.out.bel K0.out.2) N1.out).mono ?_
  rintro e w1 ⟨cv, rfl, hb, hc⟩
  obtain ⟨b1, b2, e1, e2, rfl⟩ := hc.form
  clear k0 k1 k2 k3 k4
  obtain ⟨W1, hW1⟩ : ∃ W, w1.alloc (.cells #[.int .i64 t.kind, .int .i64 t.n, .string ⟨t.s.toArray⟩, .slice b1 t.keys.length e1, .slice b2 t.l.length e2] 25) = W := ⟨_, rfl⟩
  obtain ⟨gc, hgc⟩ : ∃ g, w1.heap.size = g := ⟨_, rfl⟩
  have SG : Hid (w.heap.size < gc ∧ gc < W1.heap.size) := hidI (by
    have h3 := hb.size
    rw [al_size] at h3
    rw [← hW1, al_size, ← hgc]; omega)
  have Q1 : Hid (QA w t os a1 a2 b1 b2 c1 c2 e1 e2 oa oc gc W1.heap.size W1) := hidI (by
    have hbb := bel_trans hb (bel_alloc w1 (.cells #[.int .i64 t.kind, .int .i64 t.n, .string ⟨t.s.toArray⟩, .slice b1 t.keys.length e1, .slice b2 t.l.length e2] 25))
    have hbw := bel_trans K0.out.2 hbb
    have hs := hbw.size
    rw [← hW1, ← hgc]
    exact ⟨box_bel hbb K0.out.1, heap_alloc_new w1 _, (T0.out.bel hbw).weak (fun k hk => by have := hk.2; omega), (hc.low.bel (bel_alloc w1 (.cells #[.int .i64 t.kind, .int .i64 t.n, .string ⟨t.s.toArray⟩, .slice b1 t.keys.length e1, .slice b2 t.l.length e2] 25))).weak (fun k hk => by have := hk.2; rw [al_size]; omega), (O0.out.bel hbw).weak (fun k hk => by have := hk.2; omega), hbw, Nat.le_refl _⟩)
  clear hb hc K0
  go_upto_region 2 with fail
  try rw [hW1]
  try rw [hgc]
  have OW := hidI O0.out
  clear hW1 hgc T0 O0
  go_cut [6, 7] (fun pv cv wc => ∃ (g6 : Nat) (za zb : Option Addr) (zc zd : Nat), pv = .pointer (some ⟨g6, 0, none⟩) ∧ cv = .int .i64 E ∧ QB w t z os a1 a2 b1 b2 c1 c2 e1 e2 oa oc za zb zc zd gc g6 wc)
  case first =>
    refine wp_region_T (fun wS => QA w t os a1 a2 b1 b2 c1 c2 e1 e2 oa oc gc W1.heap.size wS) [8] (by kernel_rfl) (by exact Q1.out.bel (bel_drewN _ 1)) (fun hHeld => ?_)
    refine wpAnyT_take (i := 0) (v := ?_) [3, 4, 5, 6, 8, 9] (oi := _) rfl (by kernel_rfl) (by kernel_rfl) (by kernel_rfl) (by kernel_rfl) (fun _ _ _ h => h) (Or.inl ⟨by rfl, ?_⟩) hHeld ?_
    rotate_left
    · intro wS hSw
      obtain ⟨l0, l1, l2, l3, l4, -⟩ := hSw.2.1.c
      go_simp
      all_goals with_reducible rfl
    simp only [Act.put, List.setIfInBounds_toArray, List.set_cons_zero, List.set_cons_succ]
    refine wpAnyT_take (i := 1) (v := ?_) [2, 3, 4, 5, 6, 8, 9] (oi := _) rfl (by kernel_rfl) (by kernel_rfl) (by kernel_rfl) (by kernel_rfl) (fun _ _ _ h => h) (Or.inl ⟨by rfl, ?_⟩) hHeld ?_
    rotate_left
    · intro wS hSw
      go_simp
      all_goals with_reducible rfl
    simp only [Act.put, List.setIfInBounds_toArray, List.set_cons_zero, List.set_cons_succ]
    refine wpAnyT_ready (rs := [2, 7]) (by kernel_rfl) (by simp) ?_
    refine AllReadyT.cons (i := 2) (o := _) rfl (fun K hK => ?_) ?_
    · refine step_run (by rfl) _ _ 35 (by rfl) _ _ (by rfl) (by rfl) _ (fun ty => run_copyO _ _ os _ hHeld.2.2.2.2.1 HL.out ty) (fun v9 W9 hR => ?_)
      obtain ⟨ho9, hb9⟩ := hR
      obtain ⟨la9, lc9, rfl⟩ := ho9.form
      refine hK.out _ _ (hHeld.bel hb9) (fun hHeld2 => ?_)
      have O9 := hidI ho9.low
      have PW := hidI hb9.size
      have L9 := hidI hHeld2.2.2.2.2.2.2
      try replace NB := hidI (box_bel hb9 NB.out)
      clear ho9 hb9
      clear hK K
      replace hHeld := hHeld2
      clear hHeld2
      try simp only [Act.put, List.setIfInBounds_toArray, List.set_cons_zero, List.set_cons_succ]
      refine wpAnyT_ready (rs := [3, 7]) (by kernel_rfl) (by simp) ?_
      refine AllReadyT.cons (i := 3) (o := _) rfl (fun K hK => ?_) ?_
      · go_simp
        refine (all_mix hHeld.2.2.2.1 O9.out L9.out (by exact MM.out.bel hHeld.2.2.2.2.2.1)).mono ?_
        rintro e w3q ⟨r9, rfl, hb3, hr3⟩
        rw [HR.out] at hr3 ⊢
        simp only at hr3 ⊢
        obtain ⟨za, zb, zc, zd, rfl⟩ := hr3.form
        refine hK.out _ _ (hHeld.bel hb3) (fun hHeld2 => ?_)
        have R3 := hidI hr3.low
        have HS3 := hidI hHeld2
        try replace NB := hidI (box_bel hb3 NB.out)
        clear hb3 hr3
        clear hK K
        replace hHeld := hHeld2
        clear hHeld2
        try simp only [Act.put, List.setIfInBounds_toArray, List.set_cons_zero, List.set_cons_succ]
        refine wpAnyT_take (i := 4) (v := ?_) [5, 6, 8, 9] (oi := _) rfl (by kernel_rfl) (by kernel_rfl) (by kernel_rfl) (by kernel_rfl) (fun _ _ _ h => h) (Or.inl ⟨by rfl, ?_⟩) hHeld ?_
        rotate_left
        · intro wS hSw
          go_simp
          all_goals with_reducible rfl
        simp only [Act.put, List.setIfInBounds_toArray, List.set_cons_zero, List.set_cons_succ]
        refine wpAnyT_take (i := 5) (v := ?_) [8, 9] (oi := _) rfl (by kernel_rfl) (by kernel_rfl) (by kernel_rfl) (by kernel_rfl) (fun _ _ _ h => h) (Or.inl ⟨by rfl, ?_⟩) hHeld ?_
        rotate_left
        · intro wS hSw
          go_simp
          all_goals with_reducible rfl
        simp only [Act.put, List.setIfInBounds_toArray, List.set_cons_zero, List.set_cons_succ]
        refine wpAnyT_takeY (i := 6) (v := ?_) (oi := _) rfl (by kernel_rfl) (by kernel_rfl) (by kernel_rfl) (by rfl) (fun _ _ _ h => h) (Or.inl ⟨by rfl, ?_⟩) hHeld ?_
        rotate_left
        · intro wS
          go_simp
          all_goals with_reducible rfl
        simp only [Act.put, List.setIfInBounds_toArray, List.set_cons_zero, List.set_cons_succ]
        refine wpAnyT_ready (rs := [7]) (by kernel_rfl) (by simp) ?_
        refine AllReadyT.cons (i := 7) (o := _) rfl (fun K hK => ?_) ?_
        · go_simp
          refine hK.out _ _ (hHeld.bel (bel_alloc _ _)) (fun hHeld2 => ?_)
          first | (have NB := hidI hHeld2.fresh) | (have NB := hidI hHeld2.fresh2)
          try (replace O9 := hidI (O9.out.bel (bel_alloc W9 (.cells #[.int .i64 0, .int .i64 0, .string ⟨#[]⟩, .slice none 0 0, .slice none 0 0] 25))))
          try (have FINA := hidI (qb_new HS3.out SG.out.1 SG.out.2 R3.out (fun k hk => hk.2)); clear R3)
          clear hK K
          replace hHeld := hHeld2
          clear hHeld2
          try simp only [Act.put, List.setIfInBounds_toArray, List.set_cons_zero, List.set_cons_succ]
          obtain ⟨n0, n1, n2, n3, n4, m0, m1, m2, m3, m4⟩ := NB.out.c
          try (have FINB := hidI (qb_put HS3.out SG.out.1 SG.out.2 L9.out NB.out R3.out (by intro k hk e; rcases hk.1 with h8 | h8; exact absurd (e ▸ h8.2) (Nat.lt_irrefl _); have h6 : (W9.alloc (.cells #[.int .i64 0, .int .i64 0, .string ⟨#[]⟩, .slice none 0 0, .slice none 0 0] 25)).heap.size ≤ k := h8; have h5 := al_size W9 (.cells #[.int .i64 0, .int .i64 0, .string ⟨#[]⟩, .slice none 0 0, .slice none 0 0] 25); omega)); clear R3)
          try (have FINB := hidI (qb_put HS3.out SG.out.1 SG.out.2 (Nat.le_refl _) NB.out R3.out (by intro k hk e; rcases hk.1 with h8 | h8; rcases h8.1 with h7 | h7; exact absurd (e ▸ h7) (Nat.lt_irrefl _); have h6 : (W1.alloc (.cells #[.int .i64 0, .int .i64 0, .string ⟨#[]⟩, .slice none 0 0, .slice none 0 0] 25)).heap.size ≤ k := h7; have h5 := al_size W1 (.cells #[.int .i64 0, .int .i64 0, .string ⟨#[]⟩, .slice none 0 0, .slice none 0 0] 25); omega; have h6 : (W1.alloc (.cells #[.int .i64 0, .int .i64 0, .string ⟨#[]⟩, .slice none 0 0, .slice none 0 0] 25)).heap.size ≤ k := Nat.le_trans PW.out h8; have h5 := al_size W1 (.cells #[.int .i64 0, .int .i64 0, .string ⟨#[]⟩, .slice none 0 0, .slice none 0 0] 25); omega)); clear R3)
          refine wpAnyT_last (i := 8) (o := _) (by kernel_rfl) (by rfl) rfl (fun K hK => ?_)
          go_simp
          refine hK.out _ _ ?_
          clear hK K
          try simp only [Act.put, List.setIfInBounds_toArray, List.set_cons_zero, List.set_cons_succ]
          refine wpAnyT_last (i := 9) (o := _) (by kernel_rfl) (by rfl) rfl (fun K hK => ?_)
          go_simp
          refine hK.out _ _ ?_
          clear hK K
          try simp only [Act.put, List.setIfInBounds_toArray, List.set_cons_zero, List.set_cons_succ]
          refine wpAnyT_done (by kernel_rfl) ?_ _
          clear hHeld
          go_wp2_with fail
          go_meet
          case rel => first | exact ⟨_, za, zb, zc, zd, rfl, rfl, FINA.out⟩ | exact ⟨_, za, zb, zc, zd, rfl, rfl, FINB.out⟩
        exact AllReadyT.nil
      refine AllReadyT.cons (i := 7) (o := _) rfl (fun K hK => ?_) ?_
      · go_simp
        refine hK.out _ _ (hHeld.bel (bel_alloc _ _)) (fun hHeld2 => ?_)
        first | (have NB := hidI hHeld2.fresh) | (have NB := hidI hHeld2.fresh2)
        try (replace O9 := hidI (O9.out.bel (bel_alloc W9 (.cells #[.int .i64 0, .int .i64 0, .string ⟨#[]⟩, .slice none 0 0, .slice none 0 0] 25))))
        try (have FINA := hidI (qb_new HS3.out SG.out.1 SG.out.2 R3.out (fun k hk => hk.2)); clear R3)
        clear hK K
        replace hHeld := hHeld2
        clear hHeld2
        try simp only [Act.put, List.setIfInBounds_toArray, List.set_cons_zero, List.set_cons_succ]
        refine wpAnyT_ready (rs := [3]) (by kernel_rfl) (by simp) ?_
        refine AllReadyT.cons (i := 3) (o := _) rfl (fun K hK => ?_) ?_
        · go_simp
          refine (all_mix hHeld.2.2.2.1 O9.out L9.out (by exact MM.out.bel hHeld.2.2.2.2.2.1)).mono ?_
          rintro e w3q ⟨r9, rfl, hb3, hr3⟩
          rw [HR.out] at hr3 ⊢
          simp only at hr3 ⊢
          obtain ⟨za, zb, zc, zd, rfl⟩ := hr3.form
          refine hK.out _ _ (hHeld.bel hb3) (fun hHeld2 => ?_)
          have R3 := hidI hr3.low
          have HS3 := hidI hHeld2
          try replace NB := hidI (box_bel hb3 NB.out)
          clear hb3 hr3
          clear hK K
          replace hHeld := hHeld2
          clear hHeld2
          try simp only [Act.put, List.setIfInBounds_toArray, List.set_cons_zero, List.set_cons_succ]
          refine wpAnyT_take (i := 4) (v := ?_) [5, 6, 8, 9] (oi := _) rfl (by kernel_rfl) (by kernel_rfl) (by kernel_rfl) (by kernel_rfl) (fun _ _ _ h => h) (Or.inl ⟨by rfl, ?_⟩) hHeld ?_
          rotate_left
          · intro wS hSw
            go_simp
            all_goals with_reducible rfl
          simp only [Act.put, List.setIfInBounds_toArray, List.set_cons_zero, List.set_cons_succ]
          refine wpAnyT_take (i := 5) (v := ?_) [8, 9] (oi := _) rfl (by kernel_rfl) (by kernel_rfl) (by kernel_rfl) (by kernel_rfl) (fun _ _ _ h => h) (Or.inl ⟨by rfl, ?_⟩) hHeld ?_
          rotate_left
          · intro wS hSw
            go_simp
            all_goals with_reducible rfl
          simp only [Act.put, List.setIfInBounds_toArray, List.set_cons_zero, List.set_cons_succ]
          refine wpAnyT_takeY (i := 6) (v := ?_) (oi := _) rfl (by kernel_rfl) (by kernel_rfl) (by kernel_rfl) (by rfl) (fun _ _ _ h => h) (Or.inl ⟨by rfl, ?_⟩) hHeld ?_
          rotate_left
          · intro wS
            go_simp
            all_goals with_reducible rfl
          simp only [Act.put, List.setIfInBounds_toArray, List.set_cons_zero, List.set_cons_succ]
          obtain ⟨n0, n1, n2, n3, n4, m0, m1, m2, m3, m4⟩ := NB.out.c
          try (have FINB := hidI (qb_put HS3.out SG.out.1 SG.out.2 L9.out NB.out R3.out (by intro k hk e; rcases hk.1 with h8 | h8; exact absurd (e ▸ h8.2) (Nat.lt_irrefl _); have h6 : (W9.alloc (.cells #[.int .i64 0, .int .i64 0, .string ⟨#[]⟩, .slice none 0 0, .slice none 0 0] 25)).heap.size ≤ k := h8; have h5 := al_size W9 (.cells #[.int .i64 0, .int .i64 0, .string ⟨#[]⟩, .slice none 0 0, .slice none 0 0] 25); omega)); clear R3)
          try (have FINB := hidI (qb_put HS3.out SG.out.1 SG.out.2 (Nat.le_refl _) NB.out R3.out (by intro k hk e; rcases hk.1 with h8 | h8; rcases h8.1 with h7 | h7; exact absurd (e ▸ h7) (Nat.lt_irrefl _); have h6 : (W1.alloc (.cells #[.int .i64 0, .int .i64 0, .string ⟨#[]⟩, .slice none 0 0, .slice none 0 0] 25)).heap.size ≤ k := h7; have h5 := al_size W1 (.cells #[.int .i64 0, .int .i64 0, .string ⟨#[]⟩, .slice none 0 0, .slice none 0 0] 25); omega; have h6 : (W1.alloc (.cells #[.int .i64 0, .int .i64 0, .string ⟨#[]⟩, .slice none 0 0, .slice none 0 0] 25)).heap.size ≤ k := Nat.le_trans PW.out h8; have h5 := al_size W1 (.cells #[.int .i64 0, .int .i64 0, .string ⟨#[]⟩, .slice none 0 0, .slice none 0 0] 25); omega)); clear R3)
          refine wpAnyT_last (i := 8) (o := _) (by kernel_rfl) (by rfl) rfl (fun K hK => ?_)
          go_simp
          refine hK.out _ _ ?_
          clear hK K
          try simp only [Act.put, List.setIfInBounds_toArray, List.set_cons_zero, List.set_cons_succ]
          refine wpAnyT_last (i := 9) (o := _) (by kernel_rfl) (by rfl) rfl (fun K hK => ?_)
          go_simp
          refine hK.out _ _ ?_
          clear hK K
          try simp only [Act.put, List.setIfInBounds_toArray, List.set_cons_zero, List.set_cons_succ]
          refine wpAnyT_done (by kernel_rfl) ?_ _
          clear hHeld
          go_wp2_with fail
          go_meet
          case rel => first | exact ⟨_, za, zb, zc, zd, rfl, rfl, FINA.out⟩ | exact ⟨_, za, zb, zc, zd, rfl, rfl, FINB.out⟩
        exact AllReadyT.nil
      exact AllReadyT.nil
    refine AllReadyT.cons (i := 7) (o := _) rfl (fun K hK => ?_) ?_
    · go_simp
      refine hK.out _ _ (hHeld.bel (bel_alloc _ _)) (fun hHeld2 => ?_)
      first | (have NB := hidI hHeld2.fresh) | (have NB := hidI hHeld2.fresh2)
      try (replace O9 := hidI (O9.out.bel (bel_alloc W9 (.cells #[.int .i64 0, .int .i64 0, .string ⟨#[]⟩, .slice none 0 0, .slice none 0 0] 25))))
      try (have FINA := hidI (qb_new HS3.out SG.out.1 SG.out.2 R3.out (fun k hk => hk.2)); clear R3)
      clear hK K
      replace hHeld := hHeld2
      clear hHeld2
      try simp only [Act.put, List.setIfInBounds_toArray, List.set_cons_zero, List.set_cons_succ]
      refine wpAnyT_ready (rs := [2]) (by kernel_rfl) (by simp) ?_
      refine AllReadyT.cons (i := 2) (o := _) rfl (fun K hK => ?_) ?_
      · refine step_run (by rfl) _ _ 35 (by rfl) _ _ (by rfl) (by rfl) _ (fun ty => run_copyO _ _ os _ hHeld.2.2.2.2.1 HL.out ty) (fun v9 W9 hR => ?_)
        obtain ⟨ho9, hb9⟩ := hR
        obtain ⟨la9, lc9, rfl⟩ := ho9.form
        refine hK.out _ _ (hHeld.bel hb9) (fun hHeld2 => ?_)
        have O9 := hidI ho9.low
        have PW := hidI hb9.size
        have L9 := hidI hHeld2.2.2.2.2.2.2
        try replace NB := hidI (box_bel hb9 NB.out)
        clear ho9 hb9
        clear hK K
        replace hHeld := hHeld2
        clear hHeld2
        try simp only [Act.put, List.setIfInBounds_toArray, List.set_cons_zero, List.set_cons_succ]
        refine wpAnyT_ready (rs := [3]) (by kernel_rfl) (by simp) ?_
        refine AllReadyT.cons (i := 3) (o := _) rfl (fun K hK => ?_) ?_
        · go_simp
          refine (all_mix hHeld.2.2.2.1 O9.out L9.out (by exact MM.out.bel hHeld.2.2.2.2.2.1)).mono ?_
          rintro e w3q ⟨r9, rfl, hb3, hr3⟩
          rw [HR.out] at hr3 ⊢
          simp only at hr3 ⊢
          obtain ⟨za, zb, zc, zd, rfl⟩ := hr3.form
          refine hK.out _ _ (hHeld.bel hb3) (fun hHeld2 => ?_)
          have R3 := hidI hr3.low
          have HS3 := hidI hHeld2
          try replace NB := hidI (box_bel hb3 NB.out)
          clear hb3 hr3
          clear hK K
          replace hHeld := hHeld2
          clear hHeld2
          try simp only [Act.put, List.setIfInBounds_toArray, List.set_cons_zero, List.set_cons_succ]
          refine wpAnyT_take (i := 4) (v := ?_) [5, 6, 8, 9] (oi := _) rfl (by kernel_rfl) (by kernel_rfl) (by kernel_rfl) (by kernel_rfl) (fun _ _ _ h => h) (Or.inl ⟨by rfl, ?_⟩) hHeld ?_
          rotate_left
          · intro wS hSw
            go_simp
            all_goals with_reducible rfl
          simp only [Act.put, List.setIfInBounds_toArray, List.set_cons_zero, List.set_cons_succ]
          refine wpAnyT_take (i := 5) (v := ?_) [8, 9] (oi := _) rfl (by kernel_rfl) (by kernel_rfl) (by kernel_rfl) (by kernel_rfl) (fun _ _ _ h => h) (Or.inl ⟨by rfl, ?_⟩) hHeld ?_
          rotate_left
          · intro wS hSw
            go_simp
            all_goals with_reducible rfl
          simp only [Act.put, List.setIfInBounds_toArray, List.set_cons_zero, List.set_cons_succ]
          refine wpAnyT_takeY (i := 6) (v := ?_) (oi := _) rfl (by kernel_rfl) (by kernel_rfl) (by kernel_rfl) (by rfl) (fun _ _ _ h => h) (Or.inl ⟨by rfl, ?_⟩) hHeld ?_
          rotate_left
          · intro wS
            go_simp
            all_goals with_reducible rfl
          simp only [Act.put, List.setIfInBounds_toArray, List.set_cons_zero, List.set_cons_succ]
          obtain ⟨n0, n1, n2, n3, n4, m0, m1, m2, m3, m4⟩ := NB.out.c
          try (have FINB := hidI (qb_put HS3.out SG.out.1 SG.out.2 L9.out NB.out R3.out (by intro k hk e; rcases hk.1 with h8 | h8; exact absurd (e ▸ h8.2) (Nat.lt_irrefl _); have h6 : (W9.alloc (.cells #[.int .i64 0, .int .i64 0, .string ⟨#[]⟩, .slice none 0 0, .slice none 0 0] 25)).heap.size ≤ k := h8; have h5 := al_size W9 (.cells #[.int .i64 0, .int .i64 0, .string ⟨#[]⟩, .slice none 0 0, .slice none 0 0] 25); omega)); clear R3)
          try (have FINB := hidI (qb_put HS3.out SG.out.1 SG.out.2 (Nat.le_refl _) NB.out R3.out (by intro k hk e; rcases hk.1 with h8 | h8; rcases h8.1 with h7 | h7; exact absurd (e ▸ h7) (Nat.lt_irrefl _); have h6 : (W1.alloc (.cells #[.int .i64 0, .int .i64 0, .string ⟨#[]⟩, .slice none 0 0, .slice none 0 0] 25)).heap.size ≤ k := h7; have h5 := al_size W1 (.cells #[.int .i64 0, .int .i64 0, .string ⟨#[]⟩, .slice none 0 0, .slice none 0 0] 25); omega; have h6 : (W1.alloc (.cells #[.int .i64 0, .int .i64 0, .string ⟨#[]⟩, .slice none 0 0, .slice none 0 0] 25)).heap.size ≤ k := Nat.le_trans PW.out h8; have h5 := al_size W1 (.cells #[.int .i64 0, .int .i64 0, .string ⟨#[]⟩, .slice none 0 0, .slice none 0 0] 25); omega)); clear R3)
          refine wpAnyT_last (i := 8) (o := _) (by kernel_rfl) (by rfl) rfl (fun K hK => ?_)
          go_simp
          refine hK.out _ _ ?_
          clear hK K
          try simp only [Act.put, List.setIfInBounds_toArray, List.set_cons_zero, List.set_cons_succ]
          refine wpAnyT_last (i := 9) (o := _) (by kernel_rfl) (by rfl) rfl (fun K hK => ?_)
          go_simp
          refine hK.out _ _ ?_
          clear hK K
          try simp only [Act.put, List.setIfInBounds_toArray, List.set_cons_zero, List.set_cons_succ]
          refine wpAnyT_done (by kernel_rfl) ?_ _
          clear hHeld
          go_wp2_with fail
          go_meet
          case rel => first | exact ⟨_, za, zb, zc, zd, rfl, rfl, FINA.out⟩ | exact ⟨_, za, zb, zc, zd, rfl, rfl, FINB.out⟩
        exact AllReadyT.nil
      exact AllReadyT.nil
    exact AllReadyT.nil
  case rest =>
    obtain ⟨g6, za, zb, zc, zd, rfl, rfl, hq⟩ := hcut
    have QQ := hidI hq
    clear hq Q1 SG
    obtain ⟨k0, k1, k2, k3, k4, -⟩ := QQ.out.1.1.c
    go_wp2_with fail
    refine (rdoops_is _ (fun k => k ≠ g6) t os _ _ (by exact QQ.out.2.1.1) (by exact QQ.out.2.1.2.2.1) N2.out NX.out).mono ?_
    rintro e w3 ⟨r3, rfl, hb, hr⟩
    rw [HR.out] at hr ⊢
    simp only at hr ⊢
    obtain ⟨ya, yb, yc, yd, rfl⟩ := hr.form
    clear k0 k1 k2 k3 k4
    obtain ⟨W3, hW3⟩ : ∃ W, w3.alloc (.cells #[.int .i64 z.kind, .int .i64 z.n, .string ⟨z.s.toArray⟩, .slice ya z.keys.length yc, .slice yb z.l.length yd] 25) = W := ⟨_, rfl⟩
    obtain ⟨g8, hg8⟩ : ∃ g, w3.heap.size = g := ⟨_, rfl⟩
    have K3 : Hid ((QC w t os a1 a2 b1 b2 c1 c2 e1 e2 oa oc gc g6 g8 W3 ∧ BoxIs W3 g6 (.int .i64 z.kind) (.int .i64 z.n) (.string ⟨z.s.toArray⟩) (.slice za z.keys.length zc) (.slice zb z.l.length zd) ∧ BoxIs W3 g8 (.int .i64 z.kind) (.int .i64 z.n) (.string ⟨z.s.toArray⟩) (.slice ya z.keys.length yc) (.slice yb z.l.length yd)) ∧ In W3 (fun k => k ≠ g6 ∧ k ≠ g8) z (.agg #[.int .i64 z.kind, .int .i64 z.n, .string ⟨z.s.toArray⟩, .slice za z.keys.length zc, .slice zb z.l.length zd]) ∧ In W3 (fun k => k ≠ g6 ∧ k ≠ g8) z (.agg #[.int .i64 z.kind, .int .i64 z.n, .string ⟨z.s.toArray⟩, .slice ya z.keys.length yc, .slice yb z.l.length yd])) := hidI (by
      obtain ⟨⟨q1, q2, q3⟩, ⟨q4, q5, q6, q7⟩, q8, q9, q10, q11⟩ := QQ.out
      have hbb := bel_trans hb (bel_alloc w3 (.cells #[.int .i64 z.kind, .int .i64 z.n, .string ⟨z.s.toArray⟩, .slice ya z.keys.length yc, .slice yb z.l.length yd] 25))
      have hs := hb.size
      have f1 : ∀ k, (k ≠ g6 ∧ k < wc.heap.size) → k ≠ g6 ∧ k ≠ g8 := fun k hk => ⟨hk.1, by omega⟩
      rw [← hW3]
      refine ⟨⟨⟨⟨box_bel hbb q1, box_bel hbb q2⟩, ⟨(q4.low.bel hbb).weak f1, (q5.low.bel hbb).weak f1, (q6.low.bel hbb).weak f1⟩, bel_trans q8 hbb, q9, q10, by omega, by rw [al_size]; omega⟩, box_bel hbb q3, by rw [← hg8]; exact heap_alloc_new w3 _⟩, (q7.low.bel hbb).weak f1, (hr.low.bel (bel_alloc w3 _)).weak fun k hk => ⟨?_, by have := hk.2; omega⟩⟩
      rcases hk.1 with h9 | h9
      · exact h9
      · omega)
    clear hb hr QQ
    go_upto_region 4 with fail
    try rw [hW3]
    try rw [hg8]
    clear hW3 hg8
    obtain ⟨k0, k1, k2, k3, k4, -⟩ := K3.out.1.1.1.1.c
    obtain ⟨l0, l1, l2, l3, l4, -⟩ := K3.out.1.1.1.2.c
    obtain ⟨u0, u1, u2, u3, u4, -⟩ := K3.out.1.2.1.c
    obtain ⟨m0, m1, m2, m3, m4, -⟩ := K3.out.1.2.2.c
    go_wp2_with fail
    refine (rsame_is _ _ _ z z _ _ (by exact K3.out.2.1) (by exact K3.out.2.2)).mono ?_
    rintro e w4 ⟨rfl, hb⟩
    rw [show decide (z = z) = true from decide_eq_true rfl]
    have K4 : Hid ((QC w t os a1 a2 b1 b2 c1 c2 e1 e2 oa oc gc g6 g8 w4 ∧ BoxIs w4 g6 (.int .i64 z.kind) (.int .i64 z.n) (.string ⟨z.s.toArray⟩) (.slice za z.keys.length zc) (.slice zb z.l.length zd) ∧ BoxIs w4 g8 (.int .i64 z.kind) (.int .i64 z.n) (.string ⟨z.s.toArray⟩) (.slice ya z.keys.length yc) (.slice yb z.l.length yd)) ∧ In w4 (fun k => k ≠ g6 ∧ k ≠ g8) z (.agg #[.int .i64 z.kind, .int .i64 z.n, .string ⟨z.s.toArray⟩, .slice za z.keys.length zc, .slice zb z.l.length zd]) ∧ In w4 (fun k => k ≠ g6 ∧ k ≠ g8) z (.agg #[.int .i64 z.kind, .int .i64 z.n, .string ⟨z.s.toArray⟩, .slice ya z.keys.length yc, .slice yb z.l.length yd])) := hidI ⟨⟨K3.out.1.1.bel hb, box_bel hb K3.out.1.2.1, box_bel hb K3.out.1.2.2⟩, K3.out.2.1.bel hb, K3.out.2.2.bel hb⟩
    clear hb K3 k0 k1 k2 k3 k4 l0 l1 l2 l3 l4 u0 u1 u2 u3 u4 m0 m1 m2 m3 m4
    obtain ⟨k0, k1, k2, k3, k4, -⟩ := K4.out.1.1.1.1.c
    obtain ⟨l0, l1, l2, l3, l4, -⟩ := K4.out.1.1.1.2.c
    go_wp2_with fail
    refine (rsame_is _ _ _ t t _ _ (by exact K4.out.1.1.2.1.2.1) (by exact K4.out.1.1.2.1.1)).mono ?_
    rintro e w5 ⟨rfl, hb⟩
    rw [show decide (t = t) = true from decide_eq_true rfl]
    have K5 : Hid ((QC w t os a1 a2 b1 b2 c1 c2 e1 e2 oa oc gc g6 g8 w5 ∧ BoxIs w5 g6 (.int .i64 z.kind) (.int .i64 z.n) (.string ⟨z.s.toArray⟩) (.slice za z.keys.length zc) (.slice zb z.l.length zd) ∧ BoxIs w5 g8 (.int .i64 z.kind) (.int .i64 z.n) (.string ⟨z.s.toArray⟩) (.slice ya z.keys.length yc) (.slice yb z.l.length yd)) ∧ In w5 (fun k => k ≠ g6 ∧ k ≠ g8) z (.agg #[.int .i64 z.kind, .int .i64 z.n, .string ⟨z.s.toArray⟩, .slice za z.keys.length zc, .slice zb z.l.length zd]) ∧ In w5 (fun k => k ≠ g6 ∧ k ≠ g8) z (.agg #[.int .i64 z.kind, .int .i64 z.n, .string ⟨z.s.toArray⟩, .slice ya z.keys.length yc, .slice yb z.l.length yd])) := hidI ⟨⟨K4.out.1.1.bel hb, box_bel hb K4.out.1.2.1, box_bel hb K4.out.1.2.2⟩, K4.out.2.1.bel hb, K4.out.2.2.bel hb⟩
    clear hb K4 k0 k1 k2 k3 k4 l0 l1 l2 l3 l4
    by_cases h0 : os.length = 0
    · have d0 : ¬ (0 : Int) < (os.length : Int) := by omega
      clear h0
      obtain ⟨u0, u1, u2, u3, u4, -⟩ := K5.out.1.2.1.c
      obtain ⟨m0, m1, m2, m3, m4, -⟩ := K5.out.1.2.2.c
      go_wp2_with fail
      refine (rsame_is _ _ _ z z _ _ (by exact K5.out.2.1) (by exact K5.out.2.2)).mono ?_
      rintro e w8 ⟨rfl, hb⟩
      rw [show decide (z = z) = true from decide_eq_true rfl]
      have B8 := hidI (bel_trans K5.out.1.1.2.2.1 hb)
      clear hb u0 u1 u2 u3 u4 m0 m1 m2 m3 m4
      go_wp2_with fail
      refine (lpatches_at _ (by exact MM.out.bel B8.out)).mono ?_
      rintro e w9 ⟨rfl, hb⟩
      have B9 := hidI (bel_trans B8.out hb)
      clear hb
      go_wp2_with fail
      go_ret
      exact ⟨rfl, B9.out⟩
    · have d0 : (0 : Int) < (os.length : Int) := by omega
      have hlt : 0 < os.length := by omega
      obtain ⟨b, off, a7, a8, c7, c8, hoa, hc1, hc2, g0, g1, g2, g3, g4, g5, g6', g7, g8'⟩ := (OW.out).item hlt
      subst hoa
      have OK := hidI g8'.low
      have CO := hidI (NX.out os[0] (List.getElem_mem hlt))
      obtain ⟨q, hq⟩ : ∃ q, oneR t os[0] = q := ⟨_, rfl⟩
      obtain ⟨y, E7⟩ := q
      have HQ := hidI hq
      simp only [Nat.zero_mul, Nat.add_zero] at g0 g1 g2 g3 g4 g5 g6' g7
      have G0 := hidI g0
      have G1 := hidI g1
      have G2 := hidI g2
      have G3 := hidI g3
      have G4 := hidI g4
      have G5 := hidI g5
      have G6 := hidI g6'
      have G7 := hidI g7
      clear h0 hq g0 g1 g2 g3 g4 g5 g6' g7 g8'
      go_upto_region 7 with fail
      refine wp_region_T (fun wS => (QC w t os a1 a2 b1 b2 c1 c2 e1 e2 (some ⟨b, off, none⟩) oc gc g6 g8 wS ∧ BoxIs wS g6 (.int .i64 z.kind) (.int .i64 z.n) (.string ⟨z.s.toArray⟩) (.slice za z.keys.length zc) (.slice zb z.l.length zd) ∧ BoxIs wS g8 (.int .i64 z.kind) (.int .i64 z.n) (.string ⟨z.s.toArray⟩) (.slice ya z.keys.length yc) (.slice yb z.l.length yd))) [8] (by kernel_rfl) (by exact ⟨K5.out.1.1.bel (bel_drewN _ 1), box_bel (bel_drewN _ 1) K5.out.1.2.1, box_bel (bel_drewN _ 1) K5.out.1.2.2⟩) (fun hHeld => ?_)
      clear K5
      refine wpAnyT_take (i := 0) (v := ?_) [4, 5, 6, 7, 8, 9] (oi := _) rfl (by kernel_rfl) (by kernel_rfl) (by kernel_rfl) (by kernel_rfl) (fun _ _ _ h => h) (Or.inl ⟨by rfl, ?_⟩) hHeld ?_
      rotate_left
      · intro wS hSw
        obtain ⟨l0, l1, l2, l3, l4, -⟩ := hSw.1.1.2.c
        have x0 := cell_bel hSw.1.2.2.1 G0.out
        have x1 := cell_bel hSw.1.2.2.1 G1.out
        have x2 := cell_bel hSw.1.2.2.1 G2.out
        have x3 := cell_bel hSw.1.2.2.1 G3.out
        have x4 := cell_bel hSw.1.2.2.1 G4.out
        have x5 := cell_bel hSw.1.2.2.1 G5.out
        have x6 := cell_bel hSw.1.2.2.1 G6.out
        have x7 := cell_bel hSw.1.2.2.1 G7.out
        go_simp
        all_goals with_reducible rfl
      simp only [Act.put, List.setIfInBounds_toArray, List.set_cons_zero, List.set_cons_succ]
      refine wpAnyT_take (i := 1) (v := ?_) [2, 3, 4, 5, 6, 7, 8, 9] (oi := _) rfl (by kernel_rfl) (by kernel_rfl) (by kernel_rfl) (by kernel_rfl) (fun _ _ _ h => h) (Or.inl ⟨by rfl, ?_⟩) hHeld ?_
      rotate_left
      · intro wS hSw
        go_simp
        all_goals with_reducible rfl
      simp only [Act.put, List.setIfInBounds_toArray, List.set_cons_zero, List.set_cons_succ]
      refine wpAnyT_take (i := 2) (v := ?_) [3, 4, 5, 6, 7, 8, 9] (oi := _) rfl (by kernel_rfl) (by kernel_rfl) (by kernel_rfl) (by kernel_rfl) (fun _ _ _ h => h) (Or.inl ⟨by rfl, ?_⟩) hHeld ?_
      rotate_left
      · intro wS hSw
        go_simp
        all_goals with_reducible rfl
      simp only [Act.put, List.setIfInBounds_toArray, List.set_cons_zero, List.set_cons_succ]
      refine wpAnyT_take (i := 3) (v := ?_) [4, 5, 6, 7, 8, 9] (oi := _) rfl (by kernel_rfl) (by kernel_rfl) (by kernel_rfl) (by kernel_rfl) (fun _ _ _ h => h) (Or.inl ⟨by rfl, ?_⟩) hHeld ?_
      rotate_left
      · intro wS hSw
        obtain ⟨l0, l1, l2, l3, l4, -⟩ := hSw.1.1.2.c
        have x0 := cell_bel hSw.1.2.2.1 G0.out
        have x1 := cell_bel hSw.1.2.2.1 G1.out
        have x2 := cell_bel hSw.1.2.2.1 G2.out
        have x3 := cell_bel hSw.1.2.2.1 G3.out
        have x4 := cell_bel hSw.1.2.2.1 G4.out
        have x5 := cell_bel hSw.1.2.2.1 G5.out
        have x6 := cell_bel hSw.1.2.2.1 G6.out
        have x7 := cell_bel hSw.1.2.2.1 G7.out
        go_simp
        all_goals with_reducible rfl
      simp only [Act.put, List.setIfInBounds_toArray, List.set_cons_zero, List.set_cons_succ]
      refine wpAnyT_ready (rs := [4]) (by kernel_rfl) (by simp) ?_
      refine AllReadyT.cons (i := 4) (o := _) rfl (fun K hK => ?_) ?_
      · go_simp
        refine (one_is sameJ t os[0] _ (fun k => k ≠ g6 ∧ k ≠ g8) _ _ (by exact hHeld.1.2.1.2.1) (by exact (OK.out.bel hHeld.1.2.2.1).weak fun k hk => ⟨by have := hk.2; have := hHeld.1.2.2.2; omega, by have := hk.2; have := hHeld.1.2.2.2; omega⟩) (by exact MM.out.bel hHeld.1.2.2.1)).mono ?_
        rintro e w4q ⟨r9, rfl, hb4, hr4⟩
        rw [HQ.out] at hr4 ⊢
        simp only at hr4 ⊢
        obtain ⟨ya', yb', yc', yd', rfl⟩ := hr4.form
        refine hK.out _ _ (⟨hHeld.1.bel hb4, box_bel hb4 hHeld.2.1, box_bel hb4 hHeld.2.2⟩) (fun hHeld2 => ?_)
        have R4 := hidI (hr4.weak (qc_of (by have := hHeld.1.2.2.2; omega) (by have := hHeld.1.2.2.2; omega)))
        clear hb4 hr4
        clear hK K
        replace hHeld := hHeld2
        clear hHeld2
        try simp only [Act.put, List.setIfInBounds_toArray, List.set_cons_zero, List.set_cons_succ]
        refine wpAnyT_take (i := 5) (v := ?_) [6, 7, 8, 9] (oi := _) rfl (by kernel_rfl) (by kernel_rfl) (by kernel_rfl) (by kernel_rfl) (fun _ _ _ h => h) (Or.inl ⟨by rfl, ?_⟩) hHeld ?_
        rotate_left
        · intro wS hSw
          go_simp
          all_goals with_reducible rfl
        simp only [Act.put, List.setIfInBounds_toArray, List.set_cons_zero, List.set_cons_succ]
        refine wpAnyT_take (i := 6) (v := ?_) [8, 9] (oi := _) rfl (by kernel_rfl) (by kernel_rfl) (by kernel_rfl) (by kernel_rfl) (fun _ _ _ h => h) (Or.inl ⟨by rfl, ?_⟩) hHeld ?_
        rotate_left
        · intro wS hSw
          go_simp
          all_goals with_reducible rfl
        simp only [Act.put, List.setIfInBounds_toArray, List.set_cons_zero, List.set_cons_succ]
        refine wpAnyT_takeY (i := 7) (v := ?_) (oi := _) rfl (by kernel_rfl) (by kernel_rfl) (by kernel_rfl) (by rfl) (fun _ _ _ h => h) (Or.inl ⟨by rfl, ?_⟩) hHeld ?_
        rotate_left
        · intro wS
          go_simp
          all_goals with_reducible rfl
        simp only [Act.put, List.setIfInBounds_toArray, List.set_cons_zero, List.set_cons_succ]
        obtain ⟨n0, n1, n2, n3, n4, m0, m1, m2, m3, m4⟩ := hHeld.2.1.c
        have F7 := hidI (And.intro (qc_put hHeld.1 (.inl rfl) hHeld.2.1 R4.out) (hHeld.2.2.grown (set5_gb _ g6 (.int .i64 y.kind) (.int .i64 y.n) (.string ⟨y.s.toArray⟩) (.slice ya' y.keys.length yc') (.slice yb' y.l.length yd')) (by have := hHeld.1.2.2.2; simp; omega)))
        clear hHeld
        refine wpAnyT_last (i := 8) (o := _) (by kernel_rfl) (by rfl) rfl (fun K hK => ?_)
        go_simp
        refine hK.out _ _ ?_
        clear hK K
        try simp only [Act.put, List.setIfInBounds_toArray, List.set_cons_zero, List.set_cons_succ]
        refine wpAnyT_last (i := 9) (o := _) (by kernel_rfl) (by rfl) rfl (fun K hK => ?_)
        go_simp
        refine hK.out _ _ ?_
        clear hK K
        try simp only [Act.put, List.setIfInBounds_toArray, List.set_cons_zero, List.set_cons_succ]
        refine wpAnyT_done (by kernel_rfl) ?_ _
        obtain ⟨W7, hW7⟩ : ∃ W, set5 w4q g6 (.int .i64 y.kind) (.int .i64 y.n) (.string ⟨y.s.toArray⟩) (.slice ya' y.keys.length yc') (.slice yb' y.l.length yd') = W := ⟨_, rfl⟩
        rw [hW7] at F7
        simp only [set5] at hW7
        try rw [hW7]
        have K7 : Hid (QC w t os a1 a2 b1 b2 c1 c2 e1 e2 (some ⟨b, off, none⟩) oc gc g6 g8 W7 ∧ BoxIs W7 g6 (.int .i64 y.kind) (.int .i64 y.n) (.string ⟨y.s.toArray⟩) (.slice ya' y.keys.length yc') (.slice yb' y.l.length yd') ∧ BoxIs W7 g8 (.int .i64 z.kind) (.int .i64 z.n) (.string ⟨z.s.toArray⟩) (.slice ya z.keys.length yc) (.slice yb z.l.length yd) ∧ In W7 (fun k => k ≠ g6 ∧ k ≠ g8) y (.agg #[.int .i64 y.kind, .int .i64 y.n, .string ⟨y.s.toArray⟩, .slice ya' y.keys.length yc', .slice yb' y.l.length yd'])) := hidI ⟨F7.out.1.1, F7.out.1.2.1, F7.out.2, F7.out.1.2.2⟩
        clear hW7 F7 R4 n0 n1 n2 n3 n4 m0 m1 m2 m3 m4
        go_upto_region 8 with fail
        refine wp_region_T (fun wS => (QC w t os a1 a2 b1 b2 c1 c2 e1 e2 (some ⟨b, off, none⟩) oc gc g6 g8 wS ∧ BoxIs wS g6 (.int .i64 y.kind) (.int .i64 y.n) (.string ⟨y.s.toArray⟩) (.slice ya' y.keys.length yc') (.slice yb' y.l.length yd') ∧ BoxIs wS g8 (.int .i64 z.kind) (.int .i64 z.n) (.string ⟨z.s.toArray⟩) (.slice ya z.keys.length yc) (.slice yb z.l.length yd) ∧ In wS (fun k => k ≠ g6 ∧ k ≠ g8) y (.agg #[.int .i64 y.kind, .int .i64 y.n, .string ⟨y.s.toArray⟩, .slice ya' y.keys.length yc', .slice yb' y.l.length yd']))) [8] (by kernel_rfl) (by exact ⟨K7.out.1.bel (bel_drewN _ 1), box_bel (bel_drewN _ 1) K7.out.2.1, box_bel (bel_drewN _ 1) K7.out.2.2.1, K7.out.2.2.2.bel (bel_drewN _ 1)⟩) (fun hHeld => ?_)
        refine wpAnyT_take (i := 0) (v := ?_) [4, 5, 6, 7, 8, 9] (oi := _) rfl (by kernel_rfl) (by kernel_rfl) (by kernel_rfl) (by kernel_rfl) (fun _ _ _ h => h) (Or.inl ⟨by rfl, ?_⟩) hHeld ?_
        rotate_left
        · intro wS hSw
          obtain ⟨l0, l1, l2, l3, l4, -⟩ := hSw.1.1.1.c
          have x0 := cell_bel hSw.1.2.2.1 G0.out
          have x1 := cell_bel hSw.1.2.2.1 G1.out
          have x2 := cell_bel hSw.1.2.2.1 G2.out
          have x3 := cell_bel hSw.1.2.2.1 G3.out
          have x4 := cell_bel hSw.1.2.2.1 G4.out
          have x5 := cell_bel hSw.1.2.2.1 G5.out
          have x6 := cell_bel hSw.1.2.2.1 G6.out
          have x7 := cell_bel hSw.1.2.2.1 G7.out
          go_simp
          all_goals with_reducible rfl
        simp only [Act.put, List.setIfInBounds_toArray, List.set_cons_zero, List.set_cons_succ]
        refine wpAnyT_take (i := 1) (v := ?_) [2, 3, 4, 5, 6, 7, 8, 9] (oi := _) rfl (by kernel_rfl) (by kernel_rfl) (by kernel_rfl) (by kernel_rfl) (fun _ _ _ h => h) (Or.inl ⟨by rfl, ?_⟩) hHeld ?_
        rotate_left
        · intro wS hSw
          go_simp
          all_goals with_reducible rfl
        simp only [Act.put, List.setIfInBounds_toArray, List.set_cons_zero, List.set_cons_succ]
        refine wpAnyT_take (i := 2) (v := ?_) [3, 4, 5, 6, 7, 8, 9] (oi := _) rfl (by kernel_rfl) (by kernel_rfl) (by kernel_rfl) (by kernel_rfl) (fun _ _ _ h => h) (Or.inl ⟨by rfl, ?_⟩) hHeld ?_
        rotate_left
        · intro wS hSw
          go_simp
          all_goals with_reducible rfl
        simp only [Act.put, List.setIfInBounds_toArray, List.set_cons_zero, List.set_cons_succ]
        refine wpAnyT_take (i := 3) (v := ?_) [4, 5, 6, 7, 8, 9] (oi := _) rfl (by kernel_rfl) (by kernel_rfl) (by kernel_rfl) (by kernel_rfl) (fun _ _ _ h => h) (Or.inl ⟨by rfl, ?_⟩) hHeld ?_
        rotate_left
        · intro wS hSw
          obtain ⟨l0, l1, l2, l3, l4, -⟩ := hSw.1.1.1.c
          have x0 := cell_bel hSw.1.2.2.1 G0.out
          have x1 := cell_bel hSw.1.2.2.1 G1.out
          have x2 := cell_bel hSw.1.2.2.1 G2.out
          have x3 := cell_bel hSw.1.2.2.1 G3.out
          have x4 := cell_bel hSw.1.2.2.1 G4.out
          have x5 := cell_bel hSw.1.2.2.1 G5.out
          have x6 := cell_bel hSw.1.2.2.1 G6.out
          have x7 := cell_bel hSw.1.2.2.1 G7.out
          go_simp
          all_goals with_reducible rfl
        simp only [Act.put, List.setIfInBounds_toArray, List.set_cons_zero, List.set_cons_succ]
        refine wpAnyT_ready (rs := [4]) (by kernel_rfl) (by simp) ?_
        refine AllReadyT.cons (i := 4) (o := _) rfl (fun K hK => ?_) ?_
        · go_simp
          refine (rdo_is _ (fun k => k ≠ g6 ∧ k ≠ g8) t os[0] _ _ (by exact hHeld.1.2.1.1) (by exact (OK.out.bel hHeld.1.2.2.1).weak fun k hk => ⟨by have := hk.2; have := hHeld.1.2.2.2; omega, by have := hk.2; have := hHeld.1.2.2.2; omega⟩) N2.out CO.out).mono ?_
          rintro e w4q ⟨r9, rfl, hb4, hr4⟩
          rw [HQ.out] at hr4 ⊢
          simp only at hr4 ⊢
          obtain ⟨xa, xb, xc, xd, rfl⟩ := hr4.form
          refine hK.out _ _ (⟨hHeld.1.bel hb4, box_bel hb4 hHeld.2.1, box_bel hb4 hHeld.2.2.1, hHeld.2.2.2.bel hb4⟩) (fun hHeld2 => ?_)
          have R4 := hidI (hr4.weak (qc_of (by have := hHeld.1.2.2.2; omega) (by have := hHeld.1.2.2.2; omega)))
          clear hb4 hr4
          clear hK K
          replace hHeld := hHeld2
          clear hHeld2
          try simp only [Act.put, List.setIfInBounds_toArray, List.set_cons_zero, List.set_cons_succ]
          refine wpAnyT_take (i := 5) (v := ?_) [6, 7, 8, 9] (oi := _) rfl (by kernel_rfl) (by kernel_rfl) (by kernel_rfl) (by kernel_rfl) (fun _ _ _ h => h) (Or.inl ⟨by rfl, ?_⟩) hHeld ?_
          rotate_left
          · intro wS hSw
            go_simp
            all_goals with_reducible rfl
          simp only [Act.put, List.setIfInBounds_toArray, List.set_cons_zero, List.set_cons_succ]
          refine wpAnyT_take (i := 6) (v := ?_) [8, 9] (oi := _) rfl (by kernel_rfl) (by kernel_rfl) (by kernel_rfl) (by kernel_rfl) (fun _ _ _ h => h) (Or.inl ⟨by rfl, ?_⟩) hHeld ?_
          rotate_left
          · intro wS hSw
            go_simp
            all_goals with_reducible rfl
          simp only [Act.put, List.setIfInBounds_toArray, List.set_cons_zero, List.set_cons_succ]
          refine wpAnyT_takeY (i := 7) (v := ?_) (oi := _) rfl (by kernel_rfl) (by kernel_rfl) (by kernel_rfl) (by rfl) (fun _ _ _ h => h) (Or.inl ⟨by rfl, ?_⟩) hHeld ?_
          rotate_left
          · intro wS
            go_simp
            all_goals with_reducible rfl
          simp only [Act.put, List.setIfInBounds_toArray, List.set_cons_zero, List.set_cons_succ]
          obtain ⟨n0, n1, n2, n3, n4, m0, m1, m2, m3, m4⟩ := hHeld.2.2.1.c
          have F8 := hidI (And.intro (qc_put hHeld.1 (.inr rfl) hHeld.2.2.1 R4.out) (And.intro (hHeld.2.1.grown (set5_gb _ g8 (.int .i64 y.kind) (.int .i64 y.n) (.string ⟨y.s.toArray⟩) (.slice xa y.keys.length xc) (.slice xb y.l.length xd)) (by have := hHeld.1.2.2.2; simp; omega)) (hHeld.2.2.2.grown (set5_gb _ g8 (.int .i64 y.kind) (.int .i64 y.n) (.string ⟨y.s.toArray⟩) (.slice xa y.keys.length xc) (.slice xb y.l.length xd)) (fun k hk => hk.2))))
          clear hHeld
          refine wpAnyT_last (i := 8) (o := _) (by kernel_rfl) (by rfl) rfl (fun K hK => ?_)
          go_simp
          refine hK.out _ _ ?_
          clear hK K
          try simp only [Act.put, List.setIfInBounds_toArray, List.set_cons_zero, List.set_cons_succ]
          refine wpAnyT_last (i := 9) (o := _) (by kernel_rfl) (by rfl) rfl (fun K hK => ?_)
          go_simp
          refine hK.out _ _ ?_
          clear hK K
          try simp only [Act.put, List.setIfInBounds_toArray, List.set_cons_zero, List.set_cons_succ]
          refine wpAnyT_done (by kernel_rfl) ?_ _
          obtain ⟨W8, hW8⟩ : ∃ W, set5 w4q g8 (.int .i64 y.kind) (.int .i64 y.n) (.string ⟨y.s.toArray⟩) (.slice xa y.keys.length xc) (.slice xb y.l.length xd) = W := ⟨_, rfl⟩
          rw [hW8] at F8
          simp only [set5] at hW8
          try rw [hW8]
          have K8 : Hid ((QC w t os a1 a2 b1 b2 c1 c2 e1 e2 (some ⟨b, off, none⟩) oc gc g6 g8 W8 ∧ BoxIs W8 g6 (.int .i64 y.kind) (.int .i64 y.n) (.string ⟨y.s.toArray⟩) (.slice ya' y.keys.length yc') (.slice yb' y.l.length yd') ∧ BoxIs W8 g8 (.int .i64 y.kind) (.int .i64 y.n) (.string ⟨y.s.toArray⟩) (.slice xa y.keys.length xc) (.slice xb y.l.length xd)) ∧ In W8 (fun k => k ≠ g6 ∧ k ≠ g8) y (.agg #[.int .i64 y.kind, .int .i64 y.n, .string ⟨y.s.toArray⟩, .slice ya' y.keys.length yc', .slice yb' y.l.length yd']) ∧ In W8 (fun k => k ≠ g6 ∧ k ≠ g8) y (.agg #[.int .i64 y.kind, .int .i64 y.n, .string ⟨y.s.toArray⟩, .slice xa y.keys.length xc, .slice xb y.l.length xd])) := hidI ⟨⟨F8.out.1.1, F8.out.2.1, F8.out.1.2.1⟩, F8.out.2.2, F8.out.1.2.2⟩
          clear hW8 F8 R4 n0 n1 n2 n3 n4 m0 m1 m2 m3 m4
          obtain ⟨u0, u1, u2, u3, u4, -⟩ := K8.out.1.2.1.c
          obtain ⟨m0, m1, m2, m3, m4, -⟩ := K8.out.1.2.2.c
          go_wp2_with fail
          refine (rsame_is _ _ _ y y _ _ (by exact K8.out.2.1) (by exact K8.out.2.2)).mono ?_
          rintro e w8 ⟨rfl, hb⟩
          rw [show decide (y = y) = true from decide_eq_true rfl]
          have B8 := hidI (bel_trans K8.out.1.1.2.2.1 hb)
          clear hb u0 u1 u2 u3 u4 m0 m1 m2 m3 m4
          go_wp2_with fail
          refine (lpatches_at _ (by exact MM.out.bel B8.out)).mono ?_
          rintro e w9 ⟨rfl, hb⟩
          have B9 := hidI (bel_trans B8.out hb)
          clear hb
          go_wp2_with fail
          go_ret
          exact ⟨rfl, B9.out⟩
        exact AllReadyT.nil
      exact AllReadyT.nil
end Go.Proofs.YtaifciobaapehaaDoor

/- What is read of an argument that is a value, and how much there is in it. -/
set_option linter.unusedSimpArgs false
set_option linter.unusedVariables false
namespace Go.Proofs.YtaifciobaapehaaDoor
open Go.ChangeShapes Go.WideShapes Go.ChangeAt Go.RowKit
set_option maxRecDepth 100000

theorem bulk_one {H : Type} (d : DataW H) : 1 ≤ Rows.uptoBulk d := by
  cases d with
  | lit l => cases l <;> simp [Rows.uptoBulk]
  | nil => simp [Rows.uptoBulk]
  | ptr d => simp [Rows.uptoBulk]
  | slice elems spare => simp [Rows.uptoBulk]
  | agg parts => simp [Rows.uptoBulk]
  | iface t d => simp [Rows.uptoBulk]
  | map entries => simp [Rows.uptoBulk]
  | held h => simp [Rows.uptoBulk]
theorem bulk_len {H : Type} (l : List (DataW H)) : l.length ≤ Rows.uptoBulkAll l := by
  induction l with
  | nil => simp [Rows.uptoBulkAll]
  | cons x r ih => have := bulk_one x; simp only [Rows.uptoBulkAll, List.length_cons]; omega
theorem bulk_mem {H : Type} {d : DataW H} {l : List (DataW H)} (h : d ∈ l) : Rows.uptoBulk d ≤ Rows.uptoBulkAll l := by
  induction l with
  | nil => cases h
  | cons x r ih =>
    simp only [Rows.uptoBulkAll]
    rcases List.mem_cons.1 h with rfl | e
    · omega
    · have := ih e; omega
theorem bulk_sizs {H : Type} : ∀ (l : List V) (es : List (DataW H)), l.length = es.length → (∀ (i : Nat) (x : V) (e : DataW H), l[i]? = some x → es[i]? = some e → siz x ≤ Rows.uptoBulk e) → sizs l ≤ Rows.uptoBulkAll es
  | [], es, _, _ => by simp [sizs]
  | x :: l, [], h, _ => by simp at h
  | x :: l, e :: es, h, hh => by
    have h1 := hh 0 x e rfl rfl
    have h2 := bulk_sizs l es (by simpa using h) fun i y f hy hf => hh (i + 1) y f (by simpa using hy) (by simpa using hf)
    rw [sizs_cons]
    simp only [Rows.uptoBulkAll]
    omega
theorem strs_bulk {H : Type} {enc : TypeId × Value → H} {W : World} {fuel : Nat} {v : Value} {x : DataW H × List MemPlace} (h : DataW.trod enc Tryd.prog W 0 (fun _ => true) true fuel 22 [v] = some x) {ks : List (List UInt8)} (hk : StrsAre W (fun _ => True) ks v) : ks.length ≤ Rows.uptoBulk x.1 := by
  rcases open_strings Tryd.underlying22 Tryd.underlying9 cellsString h with ⟨e, -⟩ | ⟨a, len, cap, ss, e, -, hl, hm, hss, hx, hc, hz⟩
  · simp only [List.cons.injEq, and_true] at e
    subst e
    rcases hk.2 with ⟨h1, -⟩ | ⟨b, off, c, h1, -⟩
    · rw [h1]; simp
    · simp at h1
  · simp only [List.cons.injEq, and_true] at e
    subst e
    simp only [if_true] at hss
    have hlen : ks.length = len := by
      rcases hk.2 with ⟨h1, a0, h2⟩ | ⟨b, off, c, h1, -⟩
      · simp only [Value.slice.injEq] at h2; rw [h1, h2.2.1]; rfl
      · simp only [Value.slice.injEq] at h1; exact h1.2.1.symm
    subst hx
    have h1 := bulk_len (strs (H := H) (ss.take len))
    have h2 : (strs (H := H) (ss.take len)).length = len := by simp [strs]; omega
    simp only [Rows.uptoBulk]
    omega
theorem vis_bulk {H : Type} {enc : TypeId × Value → H} {W : World} (fuel : Nat) : ∀ (cs : List Value) (x : DataW H × List MemPlace), DataW.trod enc Tryd.prog W 0 (fun _ => true) true fuel 25 cs = some x →
    ∃ t v0 v1 v2 v3 v4, cs = [v0, v1, v2, v3, v4] ∧ VIs W (fun _ => True) fuel t (.agg #[v0, v1, v2, v3, v4]) ∧ siz t ≤ Rows.uptoBulk x.1 := by
  induction fuel with
  | zero => intro cs x h; simp [DataW.trod] at h
  | succ fuel ih =>
    intro cs x h
    obtain ⟨xs, n, e, hx, hl, hlen, hf⟩ := DataW.trod_struct Tryd.underlying25 h
    obtain rfl : n = fuel := by omega
    rw [cellsValue] at hl
    match cs, hl, xs, hlen with
    | [v0, v1, v2, v3, v4], _, [y0, y1, y2, y3, y4], _ =>
      have g0 : DataW.trod enc Tryd.prog W 0 (fun _ => true) true n 3 [v0] = some y0 := by simpa [cellsInt] using hf 0 _ rfl
      have g1 : DataW.trod enc Tryd.prog W 0 (fun _ => true) true n 3 [v1] = some y1 := by simpa [cellsInt] using hf 1 _ rfl
      have g2 : DataW.trod enc Tryd.prog W 0 (fun _ => true) true n 9 [v2] = some y2 := by simpa [cellsString] using hf 2 _ rfl
      have g3 : DataW.trod enc Tryd.prog W 0 (fun _ => true) true n 22 [v3] = some y3 := by simpa [cellsStrs] using hf 3 _ rfl
      have g4 : DataW.trod enc Tryd.prog W 0 (fun _ => true) true n 23 [v4] = some y4 := by simpa [cellsVals] using hf 4 _ rfl
      obtain ⟨z0, e0, -, w0⟩ := DataW.trod_int Tryd.underlying3 g0
      obtain ⟨z1, e1, -, w1⟩ := DataW.trod_int Tryd.underlying3 g1
      obtain ⟨s, e2, -, hs⟩ := DataW.trod_string Tryd.underlying9 g2
      simp only [List.cons.injEq, and_true] at e0 e1 e2
      subst e0
      subst e1
      subst e2
      obtain ⟨ks, hks⟩ := strs_of g3
      have hkb := strs_bulk g3 hks
      have hvals : ∃ l, ValsAre W (fun _ => True) (VIs W (fun _ => True) n) l v4 ∧ sizs l ≤ Rows.uptoBulk y4.1 := by
        rcases DataW.trod_slice Tryd.underlying23 g4 with ⟨e, -⟩ | ⟨a, len, cap, elems, rest, k, ek, e, hy4, -, hl, hm, hlen, hel, hsp, -⟩
        · simp only [List.cons.injEq, and_true] at e
          exact ⟨[], ⟨by simp [maxLen], .inl ⟨rfl, none, e⟩⟩, by simp [sizs]⟩
        · simp only [List.cons.injEq, and_true] at e
          rw [cellsValue] at hel hsp
          have all : ∀ i, i < len → ∃ cs' y, W.cells? 0 (a.add (i * 5)) 5 = some cs' ∧ DataW.trod enc Tryd.prog W 0 (fun _ => true) true k 25 cs' = some y ∧ elems[i]? = some y := by
            intro i hil
            have := hel i hil
            rw [List.getElem?_eq_getElem (by omega)] at this
            obtain ⟨cs', h1, h2⟩ := Option.bind_eq_some_iff.1 this
            exact ⟨cs', _, h1, h2, List.getElem?_eq_getElem (by omega)⟩
          by_cases h0 : len = 0
          · subst h0
            have he : elems = [] := List.eq_nil_of_length_eq_zero hlen
            by_cases hc : cap = 0
            · subst hc
              exact ⟨[], ⟨by simp [maxLen], .inl ⟨rfl, some a, e⟩⟩, by simp [sizs]⟩
            · have ha : a = ⟨a.block, a.off, none⟩ := by
                obtain ⟨hrl, hrest⟩ := hsp rfl
                have := hrest 0 (by omega)
                rw [List.getElem?_eq_getElem (by omega)] at this
                obtain ⟨cs', h1, h2⟩ := Option.bind_eq_some_iff.1 this
                obtain ⟨-, h2, h3⟩ := World.cells?_some h1
                have := h3 0 (by omega)
                rw [List.getElem?_eq_getElem (by omega)] at this
                exact addr_plain (spot_none (v := cs'[0]) (by simpa [Addr.add] using this))
              exact ⟨[], ⟨by simp [maxLen], .inr ⟨a.block, a.off, cap, by rw [← ha]; exact e, by simp, hm, fun i t ht => by simp at ht⟩⟩, by simp [sizs]⟩
          · have ha : a = ⟨a.block, a.off, none⟩ := by
              obtain ⟨cs', y, h1, -⟩ := all 0 (by omega)
              obtain ⟨-, h2, h3⟩ := World.cells?_some h1
              have := h3 0 (by omega)
              rw [List.getElem?_eq_getElem (by omega)] at this
              exact addr_plain (spot_none (v := cs'[0]) (by simpa [Addr.add] using this))
            obtain ⟨T, hT⟩ := @Go.Deep.choose_lt V ⟨⟨0, 0, [], [], []⟩⟩ len (fun i t => ∃ v0 v1 v2 v3 v4 y, W.cells? 0 (a.add (i * 5)) 5 = some [v0, v1, v2, v3, v4] ∧ VIs W (fun _ => True) n t (.agg #[v0, v1, v2, v3, v4]) ∧ elems[i]? = some y ∧ siz t ≤ Rows.uptoBulk y.1) (fun i hi => by
              obtain ⟨cs', y, h1, h2, h3⟩ := all i hi
              obtain ⟨t, v0, v1, v2, v3, v4, rfl, hv, hz⟩ := ih cs' y (DataW.trod_le (by omega) h2)
              exact ⟨t, v0, v1, v2, v3, v4, y, h1, hv, h3, hz⟩)
            refine ⟨(List.range len).map T, ⟨by simp only [List.length_map, List.length_range]; omega, .inr ⟨a.block, a.off, cap, by simp only [List.length_map, List.length_range]; rw [← ha]; exact e, by simp only [List.length_map, List.length_range]; omega, hm, fun i t ht => ?_⟩⟩, ?_⟩
            · simp only [List.getElem?_map, Option.map_eq_some_iff] at ht
              obtain ⟨j, hj, rfl⟩ := ht
              obtain ⟨hj1, hj2⟩ := List.getElem?_eq_some_iff.1 hj
              simp only [List.length_range] at hj1
              simp only [List.getElem_range] at hj2
              subst hj2
              obtain ⟨v0, v1, v2, v3, v4, y, h1, hv, -⟩ := hT i hj1
              obtain ⟨-, -, h3⟩ := World.cells?_some h1
              rw [ha] at h3
              have c : ∀ q, q < 5 → W.cell? ⟨a.block, a.off + i * 5 + q, none⟩ = [v0, v1, v2, v3, v4][q]? := by
                intro q hq
                have := h3 q hq
                rw [addr_add, addr_add] at this
                exact this
              exact ⟨v0, v1, v2, v3, v4, trivial, c 0 (by omega), c 1 (by omega), c 2 (by omega), c 3 (by omega), c 4 (by omega), hv⟩
            · have hb : sizs ((List.range len).map T) ≤ Rows.uptoBulkAll (elems.map (·.1)) := by
                refine bulk_sizs _ _ (by simp [hlen]) fun i x f hx hf => ?_
                simp only [List.getElem?_map, Option.map_eq_some_iff] at hx hf
                obtain ⟨j, hj, rfl⟩ := hx
                obtain ⟨hj1, hj2⟩ := List.getElem?_eq_some_iff.1 hj
                simp only [List.length_range] at hj1
                simp only [List.getElem_range] at hj2
                subst hj2
                obtain ⟨y', hy', rfl⟩ := hf
                obtain ⟨v0, v1, v2, v3, v4, y, -, -, h3, h4⟩ := hT i hj1
                rw [hy'] at h3
                cases h3
                exact h4
              rw [hy4]
              simp only [Rows.uptoBulk]
              omega
      obtain ⟨l, hl, hlb⟩ := hvals
      refine ⟨⟨z0, z1, s.data.toList, ks, l⟩, _, _, _, _, _, rfl, ⟨v3, v4, by unfold str; simp, int_wf w0, int_wf w1, by rw [Array.length_toList]; exact hs, hks, hl⟩, ?_⟩
      rw [siz_eq, hx]
      simp only [List.map_cons, List.map_nil, Rows.uptoBulk, Rows.uptoBulkAll]
      omega
theorem arg_bulk {H : Type} {enc : TypeId × Value → H} {W : World} {base : Nat} {v : Value} {d : DataW H} {p : List MemPlace} (hk : Value.okWide Tryd.prog W .any base 25 v) (h : DataW.Trod enc Tryd.prog W 0 (fun _ => true) true 25 v d p) :
    ∃ f t, VIs W (fun _ => True) f t v ∧ siz t ≤ Rows.uptoBulk d := by
  obtain ⟨cs, rfl, -⟩ := okWide_struct Tryd.underlying25 hk
  obtain ⟨f, hf⟩ := h
  obtain ⟨t, v0, v1, v2, v3, v4, e, hv, hz⟩ := vis_bulk f _ _ hf
  have e2 : cs = #[v0, v1, v2, v3, v4] := by
    obtain ⟨l⟩ := cs
    exact congrArg Array.mk e
  subst e2
  exact ⟨f, t, hv, hz⟩
/- The bound, as the row hands it over. -/
theorem bulk_bound {H : Type} {l : List (DataW H)} (hk : Rows.uptoSmall H l = true) : Rows.uptoBulkAll l ≤ 1048576 := of_decide_eq_true hk
end Go.Proofs.YtaifciobaapehaaDoor

/- What is read of an argument that is a list of operations, and how much there is in it. -/
set_option linter.unusedSimpArgs false
set_option linter.unusedVariables false
namespace Go.Proofs.YtaifciobaapehaaDoor
open Go.ChangeShapes Go.WideShapes Go.ChangeAt Go.RowKit
set_option maxRecDepth 100000

theorem op_bulk {H : Type} {enc : TypeId × Value → H} {W : World} (fuel : Nat) (cs : List Value) (x : DataW H × List MemPlace) (h : DataW.trod enc Tryd.prog W 0 (fun _ => true) true fuel 43 cs = some x)
    (hz : ∀ n ∈ x.1.weights Tryd.prog 43, n ≤ reachBytes) :
    ∃ o v0 v1 v2 v3 v4 v5 v6 v7, cs = [v0, v1, v2, v3, v4, v5, v6, v7] ∧ OpIn W (fun _ => True) o (.agg #[v0, v1, v2, v3, v4, v5, v6, v7]) ∧ siz o.value ≤ Rows.uptoBulk x.1 := by
  obtain ⟨xs, n, e, hx, hl, hlen, hf⟩ := DataW.trod_struct Tryd.underlying43 h
  rw [cellsOp] at hl
  match cs, hl, xs, hlen with
  | [v0, v1, v2, v3, v4, v5, v6, v7], _, [y0, y1, y2, y3], _ =>
    have g0 : DataW.trod enc Tryd.prog W 0 (fun _ => true) true n 3 [v0] = some y0 := by simpa [cellsInt] using hf 0 _ rfl
    have g1 : DataW.trod enc Tryd.prog W 0 (fun _ => true) true n 9 [v1] = some y1 := by simpa [cellsString, cellsInt] using hf 1 _ rfl
    have g2 : DataW.trod enc Tryd.prog W 0 (fun _ => true) true n 9 [v2] = some y2 := by simpa [cellsString, cellsInt] using hf 2 _ rfl
    have g3 : DataW.trod enc Tryd.prog W 0 (fun _ => true) true n 25 [v3, v4, v5, v6, v7] = some y3 := by simpa [cellsString, cellsInt, cellsValue] using hf 3 _ rfl
    obtain ⟨z0, e0, -, w0⟩ := DataW.trod_int Tryd.underlying3 g0
    obtain ⟨s1, e1, f1, hs1⟩ := DataW.trod_string Tryd.underlying9 g1
    obtain ⟨s2, e2, f2, hs2⟩ := DataW.trod_string Tryd.underlying9 g2
    obtain ⟨t, u0, u1, u2, u3, u4, e3, hv, hbz⟩ := vis_bulk n _ _ g3
    simp only [List.cons.injEq, and_true] at e0 e1 e2 e3
    obtain ⟨rfl, rfl, rfl, rfl, rfl⟩ := e3
    subst e0
    subst e1
    subst e2
    obtain ⟨a7, a8, c7, c8, eq⟩ := hv.shape
    simp only [Value.agg.injEq, Array.mk.injEq, List.cons.injEq, and_true] at eq
    obtain ⟨rfl, rfl, rfl, rfl, rfl⟩ := eq
    have hz1 : s1.data.toList.length ≤ reachBytes := by
      refine hz _ ?_
      rw [hx, f1, f2]
      simp [DataW.weights, DataW.weightsEach, Tryd.underlying43]
    have hz2 : s2.data.toList.length ≤ reachBytes := by
      refine hz _ ?_
      rw [hx, f1, f2]
      simp [DataW.weights, DataW.weightsEach, Tryd.underlying43]
    refine ⟨⟨z0, s1.data.toList, s2.data.toList, t⟩, _, _, _, _, _, _, _, _, rfl, ⟨int_wf w0, by unfold reachBytes at hz1; exact hz1, by unfold reachBytes at hz2; exact hz2, ⟨a7, a8, c7, c8, by simp, hv.is⟩⟩, ?_⟩
    rw [hx]
    simp only [List.map_cons, List.map_nil, Rows.uptoBulk, Rows.uptoBulkAll]
    omega
theorem arg_ops_bulk {H : Type} {enc : TypeId × Value → H} {W : World} {base : Nat} {v : Value} {d : DataW H} {p : List MemPlace} (hk : Value.okWide Tryd.prog W .any base 35 v) (h : DataW.Trod enc Tryd.prog W 0 (fun _ => true) true 35 v d p)
    (hz : ∀ n ∈ d.weights Tryd.prog 35, n ≤ reachBytes) : ∃ os, OpsAre W (fun _ => True) os v ∧ os.length ≤ Rows.uptoBulk d ∧ ∀ o ∈ os, siz o.value ≤ Rows.uptoBulk d := by
  obtain ⟨a0, len0, cap0, rfl⟩ := okWide_slice Tryd.underlying35 hk
  obtain ⟨f, hf⟩ := h
  have hf' : DataW.trod enc Tryd.prog W 0 (fun _ => true) true f 35 [.slice a0 len0 cap0] = some (d, p) := hf
  rcases DataW.trod_slice Tryd.underlying35 hf' with ⟨e, -⟩ | ⟨a, len, cap, elems, rest, k, ek, e, hx, -, hl, hm, hlen, hel, hsp, -⟩
  · simp only [List.cons.injEq, and_true] at e
    exact ⟨[], ⟨by simp, .inl ⟨rfl, none, e⟩⟩, by simp, by simp⟩
  · simp only [List.cons.injEq, and_true] at e
    simp only [Prod.mk.injEq] at hx
    rw [cellsOp] at hel hsp
    obtain ⟨hrl, hrest⟩ := hsp rfl
    have hzel : ∀ (i : Nat) (y : DataW H × List MemPlace), elems[i]? = some y → ∀ n ∈ y.1.weights Tryd.prog 43, n ≤ reachBytes := by
      intro i y hy n hn
      refine hz n ?_
      rw [hx.1]
      simp only [DataW.weights, Tryd.underlying35, List.mem_cons, List.mem_append]
      refine .inr (.inl (weights_all (j := i) (d := y.1) ?_ n hn))
      simp [List.getElem?_map, hy]
    have all : ∀ i, i < len → ∃ cs' y, W.cells? 0 (a.add (i * 8)) 8 = some cs' ∧ DataW.trod enc Tryd.prog W 0 (fun _ => true) true k 43 cs' = some y ∧ elems[i]? = some y := by
      intro i hi
      have := hel i hi
      rw [List.getElem?_eq_getElem (by omega)] at this
      obtain ⟨cs', h1, h2⟩ := Option.bind_eq_some_iff.1 this
      exact ⟨cs', _, h1, h2, List.getElem?_eq_getElem (by omega)⟩
    by_cases h0 : len = 0
    · subst h0
      by_cases hc0 : cap = 0
      · subst hc0
        exact ⟨[], ⟨by simp, .inl ⟨rfl, some a, e⟩⟩, by simp, by simp⟩
      · have ha : a = ⟨a.block, a.off, none⟩ := by
          have := hrest 0 (by omega)
          rw [List.getElem?_eq_getElem (by omega)] at this
          obtain ⟨cs', h1, -⟩ := Option.bind_eq_some_iff.1 this
          obtain ⟨-, h2, h3⟩ := World.cells?_some h1
          have := h3 0 (by omega)
          rw [List.getElem?_eq_getElem (by omega)] at this
          exact addr_plain (spot_none (v := cs'[0]) (by simpa [Addr.add] using this))
        exact ⟨[], ⟨by simp, .inr ⟨a.block, a.off, cap, by rw [← ha]; exact e, by simp, hm, fun i o ho => by simp at ho⟩⟩, by simp, by simp⟩
    · have ha : a = ⟨a.block, a.off, none⟩ := by
        obtain ⟨cs', y, h1, -⟩ := all 0 (by omega)
        obtain ⟨-, h2, h3⟩ := World.cells?_some h1
        have := h3 0 (by omega)
        rw [List.getElem?_eq_getElem (by omega)] at this
        exact addr_plain (spot_none (v := cs'[0]) (by simpa [Addr.add] using this))
      obtain ⟨T, hT⟩ := @Go.Deep.choose_lt OpT ⟨⟨0, [], [], zeroT⟩⟩ len (fun i o => ∃ v0 v1 v2 v3 v4 v5 v6 v7, W.cells? 0 (a.add (i * 8)) 8 = some [v0, v1, v2, v3, v4, v5, v6, v7] ∧ OpIn W (fun _ => True) o (.agg #[v0, v1, v2, v3, v4, v5, v6, v7]) ∧ siz o.value ≤ Rows.uptoBulk d) (fun i hi => by
        obtain ⟨cs', y, h1, h2, h3⟩ := all i hi
        obtain ⟨o, v0, v1, v2, v3, v4, v5, v6, v7, rfl, hv, hb⟩ := op_bulk k cs' y h2 (hzel i y h3)
        refine ⟨o, v0, v1, v2, v3, v4, v5, v6, v7, h1, hv, Nat.le_trans hb ?_⟩
        have h9 : y.1 ∈ elems.map (·.1) := List.mem_map_of_mem (List.mem_of_getElem? h3)
        have h8 := bulk_mem h9
        rw [hx.1]
        simp only [Rows.uptoBulk]
        omega)
      refine ⟨(List.range len).map T, ⟨by simp only [List.length_map, List.length_range]; unfold maxLen at hm; omega, .inr ⟨a.block, a.off, cap, by simp only [List.length_map, List.length_range]; rw [← ha]; exact e, by simp only [List.length_map, List.length_range]; omega, hm, fun i o ho => ?_⟩⟩, ?_, ?_⟩
      rotate_left
      · have h9 := bulk_len (elems.map (·.1))
        rw [hx.1]
        simp only [Rows.uptoBulk, List.length_map, List.length_range] at h9 ⊢
        omega
      · intro o ho
        obtain ⟨j, hj, rfl⟩ := List.mem_map.1 ho
        obtain ⟨v0, v1, v2, v3, v4, v5, v6, v7, -, -, h9⟩ := hT j (List.mem_range.1 hj)
        exact h9
      simp only [List.getElem?_map, Option.map_eq_some_iff] at ho
      obtain ⟨j, hj, rfl⟩ := ho
      obtain ⟨hj1, hj2⟩ := List.getElem?_eq_some_iff.1 hj
      simp only [List.length_range] at hj1
      simp only [List.getElem_range] at hj2
      subst hj2
      obtain ⟨v0, v1, v2, v3, v4, v5, v6, v7, h1, hv, -⟩ := hT i hj1
      obtain ⟨-, -, h3⟩ := World.cells?_some h1
      rw [ha] at h3
      have c : ∀ q, q < 8 → W.cell? ⟨a.block, a.off + i * 8 + q, none⟩ = [v0, v1, v2, v3, v4, v5, v6, v7][q]? := by
        intro q hq
        have := h3 q hq
        rw [addr_add, addr_add] at this
        exact this
      exact ⟨v0, v1, v2, v3, v4, v5, v6, v7, trivial, c 0 (by omega), c 1 (by omega), c 2 (by omega), c 3 (by omega), c 4 (by omega), c 5 (by omega), c 6 (by omega), c 7 (by omega), hv⟩
end Go.Proofs.YtaifciobaapehaaDoor

set_option linter.unusedSimpArgs false
set_option linter.unusedVariables false
namespace Go.Proofs.YtaifciobaapehaaDoor.patchDoes
open Go.ChangeShapes Go.WideShapes Go.ChangeAt Go.RowKit
open Go.ChangeMaps (open_string shut_string)

set_option maxRecDepth 100000 in
theorem contract (H : Type) (enc : TypeId × Value → H) (W : World) (base : Nat) (args : Array Value) (ds gs : List (DataW H)) (before : List MemPlace)
    (hval : ∀ (j : Nat) t v, Tryd.f5.params[j]? = some t → args[j]? = some v → Value.okWide Tryd.prog W .any base t v)
    (hW : DataW.Whole enc Tryd.prog Tryd.f5.params.toList Rows.patchDoesSpec.vars false W args.toList ds gs before)
    (hk : Rows.uptoSmall H (ds ++ gs) = true) (hZ : (DataW.weightsEach Tryd.prog (Tryd.f5.params.toList ++ (OpenSpec.ofChange Rows.patchDoesSpec).bare.plain.varTypes Tryd.prog) (ds ++ gs)).all (· ≤ reachBytes) = true) (hS : W.ShapedOpen Tryd.prog) :
    Calls Tryd.prog 5 args W fun e W' => ∃ v, e = .returned v ∧ Rows.patchDoesSpec.post enc Tryd.prog Tryd.f5 false true false false W args v W' := by
  have hW' := hW
  obtain ⟨p, q, hA0, hV, rfl, hfz, hnd⟩ := hW
  have hA : DataW.TrodAll enc Tryd.prog W 0 (fun _ => true) true Tryd.f5.params.toList args.toList ds p := hA0
  rw [Tryd.params5] at hA hval
  obtain ⟨v0, vs0, d0, ds0, p0, q0, hargs0, rfl, rfl, h0, r0⟩ := trodAll_cons hA
  obtain ⟨v1, vs1, d1, ds1, p1, q1, hargs1, rfl, rfl, h1, r1⟩ := trodAll_cons r0
  obtain ⟨rfl, rfl, rfl⟩ := trodAll_nil r1
  subst hargs1
  have hargs : args = #[v0, v1] := by
    obtain ⟨l⟩ := args
    exact congrArg Array.mk hargs0
  subst hargs
  obtain ⟨rfl, rfl⟩ := trodVars_none hV
  have k0 : Value.okWide Tryd.prog W .any base 25 v0 := hval 0 _ _ (by simp) (by simp)
  have k1 : Value.okWide Tryd.prog W .any base 35 v1 := hval 1 _ _ (by simp) (by simp)
  obtain ⟨f0, t0, hv0, hz0⟩ := arg_bulk k0 h0
  obtain ⟨os1, hv1, hn1, hx1⟩ := arg_ops_bulk k1 h1 (fun n hn => of_decide_eq_true (List.all_eq_true.1 hZ n (DataW.weights_mem_each (j := 1) (by rw [Tryd.params5]; rfl) rfl n hn)))
  clear hA0
  simp only [List.append_nil] at hW'
  have hb := bulk_bound hk
  simp only [List.append_nil, Rows.uptoBulkAll] at hb
  have b0 : siz t0 ≤ 2000000 := by omega
  have walk := patchDoes_walk W (fun _ => True) f0 t0 v0 hv0 b0 os1 v1 hv1 (by omega) (fun o ho => by have := hx1 o ho; omega) (glob_pt hS)
  refine walk.mono fun e W' ⟨he, hg⟩ => ?_
  subst he
  have ef : Rows.patchDoesSpec.fn H ([d0, d1] ++ []) = { results := [.lit (.bool true)], args := [d0, d1] } := rfl
  refine ⟨_, rfl, _, _, _, [], (p0 ++ (p1 ++ [])), [], hW', ?_, ?_, ?_, hg.frame _, fun h => by cases h⟩
  · rw [ef]; exact trodAll_mk1 (shut_bool Tryd.underlying4 _)
  · rw [ef, Tryd.params5]; exact trodAll_cons_mk (Below.trod laidOut readableV rowedV h0 hg (trod_old h0)) (trodAll_cons_mk (Below.trod laidOut readableO rowedO h1 hg (trod_old h1)) (trodAll_mk0))
  · rw [ef]; rfl

set_option maxRecDepth 100000 in
theorem reads (os : Os) {H : Type} (enc : TypeId × Value → H) : ∃ places, DataW.whole enc Tryd.prog ((ptWorld os).forCall (fun _ _ => 0) ⟨#[], #[.agg #[.int .i64 0, .int .i64 0, .string ⟨#[]⟩, .slice none 0 0, .slice none 0 0], .slice none 0 0], []⟩).memory Tryd.f5.params.toList Rows.patchDoesSpec.vars false #[Value.agg #[.int .i64 0, .int .i64 0, .string ⟨#[]⟩, .slice none 0 0, .slice none 0 0], Value.slice none 0 0].toList 8 = some ([.agg [.lit (.int .i64 0), .lit (.int .i64 0), .lit (.string []), .nil, .nil], .nil], [], places) :=
  ⟨[], by kernel_rfl⟩

set_option maxRecDepth 100000 in
theorem lifted (os : Os) (started : os.Started) (H : Type) (enc : TypeId × Value → H) (F : Stop.Interp) :
    ReturnsInHanded {} Tryd.checked os 5 .any ((Rows.OpenSpec.upto Rows.patchDoesSpec).preRow enc Tryd.prog Tryd.f5 Rows.patchDoesUptoRow.domain false Rows.patchDoesUptoRow.laid) (((Rows.OpenSpec.upto Rows.patchDoesSpec).at F).post enc Tryd.prog Tryd.f5 false true false false) := by
  obtain ⟨places, hx⟩ := reads os enc
  refine returnsInHanded_of_row (C := Tryd.checked) (s := Rows.OpenSpec.upto Rows.patchDoesSpec) own started (by kernel_rfl) Tryd.func5
    (witness_row_at (enc := enc) (C := Tryd.checked) false (ptWorld os) #[.agg #[.int .i64 0, .int .i64 0, .string ⟨#[]⟩, .slice none 0 0, .slice none 0 0], .slice none 0 0] rfl (by kernel_rfl) (by kernel_rfl) (by kernel_rfl)
      (OpenSpec.preRow_of_cond 8 hx (by kernel_rfl) (fun k hk => by cases hk; kernel_rfl) (by kernel_rfl) (pt_met os _))) ?_
  intro W base args ds gs before hval hW _ hc hZ hL hS _
  exact contract H enc W base args ds gs before hval hW (hc _ rfl) hZ hS

theorem said : Rows.PatchDoesUptoSaid :=
  OpenClaim.holds_of_cond 5 Tryd.f5 rfl rfl rfl rfl rfl rfl rfl ⟨rfl, rfl, rfl, rfl, rfl⟩ rfl rfl rfl rfl rfl (by kernel_rfl) Tryd.func5 (by kernel_rfl)
    (of_decide_eq_true (by kernel_rfl)) (by unfold Func.isWrapper; first | (rw [if_pos (by decide +kernel)]; kernel_rfl) | (rw [if_neg (by decide +kernel)]; exact ⟨rfl, rfl⟩))
    (fun os started H enc _ F => by rw [OpenClaim.pre_eq_preRow]; exact lifted os started H enc F)

theorem plain (f : FuncId) (fn : Func) (hf : Tryd.pinned.checked.prog.funcNamed "stairwell/stairwelllaw.PatchDoes" = some f) (hfn : Tryd.pinned.checked.prog.funcs[f]? = some fn) :
    false = Tryd.pinned.checked.prog.looks [] ∧ ∀ (j : Nat) t, fn.params[j]? = some t → Tryd.pinned.checked.prog.wantsStandIn t = false := by
  obtain rfl : f = 5 := Option.some.inj ((show Tryd.prog.funcNamed "stairwell/stairwelllaw.PatchDoes" = some 5 by kernel_rfl).symm.trans hf) |>.symm
  obtain rfl : fn = Tryd.f5 := (Option.some.inj (Tryd.func5.symm.trans hfn)).symm
  refine ⟨by kernel_rfl, fun j t ht => ?_⟩
  rw [Tryd.params5] at ht
  have hm := Array.mem_of_getElem? ht
  simp only [Array.mem_def, List.mem_cons, List.not_mem_nil, or_false] at hm
  rcases hm with rfl | rfl
  · exact (show Tryd.prog.wantsStandIn 25 = false by kernel_rfl)
  · exact (show Tryd.prog.wantsStandIn 35 = false by kernel_rfl)

theorem card : Rows.PatchDoesUptoCardSaid :=
  Claim7.holds_tied_plain_at .later [] _ _ _ _ said (fun _ h => by cases h) (by kernel_rfl) (fun _ h => by cases h) patchDoesUpto_row_tie rfl ⟨rfl, rfl⟩ (by kernel_rfl) rfl plain (by kernel_rfl)
end Go.Proofs.YtaifciobaapehaaDoor.patchDoes
