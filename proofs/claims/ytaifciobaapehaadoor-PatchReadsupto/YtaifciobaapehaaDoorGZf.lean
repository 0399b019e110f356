/- What ReadOps of package stairwellref does. -/
import Derived.Test.YtaifciobaapehaaDoorGZd
import Derived.Test.YtaifciobaapehaaDoorGFm
import Derived.Maps.AppendAt
import Derived.Lib.AppendZeros
/- What ReadOps of package stairwellref does. -/
set_option linter.unusedSimpArgs false
set_option linter.unusedVariables false
namespace Go.Proofs.YtaifciobaapehaaDoor
open Go.RowKit

def opCells (o : OpT) (a7 a8 : Option Addr) (c7 c8 : Nat) : List Value := [.int .i64 o.kind, .string ⟨o.path.toArray⟩, .string ⟨o.frm.toArray⟩, .int .i64 o.value.kind, .int .i64 o.value.n, .string ⟨o.value.s.toArray⟩, .slice a7 o.value.keys.length c7, .slice a8 o.value.l.length c8]
/- Cells that hold operations. -/
def RowOp (w : World) (ok : Nat → Prop) : List OpT → List Value → Prop
  | [], cs => cs = []
  | o :: os, cs => ∃ a7 a8 c7 c8 rest, cs = opCells o a7 a8 c7 c8 ++ rest ∧ (I64 o.kind ∧ o.path.length ≤ 140737488351232 ∧ o.frm.length ≤ 140737488351232) ∧ In w ok o.value (.agg #[.int .i64 o.value.kind, .int .i64 o.value.n, .string ⟨o.value.s.toArray⟩, .slice a7 o.value.keys.length c7, .slice a8 o.value.l.length c8]) ∧ RowOp w ok os rest
theorem RowOp.imp {w w' : World} {ok ok' : Nat → Prop} (h : ∀ x v, In w ok x v → In w' ok' x v) : ∀ {os : List OpT} {cs : List Value}, RowOp w ok os cs → RowOp w' ok' os cs
  | [], cs, e => e
  | o :: os, cs, ⟨a7, a8, c7, c8, rest, e, g, hi, hr⟩ => ⟨a7, a8, c7, c8, rest, e, g, h _ _ hi, hr.imp h⟩
theorem RowOp.snoc {w : World} {ok : Nat → Prop} {o : OpT} {a7 a8 : Option Addr} {c7 c8 : Nat} (g : I64 o.kind ∧ o.path.length ≤ 140737488351232 ∧ o.frm.length ≤ 140737488351232) (hi : In w ok o.value (.agg #[.int .i64 o.value.kind, .int .i64 o.value.n, .string ⟨o.value.s.toArray⟩, .slice a7 o.value.keys.length c7, .slice a8 o.value.l.length c8])) : ∀ {os : List OpT} {cs : List Value}, RowOp w ok os cs → RowOp w ok (os ++ [o]) (cs ++ opCells o a7 a8 c7 c8)
  | [], cs, e => by
    have e : cs = [] := e
    subst e
    exact ⟨a7, a8, c7, c8, [], by simp, g, hi, rfl⟩
  | z :: os, cs, ⟨b7, b8, d7, d8, rest, e, g2, hi2, hr⟩ => ⟨b7, b8, d7, d8, rest ++ opCells o a7 a8 c7 c8, by rw [e]; simp, g2, hi2, hr.snoc g hi⟩
theorem RowOp.length {w : World} {ok : Nat → Prop} : ∀ {os : List OpT} {cs : List Value}, RowOp w ok os cs → cs.length = os.length * 8
  | [], cs, e => by have e : cs = [] := e; subst e; rfl
  | o :: os, cs, ⟨a7, a8, c7, c8, rest, e, g, hi, hr⟩ => by rw [e]; simp [opCells, hr.length]; omega
theorem RowOp.at {w : World} {ok : Nat → Prop} : ∀ {os : List OpT} {cs : List Value}, RowOp w ok os cs → ∀ (i : Nat) (o : OpT), os[i]? = some o → ∃ a7 a8 c7 c8, (I64 o.kind ∧ o.path.length ≤ 140737488351232 ∧ o.frm.length ≤ 140737488351232) ∧ In w ok o.value (.agg #[.int .i64 o.value.kind, .int .i64 o.value.n, .string ⟨o.value.s.toArray⟩, .slice a7 o.value.keys.length c7, .slice a8 o.value.l.length c8]) ∧ ∀ j, j < 8 → cs[i * 8 + j]? = (opCells o a7 a8 c7 c8)[j]?
  | [], cs, e, i, o, ho => by simp at ho
  | z :: os, cs, ⟨a7, a8, c7, c8, rest, e, g, hi, hr⟩, 0, o, ho => by
    simp at ho
    subst ho
    refine ⟨a7, a8, c7, c8, g, hi, fun j hj => ?_⟩
    rw [e, List.getElem?_append_left (by simp [opCells]; omega)]
    simp
  | z :: os, cs, ⟨a7, a8, c7, c8, rest, e, g, hi, hr⟩, i + 1, o, ho => by
    obtain ⟨b7, b8, d7, d8, g2, hi2, h3⟩ := hr.at i o (by simpa using ho)
    refine ⟨b7, b8, d7, d8, g2, hi2, fun j hj => ?_⟩
    rw [e, List.getElem?_append_right (by simp [opCells]; omega), ← h3 j hj]
    congr 1
    simp [opCells]; omega
theorem own_ops {w : World} {B : Nat} {ok ok' : Nat → Prop} {v : Value} {os : List OpT} {cs : List Value} {n : Nat} (h : w.ownsRow B 43 8 v n cs) (hr : RowOp w ok os cs) (hn : n ≤ 1000) (hB : ∀ k, B ≤ k → ok' k) (hk : ∀ k, ok k → ok' k) : OpsAre w ok' os v := by
  have hl : os.length = n := by have := h.1; have := hr.length; omega
  refine ⟨by omega, ?_⟩
  rcases h.2 with ⟨e, h0⟩ | ⟨g, cap, cur, e, h1, h2, h3, h4, h5, h6⟩
  · exact .inl ⟨List.eq_nil_of_length_eq_zero (by omega), none, e⟩
  · refine .inr ⟨g, 0, cap, by rw [hl]; exact e, by omega, h4, fun i o ho => ?_⟩
    obtain ⟨a7, a8, c7, c8, ⟨g1, g2, g3⟩, hi, hq⟩ := hr.at i o ho
    have cell : ∀ j u, j < 8 → (opCells o a7 a8 c7 c8)[j]? = some u → w.cell? ⟨g, 0 + i * 8 + j, none⟩ = some u := by
      intro j u hj hu
      have := h.cells (g := g) (by rw [e]; rfl) (i * 8 + j) u (by rw [hq j hj]; exact hu)
      rw [addr_add] at this
      rw [show 0 + i * 8 + j = 0 + (i * 8 + j) by omega]
      exact this
    exact ⟨_, _, _, _, _, _, _, _, hB g h1, cell 0 _ (by omega) rfl, cell 1 _ (by omega) rfl, cell 2 _ (by omega) rfl, cell 3 _ (by omega) rfl, cell 4 _ (by omega) rfl, cell 5 _ (by omega) rfl, cell 6 _ (by omega) rfl, cell 7 _ (by omega) rfl, g1, g2, g3, a7, a8, c7, c8, rfl, hi.weak hk⟩
/- An operation pushed onto a row of one's own. -/
theorem run_pushO (W : World) (B : Nat) (v : Value) (cs : List Value) (n : Nat) (o : OpT) (a7 a8 : Option Addr) (c7 c8 : Nat) (h : W.ownsRow B 43 8 v n cs) (hn : n ≤ 1000) (hB : B ≤ W.heap.size) (ty : TypeId) :
    ∃ a' c' W', (Builtin.append_ #[35, 35] ty #[v, .slice (some ⟨W.heap.size, 0, none⟩) 1 1]).run Tryd.prog (W.alloc (.cells #[.int .i64 o.kind, .string ⟨o.path.toArray⟩, .string ⟨o.frm.toArray⟩, .int .i64 o.value.kind, .int .i64 o.value.n, .string ⟨o.value.s.toArray⟩, .slice a7 o.value.keys.length c7, .slice a8 o.value.l.length c8] 43)) = .ok (.slice a' (n + 1) c') W' ∧ W'.ownsRow B 43 8 (.slice a' (n + 1) c') (n + 1) (cs ++ opCells o a7 a8 c7 c8) ∧ W.grownBy W' v.ownBlock := by
  obtain ⟨i0, hi, hz0, hz1, hz2⟩ := infoOp
  have hc : ∀ j u, (opCells o a7 a8 c7 c8)[j]? = some u → (W.alloc (.cells #[.int .i64 o.kind, .string ⟨o.path.toArray⟩, .string ⟨o.frm.toArray⟩, .int .i64 o.value.kind, .int .i64 o.value.n, .string ⟨o.value.s.toArray⟩, .slice a7 o.value.keys.length c7, .slice a8 o.value.l.length c8] 43)).cell? ((⟨W.heap.size, 0, none⟩ : Addr).add j) = some u := by
    have hb : (W.alloc (.cells #[.int .i64 o.kind, .string ⟨o.path.toArray⟩, .string ⟨o.frm.toArray⟩, .int .i64 o.value.kind, .int .i64 o.value.n, .string ⟨o.value.s.toArray⟩, .slice a7 o.value.keys.length c7, .slice a8 o.value.l.length c8] 43)).heap[W.heap.size]? = some (.cells #[.int .i64 o.kind, .string ⟨o.path.toArray⟩, .string ⟨o.frm.toArray⟩, .int .i64 o.value.kind, .int .i64 o.value.n, .string ⟨o.value.s.toArray⟩, .slice a7 o.value.keys.length c7, .slice a8 o.value.l.length c8] 43) := heap_alloc_new W _
    exact World.news_of_block (cs := #[.int .i64 o.kind, .string ⟨o.path.toArray⟩, .string ⟨o.frm.toArray⟩, .int .i64 o.value.kind, .int .i64 o.value.n, .string ⟨o.value.s.toArray⟩, .slice a7 o.value.keys.length c7, .slice a8 o.value.l.length c8]) hb
  have h1 : ∀ u ∈ opCells o a7 a8 c7 c8, u.oneCell' = true := by
    intro u hu
    simp only [opCells, List.mem_cons, List.not_mem_nil, or_false] at hu
    rcases hu with rfl | rfl | rfl | rfl | rfl | rfl | rfl | rfl <;> rfl
  obtain ⟨v', W', hr, ho, hg, -, -⟩ := run_append_own_at (P := Tryd.prog) (W.alloc (.cells #[.int .i64 o.kind, .string ⟨o.path.toArray⟩, .string ⟨o.frm.toArray⟩, .int .i64 o.value.kind, .int .i64 o.value.n, .string ⟨o.value.s.toArray⟩, .slice a7 o.value.keys.length c7, .slice a8 o.value.l.length c8] 43)) B 35 ty 43 i0 _ 8 120 Tryd.underlying35 hi hz0 hz1 hz2 rfl (by decide) v n cs (h.alloc _) ⟨W.heap.size, 0, none⟩ 1 1 (opCells o a7 a8 c7 c8) rfl hc h1 (by unfold maxLen; omega) (by omega) (by simp; omega)
  have hf : ∃ a' c', v' = .slice a' (n + 1) c' := by
    rcases ho.2 with ⟨e, h0⟩ | ⟨g, cap, cur, e, -⟩
    · omega
    · exact ⟨_, _, e⟩
  obtain ⟨a', c', rfl⟩ := hf
  exact ⟨a', c', W', hr, ho, gb_trans (World.grownBy_alloc W _ _) hg⟩
end Go.Proofs.YtaifciobaapehaaDoor

set_option linter.unusedSimpArgs false
set_option linter.unusedVariables false
namespace Go.Proofs.YtaifciobaapehaaDoor
open Go.RowKit

set_option maxRecDepth 100000 in
set_option maxHeartbeats 8000000 in
theorem rops_bad (w : World) (ok : Nat → Prop) (t : V) (v : Value) (h : In w ok t v) (h0 : ∀ k, ok k → k < w.heap.size) (hN : cnt t ≤ 1000000000000000) (hg : goodV t = false) : Calls Tryd.prog 16 #[v] w fun e w' => ∃ sl, e = .returned (.tuple #[sl, .int .i64 (readOF t).2]) ∧ OpsAre w' (okN ok w.heap.size) (readOF t).1 sl ∧ Below w.heap.size w w' := by
  have H := hidI h
  have H0 := hidI h0
  have HN := hidI hN
  obtain ⟨a1, b1, c1, d1, rfl⟩ := h.form
  have K0 : Hid (BoxIs (w.alloc (.cells #[.int .i64 t.kind, .int .i64 t.n, .string ⟨t.s.toArray⟩, .slice a1 t.keys.length c1, .slice b1 t.l.length d1] 25)) w.heap.size (.int .i64 t.kind) (.int .i64 t.n) (.string ⟨t.s.toArray⟩) (.slice a1 t.keys.length c1) (.slice b1 t.l.length d1) ∧ Below w.heap.size w (w.alloc (.cells #[.int .i64 t.kind, .int .i64 t.n, .string ⟨t.s.toArray⟩, .slice a1 t.keys.length c1, .slice b1 t.l.length d1] 25))) := hidI ⟨heap_alloc_new w _, bel_alloc _ _⟩
  have HA : Hid (readOF t = ([], 1)) := hidI (by rw [readOF, if_pos (.inr hg)])
  clear h h0 hN
  go_enter Tryd.func16, Tryd.ntmps16
  go_wp2_with (go_at_call 27; refine (rgood_is _ ok t _ (by exact H.out.bel K0.out.2) HN.out).mono ?_; rintro e w1 ⟨rfl, hb⟩; rw [hg]; have K1 : Hid (BoxIs w1 w.heap.size (.int .i64 t.kind) (.int .i64 t.n) (.string ⟨t.s.toArray⟩) (.slice a1 t.keys.length c1) (.slice b1 t.l.length d1) ∧ Below w.heap.size w w1) := hidI ⟨box_bel hb K0.out.1, bel_trans K0.out.2 hb⟩; obtain ⟨t0, t1, t2, t3, t4, -⟩ := K1.out.1.c; clear hb)
  refine bodyPost_ret (v := .tuple #[.slice none 0 0, .int .i64 1]) (by simp [results, Tryd.results16, go_sem]) rfl ?_
  exact ⟨.slice none 0 0, by rw [HA.out], by rw [HA.out]; exact ⟨by simp, .inl ⟨rfl, none, rfl⟩⟩, K1.out.2⟩
set_option maxRecDepth 100000 in
set_option maxHeartbeats 8000000 in
theorem rops_kind (w : World) (ok : Nat → Prop) (t : V) (v : Value) (h : In w ok t v) (h0 : ∀ k, ok k → k < w.heap.size) (hN : cnt t ≤ 1000000000000000) (hk : t.kind ≠ 4) (hg : goodV t = true) : Calls Tryd.prog 16 #[v] w fun e w' => ∃ sl, e = .returned (.tuple #[sl, .int .i64 (readOF t).2]) ∧ OpsAre w' (okN ok w.heap.size) (readOF t).1 sl ∧ Below w.heap.size w w' := by
  have H := hidI h
  have H0 := hidI h0
  have HN := hidI hN
  obtain ⟨a1, b1, c1, d1, rfl⟩ := h.form
  have K0 : Hid (BoxIs (w.alloc (.cells #[.int .i64 t.kind, .int .i64 t.n, .string ⟨t.s.toArray⟩, .slice a1 t.keys.length c1, .slice b1 t.l.length d1] 25)) w.heap.size (.int .i64 t.kind) (.int .i64 t.n) (.string ⟨t.s.toArray⟩) (.slice a1 t.keys.length c1) (.slice b1 t.l.length d1) ∧ Below w.heap.size w (w.alloc (.cells #[.int .i64 t.kind, .int .i64 t.n, .string ⟨t.s.toArray⟩, .slice a1 t.keys.length c1, .slice b1 t.l.length d1] 25))) := hidI ⟨heap_alloc_new w _, bel_alloc _ _⟩
  have HA : Hid (readOF t = ([], 1)) := hidI (by rw [readOF, if_pos (.inl hk)])
  have e1 : (t.kind == 4) = false := by simp [hk]
  have e1n : (t.kind != 4) = true := by simp [hk]
  clear h h0 hN hk
  go_enter Tryd.func16, Tryd.ntmps16
  go_wp2_with (go_at_call 27; refine (rgood_is _ ok t _ (by exact H.out.bel K0.out.2) HN.out).mono ?_; rintro e w1 ⟨rfl, hb⟩; rw [hg]; have K1 : Hid (BoxIs w1 w.heap.size (.int .i64 t.kind) (.int .i64 t.n) (.string ⟨t.s.toArray⟩) (.slice a1 t.keys.length c1) (.slice b1 t.l.length d1) ∧ Below w.heap.size w w1) := hidI ⟨box_bel hb K0.out.1, bel_trans K0.out.2 hb⟩; obtain ⟨t0, t1, t2, t3, t4, -⟩ := K1.out.1.c; clear hb)
  refine bodyPost_ret (v := .tuple #[.slice none 0 0, .int .i64 1]) (by simp [results, Tryd.results16, go_sem]) rfl ?_
  exact ⟨.slice none 0 0, by rw [HA.out], by rw [HA.out]; exact ⟨by simp, .inl ⟨rfl, none, rfl⟩⟩, K1.out.2⟩
set_option maxRecDepth 100000 in
set_option maxHeartbeats 8000000 in
theorem rops_long (w : World) (ok : Nat → Prop) (t : V) (v : Value) (h : In w ok t v) (h0 : ∀ k, ok k → k < w.heap.size) (hN : cnt t ≤ 1000000000000000) (hk : t.kind = 4) (hg : goodV t = true) (hl : 20 < t.l.length) : Calls Tryd.prog 16 #[v] w fun e w' => ∃ sl, e = .returned (.tuple #[sl, .int .i64 (readOF t).2]) ∧ OpsAre w' (okN ok w.heap.size) (readOF t).1 sl ∧ Below w.heap.size w w' := by
  have H := hidI h
  have H0 := hidI h0
  have HN := hidI hN
  obtain ⟨a1, b1, c1, d1, rfl⟩ := h.form
  have K0 : Hid (BoxIs (w.alloc (.cells #[.int .i64 t.kind, .int .i64 t.n, .string ⟨t.s.toArray⟩, .slice a1 t.keys.length c1, .slice b1 t.l.length d1] 25)) w.heap.size (.int .i64 t.kind) (.int .i64 t.n) (.string ⟨t.s.toArray⟩) (.slice a1 t.keys.length c1) (.slice b1 t.l.length d1) ∧ Below w.heap.size w (w.alloc (.cells #[.int .i64 t.kind, .int .i64 t.n, .string ⟨t.s.toArray⟩, .slice a1 t.keys.length c1, .slice b1 t.l.length d1] 25))) := hidI ⟨heap_alloc_new w _, bel_alloc _ _⟩
  have HA : Hid (readOF t = ([], 2)) := hidI (by rw [readOF, if_neg (by simp [hk, hg]), if_pos hl])
  have e1 : (t.kind == 4) = true := by simp [hk]
  have e1n : (t.kind != 4) = false := by simp [hk]
  have e2 : 20 < (t.l.length : Int) := by omega
  clear h h0 hN hk hl
  go_enter Tryd.func16, Tryd.ntmps16
  go_wp2_with (go_at_call 27; refine (rgood_is _ ok t _ (by exact H.out.bel K0.out.2) HN.out).mono ?_; rintro e w1 ⟨rfl, hb⟩; rw [hg]; have K1 : Hid (BoxIs w1 w.heap.size (.int .i64 t.kind) (.int .i64 t.n) (.string ⟨t.s.toArray⟩) (.slice a1 t.keys.length c1) (.slice b1 t.l.length d1) ∧ Below w.heap.size w w1) := hidI ⟨box_bel hb K0.out.1, bel_trans K0.out.2 hb⟩; obtain ⟨t0, t1, t2, t3, t4, -⟩ := K1.out.1.c; clear hb)
  refine bodyPost_ret (v := .tuple #[.slice none 0 0, .int .i64 2]) (by simp [results, Tryd.results16, go_sem]) rfl ?_
  exact ⟨.slice none 0 0, by rw [HA.out], by rw [HA.out]; exact ⟨by simp, .inl ⟨rfl, none, rfl⟩⟩, K1.out.2⟩
/- A round of ReadOps: the item and its members, in their boxes. -/
def RQ (w : World) (ok : Nat → Prop) (k : Nat) (la : Option Addr) (lc : Nat) (os : List OpT) (cs : List Value) (W : World) : Prop := W.ownsRow (w.heap.size + 1) 43 8 (.slice la k lc) k cs ∧ RowOp W ok os cs ∧ Below w.heap.size w W ∧ os.length = k ∧ w.heap.size < W.heap.size
theorem RQ.bel {w W W' : World} {ok : Nat → Prop} {k lc : Nat} {la : Option Addr} {os : List OpT} {cs : List Value} (h : RQ w ok k la lc os cs W) (hb : Below W.heap.size W W') : RQ w ok k la lc os cs W' :=
  ⟨h.1.kept (gb_below hb : W.grownBy W' none) (by cases e : (Value.slice la k lc).ownBlock with | none => exact .inl rfl | some j => exact .inr (by simp)), h.2.1.imp fun x v hi => hi.bel hb, bel_trans h.2.2.1 hb, h.2.2.2.1, Nat.lt_of_lt_of_le h.2.2.2.2 hb.size⟩
theorem RQ.push {w W W' : World} {ok : Nat → Prop} {k lc lc' : Nat} {la la' : Option Addr} {os : List OpT} {cs : List Value} {o : OpT} {a7 a8 : Option Addr} {c7 c8 : Nat} (h : RQ w ok k la lc os cs W) (h0 : ∀ k, ok k → k < w.heap.size) (ho : W'.ownsRow (w.heap.size + 1) 43 8 (.slice la' (k + 1) lc') (k + 1) (cs ++ opCells o a7 a8 c7 c8)) (hg : W.grownBy W' (Value.slice la k lc).ownBlock) (g : I64 o.kind ∧ o.path.length ≤ 140737488351232 ∧ o.frm.length ≤ 140737488351232) (hi : In W ok o.value (.agg #[.int .i64 o.value.kind, .int .i64 o.value.n, .string ⟨o.value.s.toArray⟩, .slice a7 o.value.keys.length c7, .slice a8 o.value.l.length c8])) :
    RQ w ok (k + 1) la' lc' (os ++ [o]) (cs ++ opCells o a7 a8 c7 c8) W' := by
  obtain ⟨h1, h2, h3, h4, h5⟩ := h
  have hlow := h1.lt
  have hgi : ∀ x v, In W ok x v → In W' ok x v := fun x v hi => by
    obtain ⟨d, hd⟩ := hi
    exact ⟨d, hd.grown hg (fun j hj e => by have := (hlow j e.symm).1; have := h0 j hj; omega)⟩
  refine ⟨ho, RowOp.snoc g (hgi _ _ hi) (h2.imp hgi), ?_, by simp [h4], Nat.lt_of_lt_of_le h5 hg.size⟩
  exact ⟨hg.os.trans h3.os, hg.tape.trans h3.tape, hg.output.trans h3.output, Nat.le_trans h3.size hg.size, fun j hj => (hg.block j (by omega) (fun e => by have := (hlow _ e.symm).1; omega)).trans (h3.block j hj)⟩
theorem RQ.far {w W W' : World} {ok : Nat → Prop} {k lc g : Nat} {la : Option Addr} {os : List OpT} {cs : List Value} (h : RQ w ok k la lc os cs W) (h0 : ∀ k, ok k → k < w.heap.size) (hg : W.grownBy W' (some g)) (hne : ∀ j, (Value.slice la k lc).ownBlock = some j → j ≠ g) (hw : w.heap.size ≤ g) : RQ w ok k la lc os cs W' := by
  obtain ⟨h1, h2, h3, h4, h5⟩ := h
  refine ⟨h1.kept hg ?_, h2.imp fun x v hi => hi.grown hg (fun j hj => by have := h0 j hj; omega), ?_, h4, Nat.lt_of_lt_of_le h5 hg.size⟩
  · cases e : (Value.slice la k lc).ownBlock with
    | none => exact .inl rfl
    | some j => exact .inr (fun e2 => hne j e (by cases e2; rfl))
  · exact ⟨hg.os.trans h3.os, hg.tape.trans h3.tape, hg.output.trans h3.output, Nat.le_trans h3.size hg.size, fun j hj => (hg.block j (by omega) (fun e => by cases e; omega)).trans (h3.block j hj)⟩
def kU (k : Nat) (s : List UInt8) : Int := if s ∈ wordsL.take k then kindF s else 0
theorem kU_full (s : List UInt8) : kU 6 s = kindF s := by
  unfold kU
  split
  · rfl
  · rename_i h
    unfold kindF
    cases hi : idxL s wordsL with
    | none => rfl
    | some i => exact absurd (List.mem_of_getElem? (idxL_lt hi).2) h
theorem kU_at0 : kU 1 [97, 100, 100] = 1 := by decide
theorem kU_at1 : kU 2 [114, 101, 109, 111, 118, 101] = 2 := by decide
theorem kU_at2 : kU 3 [114, 101, 112, 108, 97, 99, 101] = 3 := by decide
theorem kU_at3 : kU 4 [109, 111, 118, 101] = 4 := by decide
theorem kU_at4 : kU 5 [99, 111, 112, 121] = 5 := by decide
theorem kU_at5 : kU 6 [116, 101, 115, 116] = 6 := by decide
theorem kU_far {k : Nat} {s : List UInt8} (hk : k < 6) (h : wordsL[k]'(by simpa [wordsL] using hk) ≠ s) : kU (k + 1) s = kU k s := by
  unfold kU
  rw [List.take_succ_eq_append_getElem (by simpa [wordsL] using hk)]
  simp only [List.mem_append, List.mem_singleton]
  by_cases h1 : s ∈ wordsL.take k
  · rw [if_pos (.inl h1), if_pos h1]
  · rw [if_neg (by rintro (h2 | h2); exact h1 h2; exact h h2.symm), if_neg h1]
set_option maxRecDepth 100000 in
set_option maxHeartbeats 8000000 in
theorem rops_list (w : World) (ok : Nat → Prop) (t : V) (v : Value) (h : In w ok t v) (h0 : ∀ k, ok k → k < w.heap.size) (hN : cnt t ≤ 1000000000000000) (hk : t.kind = 4) (hg : goodV t = true) (hl : t.l.length ≤ 20) : Calls Tryd.prog 16 #[v] w fun e w' => ∃ sl, e = .returned (.tuple #[sl, .int .i64 (readOF t).2]) ∧ OpsAre w' (okN ok w.heap.size) (readOF t).1 sl ∧ Below w.heap.size w w' := by
  have H := hidI h
  have H0 := hidI h0
  have HN := hidI hN
  obtain ⟨a1, b1, c1, d1, rfl⟩ := h.form
  have K0 : Hid (BoxIs (w.alloc (.cells #[.int .i64 t.kind, .int .i64 t.n, .string ⟨t.s.toArray⟩, .slice a1 t.keys.length c1, .slice b1 t.l.length d1] 25)) w.heap.size (.int .i64 t.kind) (.int .i64 t.n) (.string ⟨t.s.toArray⟩) (.slice a1 t.keys.length c1) (.slice b1 t.l.length d1) ∧ Below w.heap.size w (w.alloc (.cells #[.int .i64 t.kind, .int .i64 t.n, .string ⟨t.s.toArray⟩, .slice a1 t.keys.length c1, .slice b1 t.l.length d1] 25))) := hidI ⟨heap_alloc_new w _, bel_alloc _ _⟩
  have e1 : (t.kind == 4) = true := by simp [hk]
  have e1n : (t.kind != 4) = false := by simp [hk]
  have e2 : ¬ 20 < (t.l.length : Int) := by omega
  have NT := hidI (nice_of hg)
  have FB : Hid (allG opF t.l = none → readOF t = ([], 1)) := hidI (fun hx => by rw [readOF, if_neg (by simp [hk, hg]), if_neg (by omega), hx])
  have FO : Hid (∀ os, allG opF t.l = some os → readOF t = (os, 0)) := hidI (fun os hx => by rw [readOF, if_neg (by simp [hk, hg]), if_neg (by omega), hx])
  have HL := hidI hl
  clear h h0 hN hk
  go_enter Tryd.func16, Tryd.ntmps16
  go_wp2_with (go_at_call 27; refine (rgood_is _ ok t _ (by exact H.out.bel K0.out.2) HN.out).mono ?_; rintro e w1 ⟨rfl, hb⟩; rw [hg]; have K1 : Hid (BoxIs w1 w.heap.size (.int .i64 t.kind) (.int .i64 t.n) (.string ⟨t.s.toArray⟩) (.slice a1 t.keys.length c1) (.slice b1 t.l.length d1) ∧ Below w.heap.size w w1) := hidI ⟨box_bel hb K0.out.1, bel_trans K0.out.2 hb⟩; obtain ⟨t0, t1, t2, t3, t4, -⟩ := K1.out.1.c; clear hb)
  have K2 : Hid (RQ w ok 0 none 0 [] [] w1) := hidI ⟨World.ownsRow_nil _ _ _ _, rfl, K1.out.2, rfl, K1.out.1.lt⟩
  clear t0 t1 t2 t3 t4
  go_loopg [4, 6, 7, 8, 9, 10, 11, 12, 13, 14, 15, 16, 17, 33] t.l.length (fun gk o4 _ _ _ _ _ _ _ _ _ _ _ _ i wr => ∃ (k : Nat) (os : List OpT) (la : Option Addr) (lc : Nat) (cs : List Value), k ≤ t.l.length ∧ Hid (gk = t.l.length - k) ∧ o4 = .slice la k lc ∧ i = .int .i64 k ∧ Hid (allG opF (t.l.take k) = some os) ∧ Hid (RQ w ok k la lc os cs wr))
  case atStart => exact ⟨0, [], none, 0, [], Nat.zero_le _, hidI rfl, rfl, rfl, hidI rfl, K2⟩
  case round =>
    obtain ⟨k, os, la, lc, cs, hk, GK, rfl, rfl, AX, K3⟩ := hrel
    by_cases hlt : k < t.l.length
    · obtain ⟨b, off, a5, c5, a6, c6, rfl, j1, j2, g0, g1, g2, g3, g4, g5⟩ := (H.out.bel K3.out.2.2.1).item hlt
      have w1' : (k : Int) < (t.l.length : Int) := by omega
      have w2' : (0 : Int) ≤ (k : Int) := by omega
      have ST := hidI (fun x hx => allG_step (f := opF) hlt AX.out (x := x) hx)
      have SN := hidI (fun hx => FB.out (allG_none (f := opF) (l := t.l) hlt hx))
      have NK := hidI (fun o ho => op_good (o := o) (nice_mem NT.out (List.getElem_mem hlt)) ho)
      obtain ⟨gx, hgx⟩ : ∃ g, wr.heap.size = g := ⟨_, rfl⟩
      have hk9 : k ≤ 1000 := by have := HL.out; omega
      have GX : Hid (w.heap.size < gx) := hidI (by rw [← hgx]; exact K3.out.2.2.2.2)
      have K0 : Hid (RQ w ok k la lc os cs (wr.alloc (.cells #[.int .i64 t.l[k].kind, .int .i64 t.l[k].n, .string ⟨t.l[k].s.toArray⟩, .slice a5 t.l[k].keys.length c5, .slice a6 t.l[k].l.length c6] 25)) ∧ (BoxIs (wr.alloc (.cells #[.int .i64 t.l[k].kind, .int .i64 t.l[k].n, .string ⟨t.l[k].s.toArray⟩, .slice a5 t.l[k].keys.length c5, .slice a6 t.l[k].l.length c6] 25)) gx (.int .i64 t.l[k].kind) (.int .i64 t.l[k].n) (.string ⟨t.l[k].s.toArray⟩) (.slice a5 t.l[k].keys.length c5) (.slice a6 t.l[k].l.length c6)) ∧ (In (wr.alloc (.cells #[.int .i64 t.l[k].kind, .int .i64 t.l[k].n, .string ⟨t.l[k].s.toArray⟩, .slice a5 t.l[k].keys.length c5, .slice a6 t.l[k].l.length c6] 25)) ok t.l[k] (.agg #[.int .i64 t.l[k].kind, .int .i64 t.l[k].n, .string ⟨t.l[k].s.toArray⟩, .slice a5 t.l[k].keys.length c5, .slice a6 t.l[k].l.length c6]))) := hidI ⟨K3.out.bel (bel_alloc _ _), (by rw [← hgx]; exact heap_alloc_new wr _), g5.bel (bel_alloc _ _)⟩
      obtain ⟨WX, hWX⟩ : ∃ W, wr.alloc (.cells #[.int .i64 t.l[k].kind, .int .i64 t.l[k].n, .string ⟨t.l[k].s.toArray⟩, .slice a5 t.l[k].keys.length c5, .slice a6 t.l[k].l.length c6] 25) = W := ⟨_, rfl⟩
      go_upto_region 9 with fail
      try rw [hWX]
      try rw [hgx]
      rw [hWX] at K0
      clear hWX hgx g5 g0 g1 g2 g3 g4
      obtain ⟨x0, x1, x2, x3, x4, -⟩ := K0.out.2.1.c
      go_upto_region 10 with (go_at_call 36; refine (rmember_is _ ok t.l[k] _ opB (by exact K0.out.2.2)).mono ?_; rintro e wm ⟨xm, rfl, hb, hy⟩; obtain ⟨m, hnm⟩ : ∃ m, (memV t.l[k] opB).getD zeroT = m := ⟨_, rfl⟩; rw [hnm] at hy; obtain ⟨ma, mb, mc, md, rfl⟩ := hy.form; have HNm := hidI hnm; obtain ⟨gm, hgm⟩ : ∃ g, wm.heap.size = g := ⟨_, rfl⟩; have hbb := bel_trans hb (bel_alloc wm (.cells #[.int .i64 m.kind, .int .i64 m.n, .string ⟨m.s.toArray⟩, .slice ma m.keys.length mc, .slice mb m.l.length md] 25)); have K1 : Hid (RQ w ok k la lc os cs (wm.alloc (.cells #[.int .i64 m.kind, .int .i64 m.n, .string ⟨m.s.toArray⟩, .slice ma m.keys.length mc, .slice mb m.l.length md] 25)) ∧ (BoxIs (wm.alloc (.cells #[.int .i64 m.kind, .int .i64 m.n, .string ⟨m.s.toArray⟩, .slice ma m.keys.length mc, .slice mb m.l.length md] 25)) gx (.int .i64 t.l[k].kind) (.int .i64 t.l[k].n) (.string ⟨t.l[k].s.toArray⟩) (.slice a5 t.l[k].keys.length c5) (.slice a6 t.l[k].l.length c6) ∧ BoxIs (wm.alloc (.cells #[.int .i64 m.kind, .int .i64 m.n, .string ⟨m.s.toArray⟩, .slice ma m.keys.length mc, .slice mb m.l.length md] 25)) gm (.int .i64 m.kind) (.int .i64 m.n) (.string ⟨m.s.toArray⟩) (.slice ma m.keys.length mc) (.slice mb m.l.length md)) ∧ (In (wm.alloc (.cells #[.int .i64 m.kind, .int .i64 m.n, .string ⟨m.s.toArray⟩, .slice ma m.keys.length mc, .slice mb m.l.length md] 25)) ok m (.agg #[.int .i64 m.kind, .int .i64 m.n, .string ⟨m.s.toArray⟩, .slice ma m.keys.length mc, .slice mb m.l.length md]) ∧ In (wm.alloc (.cells #[.int .i64 m.kind, .int .i64 m.n, .string ⟨m.s.toArray⟩, .slice ma m.keys.length mc, .slice mb m.l.length md] 25)) ok t.l[k] (.agg #[.int .i64 t.l[k].kind, .int .i64 t.l[k].n, .string ⟨t.l[k].s.toArray⟩, .slice a5 t.l[k].keys.length c5, .slice a6 t.l[k].l.length c6]))) := hidI ⟨K0.out.1.bel hbb, ⟨box_bel hbb K0.out.2.1, (by rw [← hgm]; exact heap_alloc_new wm _)⟩, ⟨hy.bel (bel_alloc _ _), K0.out.2.2.bel hbb⟩⟩; clear hb hy hbb hnm x0 x1 x2 x3 x4)
      obtain ⟨W0, hW0⟩ : ∃ W, wm.alloc (.cells #[.int .i64 m.kind, .int .i64 m.n, .string ⟨m.s.toArray⟩, .slice ma m.keys.length mc, .slice mb m.l.length md] 25) = W := ⟨_, rfl⟩
      rw [hW0] at K1 ⊢
      try rw [hgm]
      clear hW0 hgm
      obtain ⟨x0, x1, x2, x3, x4, -⟩ := K1.out.2.1.1.c
      go_upto_region 11 with (go_at_call 36; refine (rmember_is _ ok t.l[k] _ pathB (by exact K1.out.2.2.2)).mono ?_; rintro e wp ⟨xm, rfl, hb, hy⟩; obtain ⟨p, hnp⟩ : ∃ m, (memV t.l[k] pathB).getD zeroT = m := ⟨_, rfl⟩; rw [hnp] at hy; obtain ⟨pa, pb, pc, pd, rfl⟩ := hy.form; have HNp := hidI hnp; obtain ⟨gp, hgp⟩ : ∃ g, wp.heap.size = g := ⟨_, rfl⟩; have hbb := bel_trans hb (bel_alloc wp (.cells #[.int .i64 p.kind, .int .i64 p.n, .string ⟨p.s.toArray⟩, .slice pa p.keys.length pc, .slice pb p.l.length pd] 25)); have K2 : Hid (RQ w ok k la lc os cs (wp.alloc (.cells #[.int .i64 p.kind, .int .i64 p.n, .string ⟨p.s.toArray⟩, .slice pa p.keys.length pc, .slice pb p.l.length pd] 25)) ∧ (BoxIs (wp.alloc (.cells #[.int .i64 p.kind, .int .i64 p.n, .string ⟨p.s.toArray⟩, .slice pa p.keys.length pc, .slice pb p.l.length pd] 25)) gx (.int .i64 t.l[k].kind) (.int .i64 t.l[k].n) (.string ⟨t.l[k].s.toArray⟩) (.slice a5 t.l[k].keys.length c5) (.slice a6 t.l[k].l.length c6) ∧ BoxIs (wp.alloc (.cells #[.int .i64 p.kind, .int .i64 p.n, .string ⟨p.s.toArray⟩, .slice pa p.keys.length pc, .slice pb p.l.length pd] 25)) gm (.int .i64 m.kind) (.int .i64 m.n) (.string ⟨m.s.toArray⟩) (.slice ma m.keys.length mc) (.slice mb m.l.length md) ∧ BoxIs (wp.alloc (.cells #[.int .i64 p.kind, .int .i64 p.n, .string ⟨p.s.toArray⟩, .slice pa p.keys.length pc, .slice pb p.l.length pd] 25)) gp (.int .i64 p.kind) (.int .i64 p.n) (.string ⟨p.s.toArray⟩) (.slice pa p.keys.length pc) (.slice pb p.l.length pd)) ∧ (In (wp.alloc (.cells #[.int .i64 p.kind, .int .i64 p.n, .string ⟨p.s.toArray⟩, .slice pa p.keys.length pc, .slice pb p.l.length pd] 25)) ok m (.agg #[.int .i64 m.kind, .int .i64 m.n, .string ⟨m.s.toArray⟩, .slice ma m.keys.length mc, .slice mb m.l.length md]) ∧ In (wp.alloc (.cells #[.int .i64 p.kind, .int .i64 p.n, .string ⟨p.s.toArray⟩, .slice pa p.keys.length pc, .slice pb p.l.length pd] 25)) ok p (.agg #[.int .i64 p.kind, .int .i64 p.n, .string ⟨p.s.toArray⟩, .slice pa p.keys.length pc, .slice pb p.l.length pd]) ∧ In (wp.alloc (.cells #[.int .i64 p.kind, .int .i64 p.n, .string ⟨p.s.toArray⟩, .slice pa p.keys.length pc, .slice pb p.l.length pd] 25)) ok t.l[k] (.agg #[.int .i64 t.l[k].kind, .int .i64 t.l[k].n, .string ⟨t.l[k].s.toArray⟩, .slice a5 t.l[k].keys.length c5, .slice a6 t.l[k].l.length c6]))) := hidI ⟨K1.out.1.bel hbb, ⟨box_bel hbb K1.out.2.1.1, box_bel hbb K1.out.2.1.2, (by rw [← hgp]; exact heap_alloc_new wp _)⟩, ⟨K1.out.2.2.1.bel hbb, hy.bel (bel_alloc _ _), K1.out.2.2.2.bel hbb⟩⟩; clear hb hy hbb hnp x0 x1 x2 x3 x4)
      obtain ⟨W1, hW1⟩ : ∃ W, wp.alloc (.cells #[.int .i64 p.kind, .int .i64 p.n, .string ⟨p.s.toArray⟩, .slice pa p.keys.length pc, .slice pb p.l.length pd] 25) = W := ⟨_, rfl⟩
      rw [hW1] at K2 ⊢
      try rw [hgp]
      clear hW1 hgp
      obtain ⟨x0, x1, x2, x3, x4, -⟩ := K2.out.2.1.1.c
      go_upto_region 12 with (go_at_call 36; refine (rmember_is _ ok t.l[k] _ fromB (by exact K2.out.2.2.2.2)).mono ?_; rintro e wf ⟨xm, rfl, hb, hy⟩; obtain ⟨f, hnf⟩ : ∃ m, (memV t.l[k] fromB).getD zeroT = m := ⟨_, rfl⟩; rw [hnf] at hy; obtain ⟨fa, fb, fc, fd, rfl⟩ := hy.form; have HNf := hidI hnf; obtain ⟨gf, hgf⟩ : ∃ g, wf.heap.size = g := ⟨_, rfl⟩; have hbb := bel_trans hb (bel_alloc wf (.cells #[.int .i64 f.kind, .int .i64 f.n, .string ⟨f.s.toArray⟩, .slice fa f.keys.length fc, .slice fb f.l.length fd] 25)); have K3 : Hid (RQ w ok k la lc os cs (wf.alloc (.cells #[.int .i64 f.kind, .int .i64 f.n, .string ⟨f.s.toArray⟩, .slice fa f.keys.length fc, .slice fb f.l.length fd] 25)) ∧ (BoxIs (wf.alloc (.cells #[.int .i64 f.kind, .int .i64 f.n, .string ⟨f.s.toArray⟩, .slice fa f.keys.length fc, .slice fb f.l.length fd] 25)) gx (.int .i64 t.l[k].kind) (.int .i64 t.l[k].n) (.string ⟨t.l[k].s.toArray⟩) (.slice a5 t.l[k].keys.length c5) (.slice a6 t.l[k].l.length c6) ∧ BoxIs (wf.alloc (.cells #[.int .i64 f.kind, .int .i64 f.n, .string ⟨f.s.toArray⟩, .slice fa f.keys.length fc, .slice fb f.l.length fd] 25)) gm (.int .i64 m.kind) (.int .i64 m.n) (.string ⟨m.s.toArray⟩) (.slice ma m.keys.length mc) (.slice mb m.l.length md) ∧ BoxIs (wf.alloc (.cells #[.int .i64 f.kind, .int .i64 f.n, .string ⟨f.s.toArray⟩, .slice fa f.keys.length fc, .slice fb f.l.length fd] 25)) gp (.int .i64 p.kind) (.int .i64 p.n) (.string ⟨p.s.toArray⟩) (.slice pa p.keys.length pc) (.slice pb p.l.length pd) ∧ BoxIs (wf.alloc (.cells #[.int .i64 f.kind, .int .i64 f.n, .string ⟨f.s.toArray⟩, .slice fa f.keys.length fc, .slice fb f.l.length fd] 25)) gf (.int .i64 f.kind) (.int .i64 f.n) (.string ⟨f.s.toArray⟩) (.slice fa f.keys.length fc) (.slice fb f.l.length fd)) ∧ (In (wf.alloc (.cells #[.int .i64 f.kind, .int .i64 f.n, .string ⟨f.s.toArray⟩, .slice fa f.keys.length fc, .slice fb f.l.length fd] 25)) ok m (.agg #[.int .i64 m.kind, .int .i64 m.n, .string ⟨m.s.toArray⟩, .slice ma m.keys.length mc, .slice mb m.l.length md]) ∧ In (wf.alloc (.cells #[.int .i64 f.kind, .int .i64 f.n, .string ⟨f.s.toArray⟩, .slice fa f.keys.length fc, .slice fb f.l.length fd] 25)) ok p (.agg #[.int .i64 p.kind, .int .i64 p.n, .string ⟨p.s.toArray⟩, .slice pa p.keys.length pc, .slice pb p.l.length pd]) ∧ In (wf.alloc (.cells #[.int .i64 f.kind, .int .i64 f.n, .string ⟨f.s.toArray⟩, .slice fa f.keys.length fc, .slice fb f.l.length fd] 25)) ok f (.agg #[.int .i64 f.kind, .int .i64 f.n, .string ⟨f.s.toArray⟩, .slice fa f.keys.length fc, .slice fb f.l.length fd]) ∧ In (wf.alloc (.cells #[.int .i64 f.kind, .int .i64 f.n, .string ⟨f.s.toArray⟩, .slice fa f.keys.length fc, .slice fb f.l.length fd] 25)) ok t.l[k] (.agg #[.int .i64 t.l[k].kind, .int .i64 t.l[k].n, .string ⟨t.l[k].s.toArray⟩, .slice a5 t.l[k].keys.length c5, .slice a6 t.l[k].l.length c6]))) := hidI ⟨K2.out.1.bel hbb, ⟨box_bel hbb K2.out.2.1.1, box_bel hbb K2.out.2.1.2.1, box_bel hbb K2.out.2.1.2.2, (by rw [← hgf]; exact heap_alloc_new wf _)⟩, ⟨K2.out.2.2.1.bel hbb, K2.out.2.2.2.1.bel hbb, hy.bel (bel_alloc _ _), K2.out.2.2.2.2.bel hbb⟩⟩; clear hb hy hbb hnf x0 x1 x2 x3 x4)
      obtain ⟨W2, hW2⟩ : ∃ W, wf.alloc (.cells #[.int .i64 f.kind, .int .i64 f.n, .string ⟨f.s.toArray⟩, .slice fa f.keys.length fc, .slice fb f.l.length fd] 25) = W := ⟨_, rfl⟩
      rw [hW2] at K3 ⊢
      try rw [hgf]
      clear hW2 hgf
      obtain ⟨x0, x1, x2, x3, x4, -⟩ := K3.out.2.1.1.c
      go_upto_region 13 with (go_at_call 36; refine (rmember_is _ ok t.l[k] _ valueB (by exact K3.out.2.2.2.2.2)).mono ?_; rintro e wy ⟨xm, rfl, hb, hy⟩; obtain ⟨y, hny⟩ : ∃ m, (memV t.l[k] valueB).getD zeroT = m := ⟨_, rfl⟩; rw [hny] at hy; obtain ⟨ya, yb, yc, yd, rfl⟩ := hy.form; have HNy := hidI hny; obtain ⟨gy, hgy⟩ : ∃ g, wy.heap.size = g := ⟨_, rfl⟩; have hbb := bel_trans hb (bel_alloc wy (.cells #[.int .i64 y.kind, .int .i64 y.n, .string ⟨y.s.toArray⟩, .slice ya y.keys.length yc, .slice yb y.l.length yd] 25)); have K4 : Hid (RQ w ok k la lc os cs (wy.alloc (.cells #[.int .i64 y.kind, .int .i64 y.n, .string ⟨y.s.toArray⟩, .slice ya y.keys.length yc, .slice yb y.l.length yd] 25)) ∧ (BoxIs (wy.alloc (.cells #[.int .i64 y.kind, .int .i64 y.n, .string ⟨y.s.toArray⟩, .slice ya y.keys.length yc, .slice yb y.l.length yd] 25)) gx (.int .i64 t.l[k].kind) (.int .i64 t.l[k].n) (.string ⟨t.l[k].s.toArray⟩) (.slice a5 t.l[k].keys.length c5) (.slice a6 t.l[k].l.length c6) ∧ BoxIs (wy.alloc (.cells #[.int .i64 y.kind, .int .i64 y.n, .string ⟨y.s.toArray⟩, .slice ya y.keys.length yc, .slice yb y.l.length yd] 25)) gm (.int .i64 m.kind) (.int .i64 m.n) (.string ⟨m.s.toArray⟩) (.slice ma m.keys.length mc) (.slice mb m.l.length md) ∧ BoxIs (wy.alloc (.cells #[.int .i64 y.kind, .int .i64 y.n, .string ⟨y.s.toArray⟩, .slice ya y.keys.length yc, .slice yb y.l.length yd] 25)) gp (.int .i64 p.kind) (.int .i64 p.n) (.string ⟨p.s.toArray⟩) (.slice pa p.keys.length pc) (.slice pb p.l.length pd) ∧ BoxIs (wy.alloc (.cells #[.int .i64 y.kind, .int .i64 y.n, .string ⟨y.s.toArray⟩, .slice ya y.keys.length yc, .slice yb y.l.length yd] 25)) gf (.int .i64 f.kind) (.int .i64 f.n) (.string ⟨f.s.toArray⟩) (.slice fa f.keys.length fc) (.slice fb f.l.length fd) ∧ BoxIs (wy.alloc (.cells #[.int .i64 y.kind, .int .i64 y.n, .string ⟨y.s.toArray⟩, .slice ya y.keys.length yc, .slice yb y.l.length yd] 25)) gy (.int .i64 y.kind) (.int .i64 y.n) (.string ⟨y.s.toArray⟩) (.slice ya y.keys.length yc) (.slice yb y.l.length yd)) ∧ (In (wy.alloc (.cells #[.int .i64 y.kind, .int .i64 y.n, .string ⟨y.s.toArray⟩, .slice ya y.keys.length yc, .slice yb y.l.length yd] 25)) ok m (.agg #[.int .i64 m.kind, .int .i64 m.n, .string ⟨m.s.toArray⟩, .slice ma m.keys.length mc, .slice mb m.l.length md]) ∧ In (wy.alloc (.cells #[.int .i64 y.kind, .int .i64 y.n, .string ⟨y.s.toArray⟩, .slice ya y.keys.length yc, .slice yb y.l.length yd] 25)) ok p (.agg #[.int .i64 p.kind, .int .i64 p.n, .string ⟨p.s.toArray⟩, .slice pa p.keys.length pc, .slice pb p.l.length pd]) ∧ In (wy.alloc (.cells #[.int .i64 y.kind, .int .i64 y.n, .string ⟨y.s.toArray⟩, .slice ya y.keys.length yc, .slice yb y.l.length yd] 25)) ok f (.agg #[.int .i64 f.kind, .int .i64 f.n, .string ⟨f.s.toArray⟩, .slice fa f.keys.length fc, .slice fb f.l.length fd]) ∧ In (wy.alloc (.cells #[.int .i64 y.kind, .int .i64 y.n, .string ⟨y.s.toArray⟩, .slice ya y.keys.length yc, .slice yb y.l.length yd] 25)) ok y (.agg #[.int .i64 y.kind, .int .i64 y.n, .string ⟨y.s.toArray⟩, .slice ya y.keys.length yc, .slice yb y.l.length yd]) ∧ In (wy.alloc (.cells #[.int .i64 y.kind, .int .i64 y.n, .string ⟨y.s.toArray⟩, .slice ya y.keys.length yc, .slice yb y.l.length yd] 25)) ok t.l[k] (.agg #[.int .i64 t.l[k].kind, .int .i64 t.l[k].n, .string ⟨t.l[k].s.toArray⟩, .slice a5 t.l[k].keys.length c5, .slice a6 t.l[k].l.length c6]))) := hidI ⟨K3.out.1.bel hbb, ⟨box_bel hbb K3.out.2.1.1, box_bel hbb K3.out.2.1.2.1, box_bel hbb K3.out.2.1.2.2.1, box_bel hbb K3.out.2.1.2.2.2, (by rw [← hgy]; exact heap_alloc_new wy _)⟩, ⟨K3.out.2.2.1.bel hbb, K3.out.2.2.2.1.bel hbb, K3.out.2.2.2.2.1.bel hbb, hy.bel (bel_alloc _ _), K3.out.2.2.2.2.2.bel hbb⟩⟩; clear hb hy hbb hny x0 x1 x2 x3 x4)
      obtain ⟨W3, hW3⟩ : ∃ W, wy.alloc (.cells #[.int .i64 y.kind, .int .i64 y.n, .string ⟨y.s.toArray⟩, .slice ya y.keys.length yc, .slice yb y.l.length yd] 25) = W := ⟨_, rfl⟩
      rw [hW3] at K4 ⊢
      try rw [hgy]
      clear hW3 hgy
      obtain ⟨y0, y1, y2, y3, y4, -⟩ := K4.out.2.1.2.2.1.c
      obtain ⟨go, hgo⟩ : ∃ g, W3.heap.size = g := ⟨_, rfl⟩
      obtain ⟨gt, hgt⟩ : ∃ g, go + 1 = g := ⟨_, rfl⟩
      have hbb := bel_trans (bel_alloc W3 (.cells #[.int .i64 0, .string ⟨p.s.toArray⟩, .string ⟨#[]⟩, .int .i64 0, .int .i64 0, .string ⟨#[]⟩, .slice none 0 0, .slice none 0 0] 43)) (bel_alloc (W3.alloc (.cells #[.int .i64 0, .string ⟨p.s.toArray⟩, .string ⟨#[]⟩, .int .i64 0, .int .i64 0, .string ⟨#[]⟩, .slice none 0 0, .slice none 0 0] 43)) (.cells #[.string ⟨#[97, 100, 100]⟩, .string ⟨#[114, 101, 109, 111, 118, 101]⟩, .string ⟨#[114, 101, 112, 108, 97, 99, 101]⟩, .string ⟨#[109, 111, 118, 101]⟩, .string ⟨#[99, 111, 112, 121]⟩, .string ⟨#[116, 101, 115, 116]⟩] 9))
      have GL : Hid (w.heap.size < gx ∧ gx < go ∧ gm < go ∧ gp < go ∧ gf < go ∧ gy < go ∧ go < gt) := hidI (by
        have q0 := K4.out.2.1.1.lt
        have q1 := K4.out.2.1.2.1.lt
        have q2 := K4.out.2.1.2.2.1.lt
        have q3 := K4.out.2.1.2.2.2.1.lt
        have q4 := K4.out.2.1.2.2.2.2.lt
        have := GX.out
        omega)
      have OG : Hid (∀ j, (Value.slice la k lc).ownBlock = some j → j ≠ go) := hidI (fun j hj => by have := (K4.out.1.1.lt j hj).2; omega)
      have S5 : Hid ((RQ w ok k la lc os cs ((W3.alloc (.cells #[.int .i64 0, .string ⟨p.s.toArray⟩, .string ⟨#[]⟩, .int .i64 0, .int .i64 0, .string ⟨#[]⟩, .slice none 0 0, .slice none 0 0] 43)).alloc (.cells #[.string ⟨#[97, 100, 100]⟩, .string ⟨#[114, 101, 109, 111, 118, 101]⟩, .string ⟨#[114, 101, 112, 108, 97, 99, 101]⟩, .string ⟨#[109, 111, 118, 101]⟩, .string ⟨#[99, 111, 112, 121]⟩, .string ⟨#[116, 101, 115, 116]⟩] 9)) ∧ (BoxIs ((W3.alloc (.cells #[.int .i64 0, .string ⟨p.s.toArray⟩, .string ⟨#[]⟩, .int .i64 0, .int .i64 0, .string ⟨#[]⟩, .slice none 0 0, .slice none 0 0] 43)).alloc (.cells #[.string ⟨#[97, 100, 100]⟩, .string ⟨#[114, 101, 109, 111, 118, 101]⟩, .string ⟨#[114, 101, 112, 108, 97, 99, 101]⟩, .string ⟨#[109, 111, 118, 101]⟩, .string ⟨#[99, 111, 112, 121]⟩, .string ⟨#[116, 101, 115, 116]⟩] 9)) gx (.int .i64 t.l[k].kind) (.int .i64 t.l[k].n) (.string ⟨t.l[k].s.toArray⟩) (.slice a5 t.l[k].keys.length c5) (.slice a6 t.l[k].l.length c6) ∧ BoxIs ((W3.alloc (.cells #[.int .i64 0, .string ⟨p.s.toArray⟩, .string ⟨#[]⟩, .int .i64 0, .int .i64 0, .string ⟨#[]⟩, .slice none 0 0, .slice none 0 0] 43)).alloc (.cells #[.string ⟨#[97, 100, 100]⟩, .string ⟨#[114, 101, 109, 111, 118, 101]⟩, .string ⟨#[114, 101, 112, 108, 97, 99, 101]⟩, .string ⟨#[109, 111, 118, 101]⟩, .string ⟨#[99, 111, 112, 121]⟩, .string ⟨#[116, 101, 115, 116]⟩] 9)) gm (.int .i64 m.kind) (.int .i64 m.n) (.string ⟨m.s.toArray⟩) (.slice ma m.keys.length mc) (.slice mb m.l.length md) ∧ BoxIs ((W3.alloc (.cells #[.int .i64 0, .string ⟨p.s.toArray⟩, .string ⟨#[]⟩, .int .i64 0, .int .i64 0, .string ⟨#[]⟩, .slice none 0 0, .slice none 0 0] 43)).alloc (.cells #[.string ⟨#[97, 100, 100]⟩, .string ⟨#[114, 101, 109, 111, 118, 101]⟩, .string ⟨#[114, 101, 112, 108, 97, 99, 101]⟩, .string ⟨#[109, 111, 118, 101]⟩, .string ⟨#[99, 111, 112, 121]⟩, .string ⟨#[116, 101, 115, 116]⟩] 9)) gp (.int .i64 p.kind) (.int .i64 p.n) (.string ⟨p.s.toArray⟩) (.slice pa p.keys.length pc) (.slice pb p.l.length pd) ∧ BoxIs ((W3.alloc (.cells #[.int .i64 0, .string ⟨p.s.toArray⟩, .string ⟨#[]⟩, .int .i64 0, .int .i64 0, .string ⟨#[]⟩, .slice none 0 0, .slice none 0 0] 43)).alloc (.cells #[.string ⟨#[97, 100, 100]⟩, .string ⟨#[114, 101, 109, 111, 118, 101]⟩, .string ⟨#[114, 101, 112, 108, 97, 99, 101]⟩, .string ⟨#[109, 111, 118, 101]⟩, .string ⟨#[99, 111, 112, 121]⟩, .string ⟨#[116, 101, 115, 116]⟩] 9)) gf (.int .i64 f.kind) (.int .i64 f.n) (.string ⟨f.s.toArray⟩) (.slice fa f.keys.length fc) (.slice fb f.l.length fd) ∧ BoxIs ((W3.alloc (.cells #[.int .i64 0, .string ⟨p.s.toArray⟩, .string ⟨#[]⟩, .int .i64 0, .int .i64 0, .string ⟨#[]⟩, .slice none 0 0, .slice none 0 0] 43)).alloc (.cells #[.string ⟨#[97, 100, 100]⟩, .string ⟨#[114, 101, 109, 111, 118, 101]⟩, .string ⟨#[114, 101, 112, 108, 97, 99, 101]⟩, .string ⟨#[109, 111, 118, 101]⟩, .string ⟨#[99, 111, 112, 121]⟩, .string ⟨#[116, 101, 115, 116]⟩] 9)) gy (.int .i64 y.kind) (.int .i64 y.n) (.string ⟨y.s.toArray⟩) (.slice ya y.keys.length yc) (.slice yb y.l.length yd)) ∧ (In ((W3.alloc (.cells #[.int .i64 0, .string ⟨p.s.toArray⟩, .string ⟨#[]⟩, .int .i64 0, .int .i64 0, .string ⟨#[]⟩, .slice none 0 0, .slice none 0 0] 43)).alloc (.cells #[.string ⟨#[97, 100, 100]⟩, .string ⟨#[114, 101, 109, 111, 118, 101]⟩, .string ⟨#[114, 101, 112, 108, 97, 99, 101]⟩, .string ⟨#[109, 111, 118, 101]⟩, .string ⟨#[99, 111, 112, 121]⟩, .string ⟨#[116, 101, 115, 116]⟩] 9)) ok m (.agg #[.int .i64 m.kind, .int .i64 m.n, .string ⟨m.s.toArray⟩, .slice ma m.keys.length mc, .slice mb m.l.length md]) ∧ In ((W3.alloc (.cells #[.int .i64 0, .string ⟨p.s.toArray⟩, .string ⟨#[]⟩, .int .i64 0, .int .i64 0, .string ⟨#[]⟩, .slice none 0 0, .slice none 0 0] 43)).alloc (.cells #[.string ⟨#[97, 100, 100]⟩, .string ⟨#[114, 101, 109, 111, 118, 101]⟩, .string ⟨#[114, 101, 112, 108, 97, 99, 101]⟩, .string ⟨#[109, 111, 118, 101]⟩, .string ⟨#[99, 111, 112, 121]⟩, .string ⟨#[116, 101, 115, 116]⟩] 9)) ok p (.agg #[.int .i64 p.kind, .int .i64 p.n, .string ⟨p.s.toArray⟩, .slice pa p.keys.length pc, .slice pb p.l.length pd]) ∧ In ((W3.alloc (.cells #[.int .i64 0, .string ⟨p.s.toArray⟩, .string ⟨#[]⟩, .int .i64 0, .int .i64 0, .string ⟨#[]⟩, .slice none 0 0, .slice none 0 0] 43)).alloc (.cells #[.string ⟨#[97, 100, 100]⟩, .string ⟨#[114, 101, 109, 111, 118, 101]⟩, .string ⟨#[114, 101, 112, 108, 97, 99, 101]⟩, .string ⟨#[109, 111, 118, 101]⟩, .string ⟨#[99, 111, 112, 121]⟩, .string ⟨#[116, 101, 115, 116]⟩] 9)) ok f (.agg #[.int .i64 f.kind, .int .i64 f.n, .string ⟨f.s.toArray⟩, .slice fa f.keys.length fc, .slice fb f.l.length fd]) ∧ In ((W3.alloc (.cells #[.int .i64 0, .string ⟨p.s.toArray⟩, .string ⟨#[]⟩, .int .i64 0, .int .i64 0, .string ⟨#[]⟩, .slice none 0 0, .slice none 0 0] 43)).alloc (.cells #[.string ⟨#[97, 100, 100]⟩, .string ⟨#[114, 101, 109, 111, 118, 101]⟩, .string ⟨#[114, 101, 112, 108, 97, 99, 101]⟩, .string ⟨#[109, 111, 118, 101]⟩, .string ⟨#[99, 111, 112, 121]⟩, .string ⟨#[116, 101, 115, 116]⟩] 9)) ok y (.agg #[.int .i64 y.kind, .int .i64 y.n, .string ⟨y.s.toArray⟩, .slice ya y.keys.length yc, .slice yb y.l.length yd]) ∧ In ((W3.alloc (.cells #[.int .i64 0, .string ⟨p.s.toArray⟩, .string ⟨#[]⟩, .int .i64 0, .int .i64 0, .string ⟨#[]⟩, .slice none 0 0, .slice none 0 0] 43)).alloc (.cells #[.string ⟨#[97, 100, 100]⟩, .string ⟨#[114, 101, 109, 111, 118, 101]⟩, .string ⟨#[114, 101, 112, 108, 97, 99, 101]⟩, .string ⟨#[109, 111, 118, 101]⟩, .string ⟨#[99, 111, 112, 121]⟩, .string ⟨#[116, 101, 115, 116]⟩] 9)) ok t.l[k] (.agg #[.int .i64 t.l[k].kind, .int .i64 t.l[k].n, .string ⟨t.l[k].s.toArray⟩, .slice a5 t.l[k].keys.length c5, .slice a6 t.l[k].l.length c6]))) ∧ OBox ((W3.alloc (.cells #[.int .i64 0, .string ⟨p.s.toArray⟩, .string ⟨#[]⟩, .int .i64 0, .int .i64 0, .string ⟨#[]⟩, .slice none 0 0, .slice none 0 0] 43)).alloc (.cells #[.string ⟨#[97, 100, 100]⟩, .string ⟨#[114, 101, 109, 111, 118, 101]⟩, .string ⟨#[114, 101, 112, 108, 97, 99, 101]⟩, .string ⟨#[109, 111, 118, 101]⟩, .string ⟨#[99, 111, 112, 121]⟩, .string ⟨#[116, 101, 115, 116]⟩] 9)) go (.int .i64 0) (.string ⟨p.s.toArray⟩) (.string ⟨#[]⟩) (.int .i64 0) (.int .i64 0) (.string ⟨#[]⟩) (.slice none 0 0) (.slice none 0 0) ∧ ((W3.alloc (.cells #[.int .i64 0, .string ⟨p.s.toArray⟩, .string ⟨#[]⟩, .int .i64 0, .int .i64 0, .string ⟨#[]⟩, .slice none 0 0, .slice none 0 0] 43)).alloc (.cells #[.string ⟨#[97, 100, 100]⟩, .string ⟨#[114, 101, 109, 111, 118, 101]⟩, .string ⟨#[114, 101, 112, 108, 97, 99, 101]⟩, .string ⟨#[109, 111, 118, 101]⟩, .string ⟨#[99, 111, 112, 121]⟩, .string ⟨#[116, 101, 115, 116]⟩] 9)).heap[gt]? = some (.cells #[.string ⟨#[97, 100, 100]⟩, .string ⟨#[114, 101, 109, 111, 118, 101]⟩, .string ⟨#[114, 101, 112, 108, 97, 99, 101]⟩, .string ⟨#[109, 111, 118, 101]⟩, .string ⟨#[99, 111, 112, 121]⟩, .string ⟨#[116, 101, 115, 116]⟩] 9)) := hidI ⟨⟨K4.out.1.bel hbb, ⟨box_bel hbb K4.out.2.1.1, box_bel hbb K4.out.2.1.2.1, box_bel hbb K4.out.2.1.2.2.1, box_bel hbb K4.out.2.1.2.2.2.1, box_bel hbb K4.out.2.1.2.2.2.2⟩, ⟨K4.out.2.2.1.bel hbb, K4.out.2.2.2.1.bel hbb, K4.out.2.2.2.2.1.bel hbb, K4.out.2.2.2.2.2.1.bel hbb, K4.out.2.2.2.2.2.2.bel hbb⟩⟩, (by rw [← hgo]; exact OBox.bel (heap_alloc_new W3 _) (bel_alloc _ _)), (by rw [← hgt, ← hgo]; exact h2b W3 _ _)⟩
      obtain ⟨W4, hW4⟩ : ∃ W, (W3.alloc (.cells #[.int .i64 0, .string ⟨p.s.toArray⟩, .string ⟨#[]⟩, .int .i64 0, .int .i64 0, .string ⟨#[]⟩, .slice none 0 0, .slice none 0 0] 43)).alloc (.cells #[.string ⟨#[97, 100, 100]⟩, .string ⟨#[114, 101, 109, 111, 118, 101]⟩, .string ⟨#[114, 101, 112, 108, 97, 99, 101]⟩, .string ⟨#[109, 111, 118, 101]⟩, .string ⟨#[99, 111, 112, 121]⟩, .string ⟨#[116, 101, 115, 116]⟩] 9) = W := ⟨_, rfl⟩
      rw [hW4] at S5
      go_wp2_with fail
      try rw [hW4]
      try rw [hgo]
      try rw [hgt]
      clear hW4 hgo hgt hbb y0 y1 y2 y3 y4 K0 K1 K2 K3 K4
      go_loopg [16, 17, 62] 6 (fun gk2 _ _ i2 wq => ∃ (q : Nat) (kd : Int), q ≤ 6 ∧ Hid (gk2 = 6 - q) ∧ i2 = .int .i64 q ∧ Hid (kd = kU q m.s) ∧ Hid ((RQ w ok k la lc os cs wq ∧ (BoxIs wq gx (.int .i64 t.l[k].kind) (.int .i64 t.l[k].n) (.string ⟨t.l[k].s.toArray⟩) (.slice a5 t.l[k].keys.length c5) (.slice a6 t.l[k].l.length c6) ∧ BoxIs wq gm (.int .i64 m.kind) (.int .i64 m.n) (.string ⟨m.s.toArray⟩) (.slice ma m.keys.length mc) (.slice mb m.l.length md) ∧ BoxIs wq gp (.int .i64 p.kind) (.int .i64 p.n) (.string ⟨p.s.toArray⟩) (.slice pa p.keys.length pc) (.slice pb p.l.length pd) ∧ BoxIs wq gf (.int .i64 f.kind) (.int .i64 f.n) (.string ⟨f.s.toArray⟩) (.slice fa f.keys.length fc) (.slice fb f.l.length fd) ∧ BoxIs wq gy (.int .i64 y.kind) (.int .i64 y.n) (.string ⟨y.s.toArray⟩) (.slice ya y.keys.length yc) (.slice yb y.l.length yd)) ∧ (In wq ok m (.agg #[.int .i64 m.kind, .int .i64 m.n, .string ⟨m.s.toArray⟩, .slice ma m.keys.length mc, .slice mb m.l.length md]) ∧ In wq ok p (.agg #[.int .i64 p.kind, .int .i64 p.n, .string ⟨p.s.toArray⟩, .slice pa p.keys.length pc, .slice pb p.l.length pd]) ∧ In wq ok f (.agg #[.int .i64 f.kind, .int .i64 f.n, .string ⟨f.s.toArray⟩, .slice fa f.keys.length fc, .slice fb f.l.length fd]) ∧ In wq ok y (.agg #[.int .i64 y.kind, .int .i64 y.n, .string ⟨y.s.toArray⟩, .slice ya y.keys.length yc, .slice yb y.l.length yd]) ∧ In wq ok t.l[k] (.agg #[.int .i64 t.l[k].kind, .int .i64 t.l[k].n, .string ⟨t.l[k].s.toArray⟩, .slice a5 t.l[k].keys.length c5, .slice a6 t.l[k].l.length c6]))) ∧ OBox wq go (.int .i64 kd) (.string ⟨p.s.toArray⟩) (.string ⟨#[]⟩) (.int .i64 0) (.int .i64 0) (.string ⟨#[]⟩) (.slice none 0 0) (.slice none 0 0) ∧ wq.heap[gt]? = some (.cells #[.string ⟨#[97, 100, 100]⟩, .string ⟨#[114, 101, 109, 111, 118, 101]⟩, .string ⟨#[114, 101, 112, 108, 97, 99, 101]⟩, .string ⟨#[109, 111, 118, 101]⟩, .string ⟨#[99, 111, 112, 121]⟩, .string ⟨#[116, 101, 115, 116]⟩] 9)))
      case atStart => exact ⟨0, 0, Nat.zero_le _, hidI rfl, rfl, hidI rfl, S5⟩
      case round =>
        obtain ⟨q, kd, hq, GQ, rfl, KD, S6⟩ := hrel
        have SA := hidI S6.out.1
        by_cases hq6 : q < 6
        · obtain ⟨m0, m1, m2, m3, m4, -⟩ := S6.out.1.2.1.2.1.c
          have tx : ∀ i, wr.cell? ⟨gt, i, none⟩ = #[.string ⟨#[97, 100, 100]⟩, .string ⟨#[114, 101, 109, 111, 118, 101]⟩, .string ⟨#[114, 101, 112, 108, 97, 99, 101]⟩, .string ⟨#[109, 111, 118, 101]⟩, .string ⟨#[99, 111, 112, 121]⟩, .string ⟨#[116, 101, 115, 116]⟩][i]? := fun i => by simp [World.cell?, S6.out.2.2]
          obtain ⟨⟨n0, n1, n2, n3, n4, n5, n6, n7⟩, nf⟩ := S6.out.2.1.c
          have nf0 := nf 0
          clear nf
          have hc : q = 0 ∨ q = 1 ∨ q = 2 ∨ q = 3 ∨ q = 4 ∨ q = 5 := by omega
          clear hq hq6
          rcases hc with rfl | rfl | rfl | rfl | rfl | rfl
          · have c0 : wr.cell? ⟨gt, 0, none⟩ = some (.string ⟨#[97, 100, 100]⟩) := tx 0
            clear tx
            by_cases he : m.s = [97, 100, 100]
            · have e3 : (m.s == [97, 100, 100]) = true := by rw [beq_iff_eq]; exact he
              have KN : Hid ((1 : Int) = kU 1 m.s) := hidI (by rw [he]; exact kU_at0.symm)
              clear he
              have gs : wr.grownBy (wr.setCell ⟨go, 0, none⟩ (.int .i64 1)) (some go) := gb_set (gb_refl _ _) _ _
              have S7 : Hid ((RQ w ok k la lc os cs (wr.setCell ⟨go, 0, none⟩ (.int .i64 1)) ∧ (BoxIs (wr.setCell ⟨go, 0, none⟩ (.int .i64 1)) gx (.int .i64 t.l[k].kind) (.int .i64 t.l[k].n) (.string ⟨t.l[k].s.toArray⟩) (.slice a5 t.l[k].keys.length c5) (.slice a6 t.l[k].l.length c6) ∧ BoxIs (wr.setCell ⟨go, 0, none⟩ (.int .i64 1)) gm (.int .i64 m.kind) (.int .i64 m.n) (.string ⟨m.s.toArray⟩) (.slice ma m.keys.length mc) (.slice mb m.l.length md) ∧ BoxIs (wr.setCell ⟨go, 0, none⟩ (.int .i64 1)) gp (.int .i64 p.kind) (.int .i64 p.n) (.string ⟨p.s.toArray⟩) (.slice pa p.keys.length pc) (.slice pb p.l.length pd) ∧ BoxIs (wr.setCell ⟨go, 0, none⟩ (.int .i64 1)) gf (.int .i64 f.kind) (.int .i64 f.n) (.string ⟨f.s.toArray⟩) (.slice fa f.keys.length fc) (.slice fb f.l.length fd) ∧ BoxIs (wr.setCell ⟨go, 0, none⟩ (.int .i64 1)) gy (.int .i64 y.kind) (.int .i64 y.n) (.string ⟨y.s.toArray⟩) (.slice ya y.keys.length yc) (.slice yb y.l.length yd)) ∧ (In (wr.setCell ⟨go, 0, none⟩ (.int .i64 1)) ok m (.agg #[.int .i64 m.kind, .int .i64 m.n, .string ⟨m.s.toArray⟩, .slice ma m.keys.length mc, .slice mb m.l.length md]) ∧ In (wr.setCell ⟨go, 0, none⟩ (.int .i64 1)) ok p (.agg #[.int .i64 p.kind, .int .i64 p.n, .string ⟨p.s.toArray⟩, .slice pa p.keys.length pc, .slice pb p.l.length pd]) ∧ In (wr.setCell ⟨go, 0, none⟩ (.int .i64 1)) ok f (.agg #[.int .i64 f.kind, .int .i64 f.n, .string ⟨f.s.toArray⟩, .slice fa f.keys.length fc, .slice fb f.l.length fd]) ∧ In (wr.setCell ⟨go, 0, none⟩ (.int .i64 1)) ok y (.agg #[.int .i64 y.kind, .int .i64 y.n, .string ⟨y.s.toArray⟩, .slice ya y.keys.length yc, .slice yb y.l.length yd]) ∧ In (wr.setCell ⟨go, 0, none⟩ (.int .i64 1)) ok t.l[k] (.agg #[.int .i64 t.l[k].kind, .int .i64 t.l[k].n, .string ⟨t.l[k].s.toArray⟩, .slice a5 t.l[k].keys.length c5, .slice a6 t.l[k].l.length c6]))) ∧ OBox (wr.setCell ⟨go, 0, none⟩ (.int .i64 1)) go (.int .i64 1) (.string ⟨p.s.toArray⟩) (.string ⟨#[]⟩) (.int .i64 0) (.int .i64 0) (.string ⟨#[]⟩) (.slice none 0 0) (.slice none 0 0) ∧ (wr.setCell ⟨go, 0, none⟩ (.int .i64 1)).heap[gt]? = some (.cells #[.string ⟨#[97, 100, 100]⟩, .string ⟨#[114, 101, 109, 111, 118, 101]⟩, .string ⟨#[114, 101, 112, 108, 97, 99, 101]⟩, .string ⟨#[109, 111, 118, 101]⟩, .string ⟨#[99, 111, 112, 121]⟩, .string ⟨#[116, 101, 115, 116]⟩] 9)) := hidI ⟨⟨SA.out.1.far H0.out gs OG.out (by have := GL.out; omega), ⟨SA.out.2.1.1.grown gs (by simp; have := GL.out; omega), SA.out.2.1.2.1.grown gs (by simp; have := GL.out; omega), SA.out.2.1.2.2.1.grown gs (by simp; have := GL.out; omega), SA.out.2.1.2.2.2.1.grown gs (by simp; have := GL.out; omega), SA.out.2.1.2.2.2.2.grown gs (by simp; have := GL.out; omega)⟩, ⟨SA.out.2.2.1.grown gs (fun j hj => by have := H0.out j hj; have := GL.out; omega), SA.out.2.2.2.1.grown gs (fun j hj => by have := H0.out j hj; have := GL.out; omega), SA.out.2.2.2.2.1.grown gs (fun j hj => by have := H0.out j hj; have := GL.out; omega), SA.out.2.2.2.2.2.1.grown gs (fun j hj => by have := H0.out j hj; have := GL.out; omega), SA.out.2.2.2.2.2.2.grown gs (fun j hj => by have := H0.out j hj; have := GL.out; omega)⟩⟩, heap_set S6.out.2.1 0 _, (gs.block gt (Array.getElem?_eq_some_iff.1 S6.out.2.2).1 (by simp; have := GL.out; omega)).trans S6.out.2.2⟩
              clear gs
              go_wp2_with fail
              go_roundg (6 - 1)
              case measure => rw [GQ.out]; omega
              case rel => exact ⟨1, 1, by omega, hidI rfl, by go_num, KN, S7⟩
            · have e3 : (m.s == [97, 100, 100]) = false := by rw [beq_eq_false_iff_ne]; exact he
              have KN : Hid (kd = kU 1 m.s) := hidI (by rw [kU_far (k := 0) (by omega) (fun e => he e.symm)]; exact KD.out)
              clear he
              go_wp2_with fail
              go_roundg (6 - 1)
              case measure => rw [GQ.out]; omega
              case rel => exact ⟨1, kd, by omega, hidI rfl, by go_num, KN, S6⟩
          · have c0 : wr.cell? ⟨gt, 1, none⟩ = some (.string ⟨#[114, 101, 109, 111, 118, 101]⟩) := tx 1
            clear tx
            by_cases he : m.s = [114, 101, 109, 111, 118, 101]
            · have e3 : (m.s == [114, 101, 109, 111, 118, 101]) = true := by rw [beq_iff_eq]; exact he
              have KN : Hid ((2 : Int) = kU 2 m.s) := hidI (by rw [he]; exact kU_at1.symm)
              clear he
              have gs : wr.grownBy (wr.setCell ⟨go, 0, none⟩ (.int .i64 2)) (some go) := gb_set (gb_refl _ _) _ _
              have S7 : Hid ((RQ w ok k la lc os cs (wr.setCell ⟨go, 0, none⟩ (.int .i64 2)) ∧ (BoxIs (wr.setCell ⟨go, 0, none⟩ (.int .i64 2)) gx (.int .i64 t.l[k].kind) (.int .i64 t.l[k].n) (.string ⟨t.l[k].s.toArray⟩) (.slice a5 t.l[k].keys.length c5) (.slice a6 t.l[k].l.length c6) ∧ BoxIs (wr.setCell ⟨go, 0, none⟩ (.int .i64 2)) gm (.int .i64 m.kind) (.int .i64 m.n) (.string ⟨m.s.toArray⟩) (.slice ma m.keys.length mc) (.slice mb m.l.length md) ∧ BoxIs (wr.setCell ⟨go, 0, none⟩ (.int .i64 2)) gp (.int .i64 p.kind) (.int .i64 p.n) (.string ⟨p.s.toArray⟩) (.slice pa p.keys.length pc) (.slice pb p.l.length pd) ∧ BoxIs (wr.setCell ⟨go, 0, none⟩ (.int .i64 2)) gf (.int .i64 f.kind) (.int .i64 f.n) (.string ⟨f.s.toArray⟩) (.slice fa f.keys.length fc) (.slice fb f.l.length fd) ∧ BoxIs (wr.setCell ⟨go, 0, none⟩ (.int .i64 2)) gy (.int .i64 y.kind) (.int .i64 y.n) (.string ⟨y.s.toArray⟩) (.slice ya y.keys.length yc) (.slice yb y.l.length yd)) ∧ (In (wr.setCell ⟨go, 0, none⟩ (.int .i64 2)) ok m (.agg #[.int .i64 m.kind, .int .i64 m.n, .string ⟨m.s.toArray⟩, .slice ma m.keys.length mc, .slice mb m.l.length md]) ∧ In (wr.setCell ⟨go, 0, none⟩ (.int .i64 2)) ok p (.agg #[.int .i64 p.kind, .int .i64 p.n, .string ⟨p.s.toArray⟩, .slice pa p.keys.length pc, .slice pb p.l.length pd]) ∧ In (wr.setCell ⟨go, 0, none⟩ (.int .i64 2)) ok f (.agg #[.int .i64 f.kind, .int .i64 f.n, .string ⟨f.s.toArray⟩, .slice fa f.keys.length fc, .slice fb f.l.length fd]) ∧ In (wr.setCell ⟨go, 0, none⟩ (.int .i64 2)) ok y (.agg #[.int .i64 y.kind, .int .i64 y.n, .string ⟨y.s.toArray⟩, .slice ya y.keys.length yc, .slice yb y.l.length yd]) ∧ In (wr.setCell ⟨go, 0, none⟩ (.int .i64 2)) ok t.l[k] (.agg #[.int .i64 t.l[k].kind, .int .i64 t.l[k].n, .string ⟨t.l[k].s.toArray⟩, .slice a5 t.l[k].keys.length c5, .slice a6 t.l[k].l.length c6]))) ∧ OBox (wr.setCell ⟨go, 0, none⟩ (.int .i64 2)) go (.int .i64 2) (.string ⟨p.s.toArray⟩) (.string ⟨#[]⟩) (.int .i64 0) (.int .i64 0) (.string ⟨#[]⟩) (.slice none 0 0) (.slice none 0 0) ∧ (wr.setCell ⟨go, 0, none⟩ (.int .i64 2)).heap[gt]? = some (.cells #[.string ⟨#[97, 100, 100]⟩, .string ⟨#[114, 101, 109, 111, 118, 101]⟩, .string ⟨#[114, 101, 112, 108, 97, 99, 101]⟩, .string ⟨#[109, 111, 118, 101]⟩, .string ⟨#[99, 111, 112, 121]⟩, .string ⟨#[116, 101, 115, 116]⟩] 9)) := hidI ⟨⟨SA.out.1.far H0.out gs OG.out (by have := GL.out; omega), ⟨SA.out.2.1.1.grown gs (by simp; have := GL.out; omega), SA.out.2.1.2.1.grown gs (by simp; have := GL.out; omega), SA.out.2.1.2.2.1.grown gs (by simp; have := GL.out; omega), SA.out.2.1.2.2.2.1.grown gs (by simp; have := GL.out; omega), SA.out.2.1.2.2.2.2.grown gs (by simp; have := GL.out; omega)⟩, ⟨SA.out.2.2.1.grown gs (fun j hj => by have := H0.out j hj; have := GL.out; omega), SA.out.2.2.2.1.grown gs (fun j hj => by have := H0.out j hj; have := GL.out; omega), SA.out.2.2.2.2.1.grown gs (fun j hj => by have := H0.out j hj; have := GL.out; omega), SA.out.2.2.2.2.2.1.grown gs (fun j hj => by have := H0.out j hj; have := GL.out; omega), SA.out.2.2.2.2.2.2.grown gs (fun j hj => by have := H0.out j hj; have := GL.out; omega)⟩⟩, heap_set S6.out.2.1 0 _, (gs.block gt (Array.getElem?_eq_some_iff.1 S6.out.2.2).1 (by simp; have := GL.out; omega)).trans S6.out.2.2⟩
              clear gs
              go_wp2_with fail
              go_roundg (6 - 2)
              case measure => rw [GQ.out]; omega
              case rel => exact ⟨2, 2, by omega, hidI rfl, by go_num, KN, S7⟩
            · have e3 : (m.s == [114, 101, 109, 111, 118, 101]) = false := by rw [beq_eq_false_iff_ne]; exact he
              have KN : Hid (kd = kU 2 m.s) := hidI (by rw [kU_far (k := 1) (by omega) (fun e => he e.symm)]; exact KD.out)
              clear he
              go_wp2_with fail
              go_roundg (6 - 2)
              case measure => rw [GQ.out]; omega
              case rel => exact ⟨2, kd, by omega, hidI rfl, by go_num, KN, S6⟩
          · have c0 : wr.cell? ⟨gt, 2, none⟩ = some (.string ⟨#[114, 101, 112, 108, 97, 99, 101]⟩) := tx 2
            clear tx
            by_cases he : m.s = [114, 101, 112, 108, 97, 99, 101]
            · have e3 : (m.s == [114, 101, 112, 108, 97, 99, 101]) = true := by rw [beq_iff_eq]; exact he
              have KN : Hid ((3 : Int) = kU 3 m.s) := hidI (by rw [he]; exact kU_at2.symm)
              clear he
              have gs : wr.grownBy (wr.setCell ⟨go, 0, none⟩ (.int .i64 3)) (some go) := gb_set (gb_refl _ _) _ _
              have S7 : Hid ((RQ w ok k la lc os cs (wr.setCell ⟨go, 0, none⟩ (.int .i64 3)) ∧ (BoxIs (wr.setCell ⟨go, 0, none⟩ (.int .i64 3)) gx (.int .i64 t.l[k].kind) (.int .i64 t.l[k].n) (.string ⟨t.l[k].s.toArray⟩) (.slice a5 t.l[k].keys.length c5) (.slice a6 t.l[k].l.length c6) ∧ BoxIs (wr.setCell ⟨go, 0, none⟩ (.int .i64 3)) gm (.int .i64 m.kind) (.int .i64 m.n) (.string ⟨m.s.toArray⟩) (.slice ma m.keys.length mc) (.slice mb m.l.length md) ∧ BoxIs (wr.setCell ⟨go, 0, none⟩ (.int .i64 3)) gp (.int .i64 p.kind) (.int .i64 p.n) (.string ⟨p.s.toArray⟩) (.slice pa p.keys.length pc) (.slice pb p.l.length pd) ∧ BoxIs (wr.setCell ⟨go, 0, none⟩ (.int .i64 3)) gf (.int .i64 f.kind) (.int .i64 f.n) (.string ⟨f.s.toArray⟩) (.slice fa f.keys.length fc) (.slice fb f.l.length fd) ∧ BoxIs (wr.setCell ⟨go, 0, none⟩ (.int .i64 3)) gy (.int .i64 y.kind) (.int .i64 y.n) (.string ⟨y.s.toArray⟩) (.slice ya y.keys.length yc) (.slice yb y.l.length yd)) ∧ (In (wr.setCell ⟨go, 0, none⟩ (.int .i64 3)) ok m (.agg #[.int .i64 m.kind, .int .i64 m.n, .string ⟨m.s.toArray⟩, .slice ma m.keys.length mc, .slice mb m.l.length md]) ∧ In (wr.setCell ⟨go, 0, none⟩ (.int .i64 3)) ok p (.agg #[.int .i64 p.kind, .int .i64 p.n, .string ⟨p.s.toArray⟩, .slice pa p.keys.length pc, .slice pb p.l.length pd]) ∧ In (wr.setCell ⟨go, 0, none⟩ (.int .i64 3)) ok f (.agg #[.int .i64 f.kind, .int .i64 f.n, .string ⟨f.s.toArray⟩, .slice fa f.keys.length fc, .slice fb f.l.length fd]) ∧ In (wr.setCell ⟨go, 0, none⟩ (.int .i64 3)) ok y (.agg #[.int .i64 y.kind, .int .i64 y.n, .string ⟨y.s.toArray⟩, .slice ya y.keys.length yc, .slice yb y.l.length yd]) ∧ In (wr.setCell ⟨go, 0, none⟩ (.int .i64 3)) ok t.l[k] (.agg #[.int .i64 t.l[k].kind, .int .i64 t.l[k].n, .string ⟨t.l[k].s.toArray⟩, .slice a5 t.l[k].keys.length c5, .slice a6 t.l[k].l.length c6]))) ∧ OBox (wr.setCell ⟨go, 0, none⟩ (.int .i64 3)) go (.int .i64 3) (.string ⟨p.s.toArray⟩) (.string ⟨#[]⟩) (.int .i64 0) (.int .i64 0) (.string ⟨#[]⟩) (.slice none 0 0) (.slice none 0 0) ∧ (wr.setCell ⟨go, 0, none⟩ (.int .i64 3)).heap[gt]? = some (.cells #[.string ⟨#[97, 100, 100]⟩, .string ⟨#[114, 101, 109, 111, 118, 101]⟩, .string ⟨#[114, 101, 112, 108, 97, 99, 101]⟩, .string ⟨#[109, 111, 118, 101]⟩, .string ⟨#[99, 111, 112, 121]⟩, .string ⟨#[116, 101, 115, 116]⟩] 9)) := hidI ⟨⟨SA.out.1.far H0.out gs OG.out (by have := GL.out; omega), ⟨SA.out.2.1.1.grown gs (by simp; have := GL.out; omega), SA.out.2.1.2.1.grown gs (by simp; have := GL.out; omega), SA.out.2.1.2.2.1.grown gs (by simp; have := GL.out; omega), SA.out.2.1.2.2.2.1.grown gs (by simp; have := GL.out; omega), SA.out.2.1.2.2.2.2.grown gs (by simp; have := GL.out; omega)⟩, ⟨SA.out.2.2.1.grown gs (fun j hj => by have := H0.out j hj; have := GL.out; omega), SA.out.2.2.2.1.grown gs (fun j hj => by have := H0.out j hj; have := GL.out; omega), SA.out.2.2.2.2.1.grown gs (fun j hj => by have := H0.out j hj; have := GL.out; omega), SA.out.2.2.2.2.2.1.grown gs (fun j hj => by have := H0.out j hj; have := GL.out; omega), SA.out.2.2.2.2.2.2.grown gs (fun j hj => by have := H0.out j hj; have := GL.out; omega)⟩⟩, heap_set S6.out.2.1 0 _, (gs.block gt (Array.getElem?_eq_some_iff.1 S6.out.2.2).1 (by simp; have := GL.out; omega)).trans S6.out.2.2⟩
              clear gs
              go_wp2_with fail
              go_roundg (6 - 3)
              case measure => rw [GQ.out]; omega
              case rel => exact ⟨3, 3, by omega, hidI rfl, by go_num, KN, S7⟩
            · have e3 : (m.s == [114, 101, 112, 108, 97, 99, 101]) = false := by rw [beq_eq_false_iff_ne]; exact he
              have KN : Hid (kd = kU 3 m.s) := hidI (by rw [kU_far (k := 2) (by omega) (fun e => he e.symm)]; exact KD.out)
              clear he
              go_wp2_with fail
              go_roundg (6 - 3)
              case measure => rw [GQ.out]; omega
              case rel => exact ⟨3, kd, by omega, hidI rfl, by go_num, KN, S6⟩
          · have c0 : wr.cell? ⟨gt, 3, none⟩ = some (.string ⟨#[109, 111, 118, 101]⟩) := tx 3
            clear tx
            by_cases he : m.s = [109, 111, 118, 101]
            · have e3 : (m.s == [109, 111, 118, 101]) = true := by rw [beq_iff_eq]; exact he
              have KN : Hid ((4 : Int) = kU 4 m.s) := hidI (by rw [he]; exact kU_at3.symm)
              clear he
              have gs : wr.grownBy (wr.setCell ⟨go, 0, none⟩ (.int .i64 4)) (some go) := gb_set (gb_refl _ _) _ _
              have S7 : Hid ((RQ w ok k la lc os cs (wr.setCell ⟨go, 0, none⟩ (.int .i64 4)) ∧ (BoxIs (wr.setCell ⟨go, 0, none⟩ (.int .i64 4)) gx (.int .i64 t.l[k].kind) (.int .i64 t.l[k].n) (.string ⟨t.l[k].s.toArray⟩) (.slice a5 t.l[k].keys.length c5) (.slice a6 t.l[k].l.length c6) ∧ BoxIs (wr.setCell ⟨go, 0, none⟩ (.int .i64 4)) gm (.int .i64 m.kind) (.int .i64 m.n) (.string ⟨m.s.toArray⟩) (.slice ma m.keys.length mc) (.slice mb m.l.length md) ∧ BoxIs (wr.setCell ⟨go, 0, none⟩ (.int .i64 4)) gp (.int .i64 p.kind) (.int .i64 p.n) (.string ⟨p.s.toArray⟩) (.slice pa p.keys.length pc) (.slice pb p.l.length pd) ∧ BoxIs (wr.setCell ⟨go, 0, none⟩ (.int .i64 4)) gf (.int .i64 f.kind) (.int .i64 f.n) (.string ⟨f.s.toArray⟩) (.slice fa f.keys.length fc) (.slice fb f.l.length fd) ∧ BoxIs (wr.setCell ⟨go, 0, none⟩ (.int .i64 4)) gy (.int .i64 y.kind) (.int .i64 y.n) (.string ⟨y.s.toArray⟩) (.slice ya y.keys.length yc) (.slice yb y.l.length yd)) ∧ (In (wr.setCell ⟨go, 0, none⟩ (.int .i64 4)) ok m (.agg #[.int .i64 m.kind, .int .i64 m.n, .string ⟨m.s.toArray⟩, .slice ma m.keys.length mc, .slice mb m.l.length md]) ∧ In (wr.setCell ⟨go, 0, none⟩ (.int .i64 4)) ok p (.agg #[.int .i64 p.kind, .int .i64 p.n, .string ⟨p.s.toArray⟩, .slice pa p.keys.length pc, .slice pb p.l.length pd]) ∧ In (wr.setCell ⟨go, 0, none⟩ (.int .i64 4)) ok f (.agg #[.int .i64 f.kind, .int .i64 f.n, .string ⟨f.s.toArray⟩, .slice fa f.keys.length fc, .slice fb f.l.length fd]) ∧ In (wr.setCell ⟨go, 0, none⟩ (.int .i64 4)) ok y (.agg #[.int .i64 y.kind, .int .i64 y.n, .string ⟨y.s.toArray⟩, .slice ya y.keys.length yc, .slice yb y.l.length yd]) ∧ In (wr.setCell ⟨go, 0, none⟩ (.int .i64 4)) ok t.l[k] (.agg #[.int .i64 t.l[k].kind, .int .i64 t.l[k].n, .string ⟨t.l[k].s.toArray⟩, .slice a5 t.l[k].keys.length c5, .slice a6 t.l[k].l.length c6]))) ∧ OBox (wr.setCell ⟨go, 0, none⟩ (.int .i64 4)) go (.int .i64 4) (.string ⟨p.s.toArray⟩) (.string ⟨#[]⟩) (.int .i64 0) (.int .i64 0) (.string ⟨#[]⟩) (.slice none 0 0) (.slice none 0 0) ∧ (wr.setCell ⟨go, 0, none⟩ (.int .i64 4)).heap[gt]? = some (.cells #[.string ⟨#[97, 100, 100]⟩, .string ⟨#[114, 101, 109, 111, 118, 101]⟩, .string ⟨#[114, 101, 112, 108, 97, 99, 101]⟩, .string ⟨#[109, 111, 118, 101]⟩, .string ⟨#[99, 111, 112, 121]⟩, .string ⟨#[116, 101, 115, 116]⟩] 9)) := hidI ⟨⟨SA.out.1.far H0.out gs OG.out (by have := GL.out; omega), ⟨SA.out.2.1.1.grown gs (by simp; have := GL.out; omega), SA.out.2.1.2.1.grown gs (by simp; have := GL.out; omega), SA.out.2.1.2.2.1.grown gs (by simp; have := GL.out; omega), SA.out.2.1.2.2.2.1.grown gs (by simp; have := GL.out; omega), SA.out.2.1.2.2.2.2.grown gs (by simp; have := GL.out; omega)⟩, ⟨SA.out.2.2.1.grown gs (fun j hj => by have := H0.out j hj; have := GL.out; omega), SA.out.2.2.2.1.grown gs (fun j hj => by have := H0.out j hj; have := GL.out; omega), SA.out.2.2.2.2.1.grown gs (fun j hj => by have := H0.out j hj; have := GL.out; omega), SA.out.2.2.2.2.2.1.grown gs (fun j hj => by have := H0.out j hj; have := GL.out; omega), SA.out.2.2.2.2.2.2.grown gs (fun j hj => by have := H0.out j hj; have := GL.out; omega)⟩⟩, heap_set S6.out.2.1 0 _, (gs.block gt (Array.getElem?_eq_some_iff.1 S6.out.2.2).1 (by simp; have := GL.out; omega)).trans S6.out.2.2⟩
              clear gs
              go_wp2_with fail
              go_roundg (6 - 4)
              case measure => rw [GQ.out]; omega
              case rel => exact ⟨4, 4, by omega, hidI rfl, by go_num, KN, S7⟩
            · have e3 : (m.s == [109, 111, 118, 101]) = false := by rw [beq_eq_false_iff_ne]; exact he
              have KN : Hid (kd = kU 4 m.s) := hidI (by rw [kU_far (k := 3) (by omega) (fun e => he e.symm)]; exact KD.out)
              clear he
              go_wp2_with fail
              go_roundg (6 - 4)
              case measure => rw [GQ.out]; omega
              case rel => exact ⟨4, kd, by omega, hidI rfl, by go_num, KN, S6⟩
          · have c0 : wr.cell? ⟨gt, 4, none⟩ = some (.string ⟨#[99, 111, 112, 121]⟩) := tx 4
            clear tx
            by_cases he : m.s = [99, 111, 112, 121]
            · have e3 : (m.s == [99, 111, 112, 121]) = true := by rw [beq_iff_eq]; exact he
              have KN : Hid ((5 : Int) = kU 5 m.s) := hidI (by rw [he]; exact kU_at4.symm)
              clear he
              have gs : wr.grownBy (wr.setCell ⟨go, 0, none⟩ (.int .i64 5)) (some go) := gb_set (gb_refl _ _) _ _
              have S7 : Hid ((RQ w ok k la lc os cs (wr.setCell ⟨go, 0, none⟩ (.int .i64 5)) ∧ (BoxIs (wr.setCell ⟨go, 0, none⟩ (.int .i64 5)) gx (.int .i64 t.l[k].kind) (.int .i64 t.l[k].n) (.string ⟨t.l[k].s.toArray⟩) (.slice a5 t.l[k].keys.length c5) (.slice a6 t.l[k].l.length c6) ∧ BoxIs (wr.setCell ⟨go, 0, none⟩ (.int .i64 5)) gm (.int .i64 m.kind) (.int .i64 m.n) (.string ⟨m.s.toArray⟩) (.slice ma m.keys.length mc) (.slice mb m.l.length md) ∧ BoxIs (wr.setCell ⟨go, 0, none⟩ (.int .i64 5)) gp (.int .i64 p.kind) (.int .i64 p.n) (.string ⟨p.s.toArray⟩) (.slice pa p.keys.length pc) (.slice pb p.l.length pd) ∧ BoxIs (wr.setCell ⟨go, 0, none⟩ (.int .i64 5)) gf (.int .i64 f.kind) (.int .i64 f.n) (.string ⟨f.s.toArray⟩) (.slice fa f.keys.length fc) (.slice fb f.l.length fd) ∧ BoxIs (wr.setCell ⟨go, 0, none⟩ (.int .i64 5)) gy (.int .i64 y.kind) (.int .i64 y.n) (.string ⟨y.s.toArray⟩) (.slice ya y.keys.length yc) (.slice yb y.l.length yd)) ∧ (In (wr.setCell ⟨go, 0, none⟩ (.int .i64 5)) ok m (.agg #[.int .i64 m.kind, .int .i64 m.n, .string ⟨m.s.toArray⟩, .slice ma m.keys.length mc, .slice mb m.l.length md]) ∧ In (wr.setCell ⟨go, 0, none⟩ (.int .i64 5)) ok p (.agg #[.int .i64 p.kind, .int .i64 p.n, .string ⟨p.s.toArray⟩, .slice pa p.keys.length pc, .slice pb p.l.length pd]) ∧ In (wr.setCell ⟨go, 0, none⟩ (.int .i64 5)) ok f (.agg #[.int .i64 f.kind, .int .i64 f.n, .string ⟨f.s.toArray⟩, .slice fa f.keys.length fc, .slice fb f.l.length fd]) ∧ In (wr.setCell ⟨go, 0, none⟩ (.int .i64 5)) ok y (.agg #[.int .i64 y.kind, .int .i64 y.n, .string ⟨y.s.toArray⟩, .slice ya y.keys.length yc, .slice yb y.l.length yd]) ∧ In (wr.setCell ⟨go, 0, none⟩ (.int .i64 5)) ok t.l[k] (.agg #[.int .i64 t.l[k].kind, .int .i64 t.l[k].n, .string ⟨t.l[k].s.toArray⟩, .slice a5 t.l[k].keys.length c5, .slice a6 t.l[k].l.length c6]))) ∧ OBox (wr.setCell ⟨go, 0, none⟩ (.int .i64 5)) go (.int .i64 5) (.string ⟨p.s.toArray⟩) (.string ⟨#[]⟩) (.int .i64 0) (.int .i64 0) (.string ⟨#[]⟩) (.slice none 0 0) (.slice none 0 0) ∧ (wr.setCell ⟨go, 0, none⟩ (.int .i64 5)).heap[gt]? = some (.cells #[.string ⟨#[97, 100, 100]⟩, .string ⟨#[114, 101, 109, 111, 118, 101]⟩, .string ⟨#[114, 101, 112, 108, 97, 99, 101]⟩, .string ⟨#[109, 111, 118, 101]⟩, .string ⟨#[99, 111, 112, 121]⟩, .string ⟨#[116, 101, 115, 116]⟩] 9)) := hidI ⟨⟨SA.out.1.far H0.out gs OG.out (by have := GL.out; omega), ⟨SA.out.2.1.1.grown gs (by simp; have := GL.out; omega), SA.out.2.1.2.1.grown gs (by simp; have := GL.out; omega), SA.out.2.1.2.2.1.grown gs (by simp; have := GL.out; omega), SA.out.2.1.2.2.2.1.grown gs (by simp; have := GL.out; omega), SA.out.2.1.2.2.2.2.grown gs (by simp; have := GL.out; omega)⟩, ⟨SA.out.2.2.1.grown gs (fun j hj => by have := H0.out j hj; have := GL.out; omega), SA.out.2.2.2.1.grown gs (fun j hj => by have := H0.out j hj; have := GL.out; omega), SA.out.2.2.2.2.1.grown gs (fun j hj => by have := H0.out j hj; have := GL.out; omega), SA.out.2.2.2.2.2.1.grown gs (fun j hj => by have := H0.out j hj; have := GL.out; omega), SA.out.2.2.2.2.2.2.grown gs (fun j hj => by have := H0.out j hj; have := GL.out; omega)⟩⟩, heap_set S6.out.2.1 0 _, (gs.block gt (Array.getElem?_eq_some_iff.1 S6.out.2.2).1 (by simp; have := GL.out; omega)).trans S6.out.2.2⟩
              clear gs
              go_wp2_with fail
              go_roundg (6 - 5)
              case measure => rw [GQ.out]; omega
              case rel => exact ⟨5, 5, by omega, hidI rfl, by go_num, KN, S7⟩
            · have e3 : (m.s == [99, 111, 112, 121]) = false := by rw [beq_eq_false_iff_ne]; exact he
              have KN : Hid (kd = kU 5 m.s) := hidI (by rw [kU_far (k := 4) (by omega) (fun e => he e.symm)]; exact KD.out)
              clear he
              go_wp2_with fail
              go_roundg (6 - 5)
              case measure => rw [GQ.out]; omega
              case rel => exact ⟨5, kd, by omega, hidI rfl, by go_num, KN, S6⟩
          · have c0 : wr.cell? ⟨gt, 5, none⟩ = some (.string ⟨#[116, 101, 115, 116]⟩) := tx 5
            clear tx
            by_cases he : m.s = [116, 101, 115, 116]
            · have e3 : (m.s == [116, 101, 115, 116]) = true := by rw [beq_iff_eq]; exact he
              have KN : Hid ((6 : Int) = kU 6 m.s) := hidI (by rw [he]; exact kU_at5.symm)
              clear he
              have gs : wr.grownBy (wr.setCell ⟨go, 0, none⟩ (.int .i64 6)) (some go) := gb_set (gb_refl _ _) _ _
              have S7 : Hid ((RQ w ok k la lc os cs (wr.setCell ⟨go, 0, none⟩ (.int .i64 6)) ∧ (BoxIs (wr.setCell ⟨go, 0, none⟩ (.int .i64 6)) gx (.int .i64 t.l[k].kind) (.int .i64 t.l[k].n) (.string ⟨t.l[k].s.toArray⟩) (.slice a5 t.l[k].keys.length c5) (.slice a6 t.l[k].l.length c6) ∧ BoxIs (wr.setCell ⟨go, 0, none⟩ (.int .i64 6)) gm (.int .i64 m.kind) (.int .i64 m.n) (.string ⟨m.s.toArray⟩) (.slice ma m.keys.length mc) (.slice mb m.l.length md) ∧ BoxIs (wr.setCell ⟨go, 0, none⟩ (.int .i64 6)) gp (.int .i64 p.kind) (.int .i64 p.n) (.string ⟨p.s.toArray⟩) (.slice pa p.keys.length pc) (.slice pb p.l.length pd) ∧ BoxIs (wr.setCell ⟨go, 0, none⟩ (.int .i64 6)) gf (.int .i64 f.kind) (.int .i64 f.n) (.string ⟨f.s.toArray⟩) (.slice fa f.keys.length fc) (.slice fb f.l.length fd) ∧ BoxIs (wr.setCell ⟨go, 0, none⟩ (.int .i64 6)) gy (.int .i64 y.kind) (.int .i64 y.n) (.string ⟨y.s.toArray⟩) (.slice ya y.keys.length yc) (.slice yb y.l.length yd)) ∧ (In (wr.setCell ⟨go, 0, none⟩ (.int .i64 6)) ok m (.agg #[.int .i64 m.kind, .int .i64 m.n, .string ⟨m.s.toArray⟩, .slice ma m.keys.length mc, .slice mb m.l.length md]) ∧ In (wr.setCell ⟨go, 0, none⟩ (.int .i64 6)) ok p (.agg #[.int .i64 p.kind, .int .i64 p.n, .string ⟨p.s.toArray⟩, .slice pa p.keys.length pc, .slice pb p.l.length pd]) ∧ In (wr.setCell ⟨go, 0, none⟩ (.int .i64 6)) ok f (.agg #[.int .i64 f.kind, .int .i64 f.n, .string ⟨f.s.toArray⟩, .slice fa f.keys.length fc, .slice fb f.l.length fd]) ∧ In (wr.setCell ⟨go, 0, none⟩ (.int .i64 6)) ok y (.agg #[.int .i64 y.kind, .int .i64 y.n, .string ⟨y.s.toArray⟩, .slice ya y.keys.length yc, .slice yb y.l.length yd]) ∧ In (wr.setCell ⟨go, 0, none⟩ (.int .i64 6)) ok t.l[k] (.agg #[.int .i64 t.l[k].kind, .int .i64 t.l[k].n, .string ⟨t.l[k].s.toArray⟩, .slice a5 t.l[k].keys.length c5, .slice a6 t.l[k].l.length c6]))) ∧ OBox (wr.setCell ⟨go, 0, none⟩ (.int .i64 6)) go (.int .i64 6) (.string ⟨p.s.toArray⟩) (.string ⟨#[]⟩) (.int .i64 0) (.int .i64 0) (.string ⟨#[]⟩) (.slice none 0 0) (.slice none 0 0) ∧ (wr.setCell ⟨go, 0, none⟩ (.int .i64 6)).heap[gt]? = some (.cells #[.string ⟨#[97, 100, 100]⟩, .string ⟨#[114, 101, 109, 111, 118, 101]⟩, .string ⟨#[114, 101, 112, 108, 97, 99, 101]⟩, .string ⟨#[109, 111, 118, 101]⟩, .string ⟨#[99, 111, 112, 121]⟩, .string ⟨#[116, 101, 115, 116]⟩] 9)) := hidI ⟨⟨SA.out.1.far H0.out gs OG.out (by have := GL.out; omega), ⟨SA.out.2.1.1.grown gs (by simp; have := GL.out; omega), SA.out.2.1.2.1.grown gs (by simp; have := GL.out; omega), SA.out.2.1.2.2.1.grown gs (by simp; have := GL.out; omega), SA.out.2.1.2.2.2.1.grown gs (by simp; have := GL.out; omega), SA.out.2.1.2.2.2.2.grown gs (by simp; have := GL.out; omega)⟩, ⟨SA.out.2.2.1.grown gs (fun j hj => by have := H0.out j hj; have := GL.out; omega), SA.out.2.2.2.1.grown gs (fun j hj => by have := H0.out j hj; have := GL.out; omega), SA.out.2.2.2.2.1.grown gs (fun j hj => by have := H0.out j hj; have := GL.out; omega), SA.out.2.2.2.2.2.1.grown gs (fun j hj => by have := H0.out j hj; have := GL.out; omega), SA.out.2.2.2.2.2.2.grown gs (fun j hj => by have := H0.out j hj; have := GL.out; omega)⟩⟩, heap_set S6.out.2.1 0 _, (gs.block gt (Array.getElem?_eq_some_iff.1 S6.out.2.2).1 (by simp; have := GL.out; omega)).trans S6.out.2.2⟩
              clear gs
              go_wp2_with fail
              go_roundg (6 - 6)
              case measure => rw [GQ.out]; omega
              case rel => exact ⟨6, 6, by omega, hidI rfl, by go_num, KN, S7⟩
            · have e3 : (m.s == [116, 101, 115, 116]) = false := by rw [beq_eq_false_iff_ne]; exact he
              have KN : Hid (kd = kU 6 m.s) := hidI (by rw [kU_far (k := 5) (by omega) (fun e => he e.symm)]; exact KD.out)
              clear he
              go_wp2_with fail
              go_roundg (6 - 6)
              case measure => rw [GQ.out]; omega
              case rel => exact ⟨6, kd, by omega, hidI rfl, by go_num, KN, S6⟩
        · have hq7 : q = 6 := by omega
          subst hq7
          have K6 := SA
          have OX := hidI S6.out.2.1
          replace KD : Hid (kd = kindF m.s) := hidI (by rw [KD.out]; exact kU_full _)
          clear hq hq6 S6 SA S5
          go_upto_region 20 with fail
          cases hm : memV t.l[k] opB with
          | none =>
            have HA := hidI (SN.out (by simp [opF, textF, hm]))
            clear hm
            obtain ⟨m0, m1, m2, m3, m4, -⟩ := K6.out.2.1.2.1.c
            simp only [Option.isSome_none, Option.isSome_some]
            go_wp2_with fail
            refine bodyPost_ret (v := .tuple #[.slice none 0 0, .int .i64 1]) (by simp [results, Tryd.results16, go_sem]) rfl ?_
            exact ⟨.slice none 0 0, by rw [HA.out], by rw [HA.out]; exact ⟨by simp, .inl ⟨rfl, none, rfl⟩⟩, K6.out.1.2.2.1⟩
          | some mm =>
            obtain rfl : mm = m := by have := HNm.out; rw [hm] at this; exact this
            cases hp : memV t.l[k] pathB with
            | none =>
              have HA := hidI (SN.out (by simp [opF, textF, hm, hp]))
              clear hm hp
              simp only [Option.isSome_none, Option.isSome_some]
              go_wp2_with fail
              refine bodyPost_ret (v := .tuple #[.slice none 0 0, .int .i64 1]) (by simp [results, Tryd.results16, go_sem]) rfl ?_
              exact ⟨.slice none 0 0, by rw [HA.out], by rw [HA.out]; exact ⟨by simp, .inl ⟨rfl, none, rfl⟩⟩, K6.out.1.2.2.1⟩
            | some pp =>
              obtain rfl : pp = p := by have := HNp.out; rw [hp] at this; exact this
              by_cases hmk : mm.kind = 3
              · by_cases hpk : pp.kind = 3
                · by_cases hkd : kd = 0
                  · have HA := hidI (SN.out (by simp [opF, textF, hm, hp, hmk, hpk, ← KD.out, hkd]))
                    have e1 : (mm.kind == 3) = true := by simp [hmk]
                    have e1n : (mm.kind != 3) = false := by simp [hmk]
                    have e2 : (pp.kind == 3) = true := by simp [hpk]
                    have e2n : (pp.kind != 3) = false := by simp [hpk]
                    subst hkd
                    clear hm hp hmk hpk
                    obtain ⟨m0, m1, m2, m3, m4, -⟩ := K6.out.2.1.2.1.c
                    obtain ⟨p0, p1, p2, p3, p4, -⟩ := K6.out.2.1.2.2.1.c
                    obtain ⟨⟨n0, n1, n2, n3, n4, n5, n6, n7⟩, -⟩ := OX.out.c
                    simp only [Option.isSome_none, Option.isSome_some]
                    go_wp2_with fail
                    refine bodyPost_ret (v := .tuple #[.slice none 0 0, .int .i64 1]) (by simp [results, Tryd.results16, go_sem]) rfl ?_
                    exact ⟨.slice none 0 0, by rw [HA.out], by rw [HA.out]; exact ⟨by simp, .inl ⟨rfl, none, rfl⟩⟩, K6.out.1.2.2.1⟩
                  · have hkr := kind_range mm.s
                    rw [← KD.out] at hkr
                    rcases hkr with hz | hz | hz | hz | hz | hz | hz
                    · exact absurd hz hkd
                    · subst hz
                      have KDF : kindF mm.s = 1 := KD.out.symm
                      cases hy : memV t.l[k] valueB with
                      | none =>
                        have HA := hidI (SN.out (by simp [opF, textF, hm, hp, hmk, hpk, hy, KDF]))
                        have e1 : (mm.kind == 3) = true := by simp [hmk]
                        have e1n : (mm.kind != 3) = false := by simp [hmk]
                        have e2 : (pp.kind == 3) = true := by simp [hpk]
                        have e2n : (pp.kind != 3) = false := by simp [hpk]
                        obtain ⟨m0, m1, m2, m3, m4, -⟩ := K6.out.2.1.2.1.c
                        obtain ⟨p0, p1, p2, p3, p4, -⟩ := K6.out.2.1.2.2.1.c
                        obtain ⟨⟨n0, n1, n2, n3, n4, n5, n6, n7⟩, nf⟩ := OX.out.c
                        simp only [Option.isSome_none, Option.isSome_some]
                        clear hm hp hmk hpk hkd KDF hy nf
                        go_wp2_with fail
                        refine bodyPost_ret (v := .tuple #[.slice none 0 0, .int .i64 1]) (by simp [results, Tryd.results16, go_sem]) rfl ?_
                        exact ⟨.slice none 0 0, by rw [HA.out], by rw [HA.out]; exact ⟨by simp, .inl ⟨rfl, none, rfl⟩⟩, K6.out.1.2.2.1⟩
                      | some yy =>
                        obtain rfl : yy = y := by have := HNy.out; rw [hy] at this; exact this
                        have hr : opF t.l[k] = some ⟨1, pp.s, [], yy⟩ := by simp [opF, textF, hm, hp, hmk, hpk, hy, KDF]
                        have e1 : (mm.kind == 3) = true := by simp [hmk]
                        have e1n : (mm.kind != 3) = false := by simp [hmk]
                        have e2 : (pp.kind == 3) = true := by simp [hpk]
                        have e2n : (pp.kind != 3) = false := by simp [hpk]
                        obtain ⟨m0, m1, m2, m3, m4, -⟩ := K6.out.2.1.2.1.c
                        obtain ⟨p0, p1, p2, p3, p4, -⟩ := K6.out.2.1.2.2.1.c
                        obtain ⟨⟨n0, n1, n2, n3, n4, n5, n6, n7⟩, nf⟩ := OX.out.c
                        simp only [Option.isSome_none, Option.isSome_some]
                        have nf3 := nf 3
                        have nf4 := nf 4
                        have nf5 := nf 5
                        have nf6 := nf 6
                        have nf7 := nf 7
                        obtain ⟨y0, y1, y2, y3, y4, -⟩ := K6.out.2.1.2.2.2.2.c
                        clear hm hp hmk hpk hkd KDF hy nf
                        obtain ⟨W7, hW7⟩ : ∃ W, (((((wr.setCell ⟨go, 3, none⟩ (.int .i64 yy.kind)).setCell ⟨go, 4, none⟩ (.int .i64 yy.n)).setCell ⟨go, 5, none⟩ (.string ⟨yy.s.toArray⟩)).setCell ⟨go, 6, none⟩ (.slice ya yy.keys.length yc)).setCell ⟨go, 7, none⟩ (.slice yb yy.l.length yd)) = W := ⟨_, rfl⟩
                        have gs : wr.grownBy W7 (some go) := by rw [← hW7]; exact gb_set (gb_set (gb_set (gb_set (gb_set (gb_refl _ _) _ _) _ _) _ _) _ _) _ _
                        have K7 : Hid (RQ w ok k la lc os cs W7 ∧ (BoxIs W7 gx (.int .i64 t.l[k].kind) (.int .i64 t.l[k].n) (.string ⟨t.l[k].s.toArray⟩) (.slice a5 t.l[k].keys.length c5) (.slice a6 t.l[k].l.length c6) ∧ BoxIs W7 gm (.int .i64 mm.kind) (.int .i64 mm.n) (.string ⟨mm.s.toArray⟩) (.slice ma mm.keys.length mc) (.slice mb mm.l.length md) ∧ BoxIs W7 gp (.int .i64 pp.kind) (.int .i64 pp.n) (.string ⟨pp.s.toArray⟩) (.slice pa pp.keys.length pc) (.slice pb pp.l.length pd) ∧ BoxIs W7 gf (.int .i64 f.kind) (.int .i64 f.n) (.string ⟨f.s.toArray⟩) (.slice fa f.keys.length fc) (.slice fb f.l.length fd) ∧ BoxIs W7 gy (.int .i64 yy.kind) (.int .i64 yy.n) (.string ⟨yy.s.toArray⟩) (.slice ya yy.keys.length yc) (.slice yb yy.l.length yd)) ∧ (In W7 ok mm (.agg #[.int .i64 mm.kind, .int .i64 mm.n, .string ⟨mm.s.toArray⟩, .slice ma mm.keys.length mc, .slice mb mm.l.length md]) ∧ In W7 ok pp (.agg #[.int .i64 pp.kind, .int .i64 pp.n, .string ⟨pp.s.toArray⟩, .slice pa pp.keys.length pc, .slice pb pp.l.length pd]) ∧ In W7 ok f (.agg #[.int .i64 f.kind, .int .i64 f.n, .string ⟨f.s.toArray⟩, .slice fa f.keys.length fc, .slice fb f.l.length fd]) ∧ In W7 ok yy (.agg #[.int .i64 yy.kind, .int .i64 yy.n, .string ⟨yy.s.toArray⟩, .slice ya yy.keys.length yc, .slice yb yy.l.length yd]) ∧ In W7 ok t.l[k] (.agg #[.int .i64 t.l[k].kind, .int .i64 t.l[k].n, .string ⟨t.l[k].s.toArray⟩, .slice a5 t.l[k].keys.length c5, .slice a6 t.l[k].l.length c6]))) := hidI ⟨K6.out.1.far H0.out gs OG.out (by have := GL.out; omega), ⟨K6.out.2.1.1.grown gs (by simp; have := GL.out; omega), K6.out.2.1.2.1.grown gs (by simp; have := GL.out; omega), K6.out.2.1.2.2.1.grown gs (by simp; have := GL.out; omega), K6.out.2.1.2.2.2.1.grown gs (by simp; have := GL.out; omega), K6.out.2.1.2.2.2.2.grown gs (by simp; have := GL.out; omega)⟩, ⟨K6.out.2.2.1.grown gs (fun j hj => by have := H0.out j hj; have := GL.out; omega), K6.out.2.2.2.1.grown gs (fun j hj => by have := H0.out j hj; have := GL.out; omega), K6.out.2.2.2.2.1.grown gs (fun j hj => by have := H0.out j hj; have := GL.out; omega), K6.out.2.2.2.2.2.1.grown gs (fun j hj => by have := H0.out j hj; have := GL.out; omega), K6.out.2.2.2.2.2.2.grown gs (fun j hj => by have := H0.out j hj; have := GL.out; omega)⟩⟩
                        have O7 : Hid (OBox W7 go (.int .i64 1) (.string ⟨pp.s.toArray⟩) (.string ⟨#[]⟩) (.int .i64 yy.kind) (.int .i64 yy.n) (.string ⟨yy.s.toArray⟩) (.slice ya yy.keys.length yc) (.slice yb yy.l.length yd)) := hidI (by
                          rw [← hW7]
                          have e := heap_set (heap_set (heap_set (heap_set (heap_set OX.out 3 (.int .i64 yy.kind)) 4 (.int .i64 yy.n)) 5 (.string ⟨yy.s.toArray⟩)) 6 (.slice ya yy.keys.length yc)) 7 (.slice yb yy.l.length yd)
                          unfold OBox
                          simpa using e)
                        go_upto_region 26 with fail
                        try rw [hW7]
                        clear hW7 gs y0 y1 y2 y3 y4 nf3 nf4 nf5 nf6 nf7
                        clear m0 m1 m2 m3 m4 p0 p1 p2 p3 p4 n0 n1 n2 n3 n4 n5 n6 n7
                        obtain ⟨⟨n0, n1, n2, n3, n4, n5, n6, n7⟩, -⟩ := O7.out.c
                        go_upto_region 30 with fail
                        clear n0 n1 n2 n3 n4 n5 n6 n7
                        obtain ⟨⟨n0, n1, n2, n3, n4, n5, n6, n7⟩, -⟩ := O7.out.c
                        obtain ⟨la', lc', W9, hR, ho9, hg9⟩ := run_pushO W7 _ _ _ _ (⟨1, pp.s, [], yy⟩ : OpT) ya yb yc yd K7.out.1.1 (by omega) (by have := K7.out.1.2.2.2.2; omega) 35
                        have P9 := hidI (K7.out.1.push H0.out ho9 hg9 (NK.out _ hr) K7.out.2.2.2.2.2.1)
                        clear ho9 hg9
                        go_wp2_with (at_builtin; go_must (refine Lib.wpList_append_run _ rfl _ _ _ _ rfl (.slice la k lc) (.slice (some ⟨W7.heap.size, 0, none⟩) 1 1) rfl rfl _ _ hR ?_))
                        go_roundg (t.l.length - (k + 1))
                        case measure => rw [GK.out]; omega
                        case rel => exact ⟨k + 1, os ++ [⟨1, pp.s, [], yy⟩], la', lc', _, hlt, hidI rfl, rfl, by go_num, hidI (ST.out _ hr), hidI P9.out⟩
                    · subst hz
                      have KDF : kindF mm.s = 2 := KD.out.symm
                      have hr : opF t.l[k] = some ⟨2, pp.s, [], zeroT⟩ := by simp [opF, textF, hm, hp, hmk, hpk, KDF]
                      have e1 : (mm.kind == 3) = true := by simp [hmk]
                      have e1n : (mm.kind != 3) = false := by simp [hmk]
                      have e2 : (pp.kind == 3) = true := by simp [hpk]
                      have e2n : (pp.kind != 3) = false := by simp [hpk]
                      obtain ⟨m0, m1, m2, m3, m4, -⟩ := K6.out.2.1.2.1.c
                      obtain ⟨p0, p1, p2, p3, p4, -⟩ := K6.out.2.1.2.2.1.c
                      obtain ⟨⟨n0, n1, n2, n3, n4, n5, n6, n7⟩, nf⟩ := OX.out.c
                      simp only [Option.isSome_none, Option.isSome_some]
                      clear hm hp hmk hpk hkd KDF nf
                      go_upto_region 30 with fail
                      clear m0 m1 m2 m3 m4 p0 p1 p2 p3 p4 n0 n1 n2 n3 n4 n5 n6 n7
                      obtain ⟨⟨n0, n1, n2, n3, n4, n5, n6, n7⟩, -⟩ := OX.out.c
                      obtain ⟨la', lc', W9, hR, ho9, hg9⟩ := run_pushO wr _ _ _ _ (⟨2, pp.s, [], zeroT⟩ : OpT) none none 0 0 K6.out.1.1 (by omega) (by have := K6.out.1.2.2.2.2; omega) 35
                      have P9 := hidI (K6.out.1.push H0.out ho9 hg9 (NK.out _ hr) (in_zero _ _))
                      clear ho9 hg9
                      go_wp2_with (at_builtin; go_must (refine Lib.wpList_append_run _ rfl _ _ _ _ rfl (.slice la k lc) (.slice (some ⟨wr.heap.size, 0, none⟩) 1 1) rfl rfl _ _ hR ?_))
                      go_roundg (t.l.length - (k + 1))
                      case measure => rw [GK.out]; omega
                      case rel => exact ⟨k + 1, os ++ [⟨2, pp.s, [], zeroT⟩], la', lc', _, hlt, hidI rfl, rfl, by go_num, hidI (ST.out _ hr), hidI P9.out⟩
                    · subst hz
                      have KDF : kindF mm.s = 3 := KD.out.symm
                      cases hy : memV t.l[k] valueB with
                      | none =>
                        have HA := hidI (SN.out (by simp [opF, textF, hm, hp, hmk, hpk, hy, KDF]))
                        have e1 : (mm.kind == 3) = true := by simp [hmk]
                        have e1n : (mm.kind != 3) = false := by simp [hmk]
                        have e2 : (pp.kind == 3) = true := by simp [hpk]
                        have e2n : (pp.kind != 3) = false := by simp [hpk]
                        obtain ⟨m0, m1, m2, m3, m4, -⟩ := K6.out.2.1.2.1.c
                        obtain ⟨p0, p1, p2, p3, p4, -⟩ := K6.out.2.1.2.2.1.c
                        obtain ⟨⟨n0, n1, n2, n3, n4, n5, n6, n7⟩, nf⟩ := OX.out.c
                        simp only [Option.isSome_none, Option.isSome_some]
                        clear hm hp hmk hpk hkd KDF hy nf
                        go_wp2_with fail
                        refine bodyPost_ret (v := .tuple #[.slice none 0 0, .int .i64 1]) (by simp [results, Tryd.results16, go_sem]) rfl ?_
                        exact ⟨.slice none 0 0, by rw [HA.out], by rw [HA.out]; exact ⟨by simp, .inl ⟨rfl, none, rfl⟩⟩, K6.out.1.2.2.1⟩
                      | some yy =>
                        obtain rfl : yy = y := by have := HNy.out; rw [hy] at this; exact this
                        have hr : opF t.l[k] = some ⟨3, pp.s, [], yy⟩ := by simp [opF, textF, hm, hp, hmk, hpk, hy, KDF]
                        have e1 : (mm.kind == 3) = true := by simp [hmk]
                        have e1n : (mm.kind != 3) = false := by simp [hmk]
                        have e2 : (pp.kind == 3) = true := by simp [hpk]
                        have e2n : (pp.kind != 3) = false := by simp [hpk]
                        obtain ⟨m0, m1, m2, m3, m4, -⟩ := K6.out.2.1.2.1.c
                        obtain ⟨p0, p1, p2, p3, p4, -⟩ := K6.out.2.1.2.2.1.c
                        obtain ⟨⟨n0, n1, n2, n3, n4, n5, n6, n7⟩, nf⟩ := OX.out.c
                        simp only [Option.isSome_none, Option.isSome_some]
                        have nf3 := nf 3
                        have nf4 := nf 4
                        have nf5 := nf 5
                        have nf6 := nf 6
                        have nf7 := nf 7
                        obtain ⟨y0, y1, y2, y3, y4, -⟩ := K6.out.2.1.2.2.2.2.c
                        clear hm hp hmk hpk hkd KDF hy nf
                        obtain ⟨W7, hW7⟩ : ∃ W, (((((wr.setCell ⟨go, 3, none⟩ (.int .i64 yy.kind)).setCell ⟨go, 4, none⟩ (.int .i64 yy.n)).setCell ⟨go, 5, none⟩ (.string ⟨yy.s.toArray⟩)).setCell ⟨go, 6, none⟩ (.slice ya yy.keys.length yc)).setCell ⟨go, 7, none⟩ (.slice yb yy.l.length yd)) = W := ⟨_, rfl⟩
                        have gs : wr.grownBy W7 (some go) := by rw [← hW7]; exact gb_set (gb_set (gb_set (gb_set (gb_set (gb_refl _ _) _ _) _ _) _ _) _ _) _ _
                        have K7 : Hid (RQ w ok k la lc os cs W7 ∧ (BoxIs W7 gx (.int .i64 t.l[k].kind) (.int .i64 t.l[k].n) (.string ⟨t.l[k].s.toArray⟩) (.slice a5 t.l[k].keys.length c5) (.slice a6 t.l[k].l.length c6) ∧ BoxIs W7 gm (.int .i64 mm.kind) (.int .i64 mm.n) (.string ⟨mm.s.toArray⟩) (.slice ma mm.keys.length mc) (.slice mb mm.l.length md) ∧ BoxIs W7 gp (.int .i64 pp.kind) (.int .i64 pp.n) (.string ⟨pp.s.toArray⟩) (.slice pa pp.keys.length pc) (.slice pb pp.l.length pd) ∧ BoxIs W7 gf (.int .i64 f.kind) (.int .i64 f.n) (.string ⟨f.s.toArray⟩) (.slice fa f.keys.length fc) (.slice fb f.l.length fd) ∧ BoxIs W7 gy (.int .i64 yy.kind) (.int .i64 yy.n) (.string ⟨yy.s.toArray⟩) (.slice ya yy.keys.length yc) (.slice yb yy.l.length yd)) ∧ (In W7 ok mm (.agg #[.int .i64 mm.kind, .int .i64 mm.n, .string ⟨mm.s.toArray⟩, .slice ma mm.keys.length mc, .slice mb mm.l.length md]) ∧ In W7 ok pp (.agg #[.int .i64 pp.kind, .int .i64 pp.n, .string ⟨pp.s.toArray⟩, .slice pa pp.keys.length pc, .slice pb pp.l.length pd]) ∧ In W7 ok f (.agg #[.int .i64 f.kind, .int .i64 f.n, .string ⟨f.s.toArray⟩, .slice fa f.keys.length fc, .slice fb f.l.length fd]) ∧ In W7 ok yy (.agg #[.int .i64 yy.kind, .int .i64 yy.n, .string ⟨yy.s.toArray⟩, .slice ya yy.keys.length yc, .slice yb yy.l.length yd]) ∧ In W7 ok t.l[k] (.agg #[.int .i64 t.l[k].kind, .int .i64 t.l[k].n, .string ⟨t.l[k].s.toArray⟩, .slice a5 t.l[k].keys.length c5, .slice a6 t.l[k].l.length c6]))) := hidI ⟨K6.out.1.far H0.out gs OG.out (by have := GL.out; omega), ⟨K6.out.2.1.1.grown gs (by simp; have := GL.out; omega), K6.out.2.1.2.1.grown gs (by simp; have := GL.out; omega), K6.out.2.1.2.2.1.grown gs (by simp; have := GL.out; omega), K6.out.2.1.2.2.2.1.grown gs (by simp; have := GL.out; omega), K6.out.2.1.2.2.2.2.grown gs (by simp; have := GL.out; omega)⟩, ⟨K6.out.2.2.1.grown gs (fun j hj => by have := H0.out j hj; have := GL.out; omega), K6.out.2.2.2.1.grown gs (fun j hj => by have := H0.out j hj; have := GL.out; omega), K6.out.2.2.2.2.1.grown gs (fun j hj => by have := H0.out j hj; have := GL.out; omega), K6.out.2.2.2.2.2.1.grown gs (fun j hj => by have := H0.out j hj; have := GL.out; omega), K6.out.2.2.2.2.2.2.grown gs (fun j hj => by have := H0.out j hj; have := GL.out; omega)⟩⟩
                        have O7 : Hid (OBox W7 go (.int .i64 3) (.string ⟨pp.s.toArray⟩) (.string ⟨#[]⟩) (.int .i64 yy.kind) (.int .i64 yy.n) (.string ⟨yy.s.toArray⟩) (.slice ya yy.keys.length yc) (.slice yb yy.l.length yd)) := hidI (by
                          rw [← hW7]
                          have e := heap_set (heap_set (heap_set (heap_set (heap_set OX.out 3 (.int .i64 yy.kind)) 4 (.int .i64 yy.n)) 5 (.string ⟨yy.s.toArray⟩)) 6 (.slice ya yy.keys.length yc)) 7 (.slice yb yy.l.length yd)
                          unfold OBox
                          simpa using e)
                        go_upto_region 26 with fail
                        try rw [hW7]
                        clear hW7 gs y0 y1 y2 y3 y4 nf3 nf4 nf5 nf6 nf7
                        clear m0 m1 m2 m3 m4 p0 p1 p2 p3 p4 n0 n1 n2 n3 n4 n5 n6 n7
                        obtain ⟨⟨n0, n1, n2, n3, n4, n5, n6, n7⟩, -⟩ := O7.out.c
                        go_upto_region 30 with fail
                        clear n0 n1 n2 n3 n4 n5 n6 n7
                        obtain ⟨⟨n0, n1, n2, n3, n4, n5, n6, n7⟩, -⟩ := O7.out.c
                        obtain ⟨la', lc', W9, hR, ho9, hg9⟩ := run_pushO W7 _ _ _ _ (⟨3, pp.s, [], yy⟩ : OpT) ya yb yc yd K7.out.1.1 (by omega) (by have := K7.out.1.2.2.2.2; omega) 35
                        have P9 := hidI (K7.out.1.push H0.out ho9 hg9 (NK.out _ hr) K7.out.2.2.2.2.2.1)
                        clear ho9 hg9
                        go_wp2_with (at_builtin; go_must (refine Lib.wpList_append_run _ rfl _ _ _ _ rfl (.slice la k lc) (.slice (some ⟨W7.heap.size, 0, none⟩) 1 1) rfl rfl _ _ hR ?_))
                        go_roundg (t.l.length - (k + 1))
                        case measure => rw [GK.out]; omega
                        case rel => exact ⟨k + 1, os ++ [⟨3, pp.s, [], yy⟩], la', lc', _, hlt, hidI rfl, rfl, by go_num, hidI (ST.out _ hr), hidI P9.out⟩
                    · subst hz
                      have KDF : kindF mm.s = 4 := KD.out.symm
                      cases hf : memV t.l[k] fromB with
                      | none =>
                        have HA := hidI (SN.out (by simp [opF, textF, hm, hp, hmk, hpk, hf, KDF]))
                        have e1 : (mm.kind == 3) = true := by simp [hmk]
                        have e1n : (mm.kind != 3) = false := by simp [hmk]
                        have e2 : (pp.kind == 3) = true := by simp [hpk]
                        have e2n : (pp.kind != 3) = false := by simp [hpk]
                        obtain ⟨m0, m1, m2, m3, m4, -⟩ := K6.out.2.1.2.1.c
                        obtain ⟨p0, p1, p2, p3, p4, -⟩ := K6.out.2.1.2.2.1.c
                        obtain ⟨⟨n0, n1, n2, n3, n4, n5, n6, n7⟩, nf⟩ := OX.out.c
                        simp only [Option.isSome_none, Option.isSome_some]
                        clear hm hp hmk hpk hkd KDF hf nf
                        go_wp2_with fail
                        refine bodyPost_ret (v := .tuple #[.slice none 0 0, .int .i64 1]) (by simp [results, Tryd.results16, go_sem]) rfl ?_
                        exact ⟨.slice none 0 0, by rw [HA.out], by rw [HA.out]; exact ⟨by simp, .inl ⟨rfl, none, rfl⟩⟩, K6.out.1.2.2.1⟩
                      | some ff =>
                        obtain rfl : ff = f := by have := HNf.out; rw [hf] at this; exact this
                        obtain ⟨f0, f1, f2, f3, f4, -⟩ := K6.out.2.1.2.2.2.1.c
                        by_cases hfk : ff.kind = 3
                        · have e5 : (ff.kind == 3) = true := by simp [hfk]
                          have e5n : (ff.kind != 3) = false := by simp [hfk]
                          have hr : opF t.l[k] = some ⟨4, pp.s, ff.s, zeroT⟩ := by simp [opF, textF, hm, hp, hmk, hpk, hf, hfk, KDF]
                          have e1 : (mm.kind == 3) = true := by simp [hmk]
                          have e1n : (mm.kind != 3) = false := by simp [hmk]
                          have e2 : (pp.kind == 3) = true := by simp [hpk]
                          have e2n : (pp.kind != 3) = false := by simp [hpk]
                          obtain ⟨m0, m1, m2, m3, m4, -⟩ := K6.out.2.1.2.1.c
                          obtain ⟨p0, p1, p2, p3, p4, -⟩ := K6.out.2.1.2.2.1.c
                          obtain ⟨⟨n0, n1, n2, n3, n4, n5, n6, n7⟩, nf⟩ := OX.out.c
                          simp only [Option.isSome_none, Option.isSome_some]
                          have nf2 := nf 2
                          clear hm hp hmk hpk hkd KDF hf hfk nf
                          obtain ⟨W7, hW7⟩ : ∃ W, (wr.setCell ⟨go, 2, none⟩ (.string ⟨ff.s.toArray⟩)) = W := ⟨_, rfl⟩
                          have gs : wr.grownBy W7 (some go) := by rw [← hW7]; exact gb_set (gb_refl _ _) _ _
                          have K7 : Hid (RQ w ok k la lc os cs W7 ∧ (BoxIs W7 gx (.int .i64 t.l[k].kind) (.int .i64 t.l[k].n) (.string ⟨t.l[k].s.toArray⟩) (.slice a5 t.l[k].keys.length c5) (.slice a6 t.l[k].l.length c6) ∧ BoxIs W7 gm (.int .i64 mm.kind) (.int .i64 mm.n) (.string ⟨mm.s.toArray⟩) (.slice ma mm.keys.length mc) (.slice mb mm.l.length md) ∧ BoxIs W7 gp (.int .i64 pp.kind) (.int .i64 pp.n) (.string ⟨pp.s.toArray⟩) (.slice pa pp.keys.length pc) (.slice pb pp.l.length pd) ∧ BoxIs W7 gf (.int .i64 ff.kind) (.int .i64 ff.n) (.string ⟨ff.s.toArray⟩) (.slice fa ff.keys.length fc) (.slice fb ff.l.length fd) ∧ BoxIs W7 gy (.int .i64 y.kind) (.int .i64 y.n) (.string ⟨y.s.toArray⟩) (.slice ya y.keys.length yc) (.slice yb y.l.length yd)) ∧ (In W7 ok mm (.agg #[.int .i64 mm.kind, .int .i64 mm.n, .string ⟨mm.s.toArray⟩, .slice ma mm.keys.length mc, .slice mb mm.l.length md]) ∧ In W7 ok pp (.agg #[.int .i64 pp.kind, .int .i64 pp.n, .string ⟨pp.s.toArray⟩, .slice pa pp.keys.length pc, .slice pb pp.l.length pd]) ∧ In W7 ok ff (.agg #[.int .i64 ff.kind, .int .i64 ff.n, .string ⟨ff.s.toArray⟩, .slice fa ff.keys.length fc, .slice fb ff.l.length fd]) ∧ In W7 ok y (.agg #[.int .i64 y.kind, .int .i64 y.n, .string ⟨y.s.toArray⟩, .slice ya y.keys.length yc, .slice yb y.l.length yd]) ∧ In W7 ok t.l[k] (.agg #[.int .i64 t.l[k].kind, .int .i64 t.l[k].n, .string ⟨t.l[k].s.toArray⟩, .slice a5 t.l[k].keys.length c5, .slice a6 t.l[k].l.length c6]))) := hidI ⟨K6.out.1.far H0.out gs OG.out (by have := GL.out; omega), ⟨K6.out.2.1.1.grown gs (by simp; have := GL.out; omega), K6.out.2.1.2.1.grown gs (by simp; have := GL.out; omega), K6.out.2.1.2.2.1.grown gs (by simp; have := GL.out; omega), K6.out.2.1.2.2.2.1.grown gs (by simp; have := GL.out; omega), K6.out.2.1.2.2.2.2.grown gs (by simp; have := GL.out; omega)⟩, ⟨K6.out.2.2.1.grown gs (fun j hj => by have := H0.out j hj; have := GL.out; omega), K6.out.2.2.2.1.grown gs (fun j hj => by have := H0.out j hj; have := GL.out; omega), K6.out.2.2.2.2.1.grown gs (fun j hj => by have := H0.out j hj; have := GL.out; omega), K6.out.2.2.2.2.2.1.grown gs (fun j hj => by have := H0.out j hj; have := GL.out; omega), K6.out.2.2.2.2.2.2.grown gs (fun j hj => by have := H0.out j hj; have := GL.out; omega)⟩⟩
                          have O7 : Hid (OBox W7 go (.int .i64 4) (.string ⟨pp.s.toArray⟩) (.string ⟨ff.s.toArray⟩) (.int .i64 0) (.int .i64 0) (.string ⟨#[]⟩) (.slice none 0 0) (.slice none 0 0)) := hidI (by rw [← hW7]; exact heap_set OX.out 2 _)
                          go_upto_region 30 with fail
                          try rw [hW7]
                          clear hW7 gs f0 f1 f2 f3 f4 nf2
                          clear m0 m1 m2 m3 m4 p0 p1 p2 p3 p4 n0 n1 n2 n3 n4 n5 n6 n7
                          obtain ⟨⟨n0, n1, n2, n3, n4, n5, n6, n7⟩, -⟩ := O7.out.c
                          obtain ⟨la', lc', W9, hR, ho9, hg9⟩ := run_pushO W7 _ _ _ _ (⟨4, pp.s, ff.s, zeroT⟩ : OpT) none none 0 0 K7.out.1.1 (by omega) (by have := K7.out.1.2.2.2.2; omega) 35
                          have P9 := hidI (K7.out.1.push H0.out ho9 hg9 (NK.out _ hr) (in_zero _ _))
                          clear ho9 hg9
                          go_wp2_with (at_builtin; go_must (refine Lib.wpList_append_run _ rfl _ _ _ _ rfl (.slice la k lc) (.slice (some ⟨W7.heap.size, 0, none⟩) 1 1) rfl rfl _ _ hR ?_))
                          go_roundg (t.l.length - (k + 1))
                          case measure => rw [GK.out]; omega
                          case rel => exact ⟨k + 1, os ++ [⟨4, pp.s, ff.s, zeroT⟩], la', lc', _, hlt, hidI rfl, rfl, by go_num, hidI (ST.out _ hr), hidI P9.out⟩
                        · have e5 : (ff.kind == 3) = false := by simp [hfk]
                          have e5n : (ff.kind != 3) = true := by simp [hfk]
                          have HA := hidI (SN.out (by simp [opF, textF, hm, hp, hmk, hpk, hf, hfk, KDF]))
                          have e1 : (mm.kind == 3) = true := by simp [hmk]
                          have e1n : (mm.kind != 3) = false := by simp [hmk]
                          have e2 : (pp.kind == 3) = true := by simp [hpk]
                          have e2n : (pp.kind != 3) = false := by simp [hpk]
                          obtain ⟨m0, m1, m2, m3, m4, -⟩ := K6.out.2.1.2.1.c
                          obtain ⟨p0, p1, p2, p3, p4, -⟩ := K6.out.2.1.2.2.1.c
                          obtain ⟨⟨n0, n1, n2, n3, n4, n5, n6, n7⟩, nf⟩ := OX.out.c
                          simp only [Option.isSome_none, Option.isSome_some]
                          clear hm hp hmk hpk hkd KDF hf hfk nf
                          go_wp2_with fail
                          refine bodyPost_ret (v := .tuple #[.slice none 0 0, .int .i64 1]) (by simp [results, Tryd.results16, go_sem]) rfl ?_
                          exact ⟨.slice none 0 0, by rw [HA.out], by rw [HA.out]; exact ⟨by simp, .inl ⟨rfl, none, rfl⟩⟩, K6.out.1.2.2.1⟩
                    · subst hz
                      have KDF : kindF mm.s = 5 := KD.out.symm
                      cases hf : memV t.l[k] fromB with
                      | none =>
                        have HA := hidI (SN.out (by simp [opF, textF, hm, hp, hmk, hpk, hf, KDF]))
                        have e1 : (mm.kind == 3) = true := by simp [hmk]
                        have e1n : (mm.kind != 3) = false := by simp [hmk]
                        have e2 : (pp.kind == 3) = true := by simp [hpk]
                        have e2n : (pp.kind != 3) = false := by simp [hpk]
                        obtain ⟨m0, m1, m2, m3, m4, -⟩ := K6.out.2.1.2.1.c
                        obtain ⟨p0, p1, p2, p3, p4, -⟩ := K6.out.2.1.2.2.1.c
                        obtain ⟨⟨n0, n1, n2, n3, n4, n5, n6, n7⟩, nf⟩ := OX.out.c
                        simp only [Option.isSome_none, Option.isSome_some]
                        clear hm hp hmk hpk hkd KDF hf nf
                        go_wp2_with fail
                        refine bodyPost_ret (v := .tuple #[.slice none 0 0, .int .i64 1]) (by simp [results, Tryd.results16, go_sem]) rfl ?_
                        exact ⟨.slice none 0 0, by rw [HA.out], by rw [HA.out]; exact ⟨by simp, .inl ⟨rfl, none, rfl⟩⟩, K6.out.1.2.2.1⟩
                      | some ff =>
                        obtain rfl : ff = f := by have := HNf.out; rw [hf] at this; exact this
                        obtain ⟨f0, f1, f2, f3, f4, -⟩ := K6.out.2.1.2.2.2.1.c
                        by_cases hfk : ff.kind = 3
                        · have e5 : (ff.kind == 3) = true := by simp [hfk]
                          have e5n : (ff.kind != 3) = false := by simp [hfk]
                          have hr : opF t.l[k] = some ⟨5, pp.s, ff.s, zeroT⟩ := by simp [opF, textF, hm, hp, hmk, hpk, hf, hfk, KDF]
                          have e1 : (mm.kind == 3) = true := by simp [hmk]
                          have e1n : (mm.kind != 3) = false := by simp [hmk]
                          have e2 : (pp.kind == 3) = true := by simp [hpk]
                          have e2n : (pp.kind != 3) = false := by simp [hpk]
                          obtain ⟨m0, m1, m2, m3, m4, -⟩ := K6.out.2.1.2.1.c
                          obtain ⟨p0, p1, p2, p3, p4, -⟩ := K6.out.2.1.2.2.1.c
                          obtain ⟨⟨n0, n1, n2, n3, n4, n5, n6, n7⟩, nf⟩ := OX.out.c
                          simp only [Option.isSome_none, Option.isSome_some]
                          have nf2 := nf 2
                          clear hm hp hmk hpk hkd KDF hf hfk nf
                          obtain ⟨W7, hW7⟩ : ∃ W, (wr.setCell ⟨go, 2, none⟩ (.string ⟨ff.s.toArray⟩)) = W := ⟨_, rfl⟩
                          have gs : wr.grownBy W7 (some go) := by rw [← hW7]; exact gb_set (gb_refl _ _) _ _
                          have K7 : Hid (RQ w ok k la lc os cs W7 ∧ (BoxIs W7 gx (.int .i64 t.l[k].kind) (.int .i64 t.l[k].n) (.string ⟨t.l[k].s.toArray⟩) (.slice a5 t.l[k].keys.length c5) (.slice a6 t.l[k].l.length c6) ∧ BoxIs W7 gm (.int .i64 mm.kind) (.int .i64 mm.n) (.string ⟨mm.s.toArray⟩) (.slice ma mm.keys.length mc) (.slice mb mm.l.length md) ∧ BoxIs W7 gp (.int .i64 pp.kind) (.int .i64 pp.n) (.string ⟨pp.s.toArray⟩) (.slice pa pp.keys.length pc) (.slice pb pp.l.length pd) ∧ BoxIs W7 gf (.int .i64 ff.kind) (.int .i64 ff.n) (.string ⟨ff.s.toArray⟩) (.slice fa ff.keys.length fc) (.slice fb ff.l.length fd) ∧ BoxIs W7 gy (.int .i64 y.kind) (.int .i64 y.n) (.string ⟨y.s.toArray⟩) (.slice ya y.keys.length yc) (.slice yb y.l.length yd)) ∧ (In W7 ok mm (.agg #[.int .i64 mm.kind, .int .i64 mm.n, .string ⟨mm.s.toArray⟩, .slice ma mm.keys.length mc, .slice mb mm.l.length md]) ∧ In W7 ok pp (.agg #[.int .i64 pp.kind, .int .i64 pp.n, .string ⟨pp.s.toArray⟩, .slice pa pp.keys.length pc, .slice pb pp.l.length pd]) ∧ In W7 ok ff (.agg #[.int .i64 ff.kind, .int .i64 ff.n, .string ⟨ff.s.toArray⟩, .slice fa ff.keys.length fc, .slice fb ff.l.length fd]) ∧ In W7 ok y (.agg #[.int .i64 y.kind, .int .i64 y.n, .string ⟨y.s.toArray⟩, .slice ya y.keys.length yc, .slice yb y.l.length yd]) ∧ In W7 ok t.l[k] (.agg #[.int .i64 t.l[k].kind, .int .i64 t.l[k].n, .string ⟨t.l[k].s.toArray⟩, .slice a5 t.l[k].keys.length c5, .slice a6 t.l[k].l.length c6]))) := hidI ⟨K6.out.1.far H0.out gs OG.out (by have := GL.out; omega), ⟨K6.out.2.1.1.grown gs (by simp; have := GL.out; omega), K6.out.2.1.2.1.grown gs (by simp; have := GL.out; omega), K6.out.2.1.2.2.1.grown gs (by simp; have := GL.out; omega), K6.out.2.1.2.2.2.1.grown gs (by simp; have := GL.out; omega), K6.out.2.1.2.2.2.2.grown gs (by simp; have := GL.out; omega)⟩, ⟨K6.out.2.2.1.grown gs (fun j hj => by have := H0.out j hj; have := GL.out; omega), K6.out.2.2.2.1.grown gs (fun j hj => by have := H0.out j hj; have := GL.out; omega), K6.out.2.2.2.2.1.grown gs (fun j hj => by have := H0.out j hj; have := GL.out; omega), K6.out.2.2.2.2.2.1.grown gs (fun j hj => by have := H0.out j hj; have := GL.out; omega), K6.out.2.2.2.2.2.2.grown gs (fun j hj => by have := H0.out j hj; have := GL.out; omega)⟩⟩
                          have O7 : Hid (OBox W7 go (.int .i64 5) (.string ⟨pp.s.toArray⟩) (.string ⟨ff.s.toArray⟩) (.int .i64 0) (.int .i64 0) (.string ⟨#[]⟩) (.slice none 0 0) (.slice none 0 0)) := hidI (by rw [← hW7]; exact heap_set OX.out 2 _)
                          go_upto_region 30 with fail
                          try rw [hW7]
                          clear hW7 gs f0 f1 f2 f3 f4 nf2
                          clear m0 m1 m2 m3 m4 p0 p1 p2 p3 p4 n0 n1 n2 n3 n4 n5 n6 n7
                          obtain ⟨⟨n0, n1, n2, n3, n4, n5, n6, n7⟩, -⟩ := O7.out.c
                          obtain ⟨la', lc', W9, hR, ho9, hg9⟩ := run_pushO W7 _ _ _ _ (⟨5, pp.s, ff.s, zeroT⟩ : OpT) none none 0 0 K7.out.1.1 (by omega) (by have := K7.out.1.2.2.2.2; omega) 35
                          have P9 := hidI (K7.out.1.push H0.out ho9 hg9 (NK.out _ hr) (in_zero _ _))
                          clear ho9 hg9
                          go_wp2_with (at_builtin; go_must (refine Lib.wpList_append_run _ rfl _ _ _ _ rfl (.slice la k lc) (.slice (some ⟨W7.heap.size, 0, none⟩) 1 1) rfl rfl _ _ hR ?_))
                          go_roundg (t.l.length - (k + 1))
                          case measure => rw [GK.out]; omega
                          case rel => exact ⟨k + 1, os ++ [⟨5, pp.s, ff.s, zeroT⟩], la', lc', _, hlt, hidI rfl, rfl, by go_num, hidI (ST.out _ hr), hidI P9.out⟩
                        · have e5 : (ff.kind == 3) = false := by simp [hfk]
                          have e5n : (ff.kind != 3) = true := by simp [hfk]
                          have HA := hidI (SN.out (by simp [opF, textF, hm, hp, hmk, hpk, hf, hfk, KDF]))
                          have e1 : (mm.kind == 3) = true := by simp [hmk]
                          have e1n : (mm.kind != 3) = false := by simp [hmk]
                          have e2 : (pp.kind == 3) = true := by simp [hpk]
                          have e2n : (pp.kind != 3) = false := by simp [hpk]
                          obtain ⟨m0, m1, m2, m3, m4, -⟩ := K6.out.2.1.2.1.c
                          obtain ⟨p0, p1, p2, p3, p4, -⟩ := K6.out.2.1.2.2.1.c
                          obtain ⟨⟨n0, n1, n2, n3, n4, n5, n6, n7⟩, nf⟩ := OX.out.c
                          simp only [Option.isSome_none, Option.isSome_some]
                          clear hm hp hmk hpk hkd KDF hf hfk nf
                          go_wp2_with fail
                          refine bodyPost_ret (v := .tuple #[.slice none 0 0, .int .i64 1]) (by simp [results, Tryd.results16, go_sem]) rfl ?_
                          exact ⟨.slice none 0 0, by rw [HA.out], by rw [HA.out]; exact ⟨by simp, .inl ⟨rfl, none, rfl⟩⟩, K6.out.1.2.2.1⟩
                    · subst hz
                      have KDF : kindF mm.s = 6 := KD.out.symm
                      cases hy : memV t.l[k] valueB with
                      | none =>
                        have HA := hidI (SN.out (by simp [opF, textF, hm, hp, hmk, hpk, hy, KDF]))
                        have e1 : (mm.kind == 3) = true := by simp [hmk]
                        have e1n : (mm.kind != 3) = false := by simp [hmk]
                        have e2 : (pp.kind == 3) = true := by simp [hpk]
                        have e2n : (pp.kind != 3) = false := by simp [hpk]
                        obtain ⟨m0, m1, m2, m3, m4, -⟩ := K6.out.2.1.2.1.c
                        obtain ⟨p0, p1, p2, p3, p4, -⟩ := K6.out.2.1.2.2.1.c
                        obtain ⟨⟨n0, n1, n2, n3, n4, n5, n6, n7⟩, nf⟩ := OX.out.c
                        simp only [Option.isSome_none, Option.isSome_some]
                        clear hm hp hmk hpk hkd KDF hy nf
                        go_wp2_with fail
                        refine bodyPost_ret (v := .tuple #[.slice none 0 0, .int .i64 1]) (by simp [results, Tryd.results16, go_sem]) rfl ?_
                        exact ⟨.slice none 0 0, by rw [HA.out], by rw [HA.out]; exact ⟨by simp, .inl ⟨rfl, none, rfl⟩⟩, K6.out.1.2.2.1⟩
                      | some yy =>
                        obtain rfl : yy = y := by have := HNy.out; rw [hy] at this; exact this
                        have hr : opF t.l[k] = some ⟨6, pp.s, [], yy⟩ := by simp [opF, textF, hm, hp, hmk, hpk, hy, KDF]
                        have e1 : (mm.kind == 3) = true := by simp [hmk]
                        have e1n : (mm.kind != 3) = false := by simp [hmk]
                        have e2 : (pp.kind == 3) = true := by simp [hpk]
                        have e2n : (pp.kind != 3) = false := by simp [hpk]
                        obtain ⟨m0, m1, m2, m3, m4, -⟩ := K6.out.2.1.2.1.c
                        obtain ⟨p0, p1, p2, p3, p4, -⟩ := K6.out.2.1.2.2.1.c
                        obtain ⟨⟨n0, n1, n2, n3, n4, n5, n6, n7⟩, nf⟩ := OX.out.c
                        simp only [Option.isSome_none, Option.isSome_some]
                        have nf3 := nf 3
                        have nf4 := nf 4
                        have nf5 := nf 5
                        have nf6 := nf 6
                        have nf7 := nf 7
                        obtain ⟨y0, y1, y2, y3, y4, -⟩ := K6.out.2.1.2.2.2.2.c
                        clear hm hp hmk hpk hkd KDF hy nf
                        obtain ⟨W7, hW7⟩ : ∃ W, (((((wr.setCell ⟨go, 3, none⟩ (.int .i64 yy.kind)).setCell ⟨go, 4, none⟩ (.int .i64 yy.n)).setCell ⟨go, 5, none⟩ (.string ⟨yy.s.toArray⟩)).setCell ⟨go, 6, none⟩ (.slice ya yy.keys.length yc)).setCell ⟨go, 7, none⟩ (.slice yb yy.l.length yd)) = W := ⟨_, rfl⟩
                        have gs : wr.grownBy W7 (some go) := by rw [← hW7]; exact gb_set (gb_set (gb_set (gb_set (gb_set (gb_refl _ _) _ _) _ _) _ _) _ _) _ _
                        have K7 : Hid (RQ w ok k la lc os cs W7 ∧ (BoxIs W7 gx (.int .i64 t.l[k].kind) (.int .i64 t.l[k].n) (.string ⟨t.l[k].s.toArray⟩) (.slice a5 t.l[k].keys.length c5) (.slice a6 t.l[k].l.length c6) ∧ BoxIs W7 gm (.int .i64 mm.kind) (.int .i64 mm.n) (.string ⟨mm.s.toArray⟩) (.slice ma mm.keys.length mc) (.slice mb mm.l.length md) ∧ BoxIs W7 gp (.int .i64 pp.kind) (.int .i64 pp.n) (.string ⟨pp.s.toArray⟩) (.slice pa pp.keys.length pc) (.slice pb pp.l.length pd) ∧ BoxIs W7 gf (.int .i64 f.kind) (.int .i64 f.n) (.string ⟨f.s.toArray⟩) (.slice fa f.keys.length fc) (.slice fb f.l.length fd) ∧ BoxIs W7 gy (.int .i64 yy.kind) (.int .i64 yy.n) (.string ⟨yy.s.toArray⟩) (.slice ya yy.keys.length yc) (.slice yb yy.l.length yd)) ∧ (In W7 ok mm (.agg #[.int .i64 mm.kind, .int .i64 mm.n, .string ⟨mm.s.toArray⟩, .slice ma mm.keys.length mc, .slice mb mm.l.length md]) ∧ In W7 ok pp (.agg #[.int .i64 pp.kind, .int .i64 pp.n, .string ⟨pp.s.toArray⟩, .slice pa pp.keys.length pc, .slice pb pp.l.length pd]) ∧ In W7 ok f (.agg #[.int .i64 f.kind, .int .i64 f.n, .string ⟨f.s.toArray⟩, .slice fa f.keys.length fc, .slice fb f.l.length fd]) ∧ In W7 ok yy (.agg #[.int .i64 yy.kind, .int .i64 yy.n, .string ⟨yy.s.toArray⟩, .slice ya yy.keys.length yc, .slice yb yy.l.length yd]) ∧ In W7 ok t.l[k] (.agg #[.int .i64 t.l[k].kind, .int .i64 t.l[k].n, .string ⟨t.l[k].s.toArray⟩, .slice a5 t.l[k].keys.length c5, .slice a6 t.l[k].l.length c6]))) := hidI ⟨K6.out.1.far H0.out gs OG.out (by have := GL.out; omega), ⟨K6.out.2.1.1.grown gs (by simp; have := GL.out; omega), K6.out.2.1.2.1.grown gs (by simp; have := GL.out; omega), K6.out.2.1.2.2.1.grown gs (by simp; have := GL.out; omega), K6.out.2.1.2.2.2.1.grown gs (by simp; have := GL.out; omega), K6.out.2.1.2.2.2.2.grown gs (by simp; have := GL.out; omega)⟩, ⟨K6.out.2.2.1.grown gs (fun j hj => by have := H0.out j hj; have := GL.out; omega), K6.out.2.2.2.1.grown gs (fun j hj => by have := H0.out j hj; have := GL.out; omega), K6.out.2.2.2.2.1.grown gs (fun j hj => by have := H0.out j hj; have := GL.out; omega), K6.out.2.2.2.2.2.1.grown gs (fun j hj => by have := H0.out j hj; have := GL.out; omega), K6.out.2.2.2.2.2.2.grown gs (fun j hj => by have := H0.out j hj; have := GL.out; omega)⟩⟩
                        have O7 : Hid (OBox W7 go (.int .i64 6) (.string ⟨pp.s.toArray⟩) (.string ⟨#[]⟩) (.int .i64 yy.kind) (.int .i64 yy.n) (.string ⟨yy.s.toArray⟩) (.slice ya yy.keys.length yc) (.slice yb yy.l.length yd)) := hidI (by
                          rw [← hW7]
                          have e := heap_set (heap_set (heap_set (heap_set (heap_set OX.out 3 (.int .i64 yy.kind)) 4 (.int .i64 yy.n)) 5 (.string ⟨yy.s.toArray⟩)) 6 (.slice ya yy.keys.length yc)) 7 (.slice yb yy.l.length yd)
                          unfold OBox
                          simpa using e)
                        go_upto_region 26 with fail
                        try rw [hW7]
                        clear hW7 gs y0 y1 y2 y3 y4 nf3 nf4 nf5 nf6 nf7
                        clear m0 m1 m2 m3 m4 p0 p1 p2 p3 p4 n0 n1 n2 n3 n4 n5 n6 n7
                        obtain ⟨⟨n0, n1, n2, n3, n4, n5, n6, n7⟩, -⟩ := O7.out.c
                        go_upto_region 30 with fail
                        clear n0 n1 n2 n3 n4 n5 n6 n7
                        obtain ⟨⟨n0, n1, n2, n3, n4, n5, n6, n7⟩, -⟩ := O7.out.c
                        obtain ⟨la', lc', W9, hR, ho9, hg9⟩ := run_pushO W7 _ _ _ _ (⟨6, pp.s, [], yy⟩ : OpT) ya yb yc yd K7.out.1.1 (by omega) (by have := K7.out.1.2.2.2.2; omega) 35
                        have P9 := hidI (K7.out.1.push H0.out ho9 hg9 (NK.out _ hr) K7.out.2.2.2.2.2.1)
                        clear ho9 hg9
                        go_wp2_with (at_builtin; go_must (refine Lib.wpList_append_run _ rfl _ _ _ _ rfl (.slice la k lc) (.slice (some ⟨W7.heap.size, 0, none⟩) 1 1) rfl rfl _ _ hR ?_))
                        go_roundg (t.l.length - (k + 1))
                        case measure => rw [GK.out]; omega
                        case rel => exact ⟨k + 1, os ++ [⟨6, pp.s, [], yy⟩], la', lc', _, hlt, hidI rfl, rfl, by go_num, hidI (ST.out _ hr), hidI P9.out⟩
                · have HA := hidI (SN.out (by simp [opF, textF, hm, hp, hmk, hpk]))
                  have e1 : (mm.kind == 3) = true := by simp [hmk]
                  have e1n : (mm.kind != 3) = false := by simp [hmk]
                  have e2 : (pp.kind == 3) = false := by simp [hpk]
                  have e2n : (pp.kind != 3) = true := by simp [hpk]
                  clear hm hp hmk hpk
                  obtain ⟨m0, m1, m2, m3, m4, -⟩ := K6.out.2.1.2.1.c
                  obtain ⟨p0, p1, p2, p3, p4, -⟩ := K6.out.2.1.2.2.1.c
                  simp only [Option.isSome_none, Option.isSome_some]
                  go_wp2_with fail
                  refine bodyPost_ret (v := .tuple #[.slice none 0 0, .int .i64 1]) (by simp [results, Tryd.results16, go_sem]) rfl ?_
                  exact ⟨.slice none 0 0, by rw [HA.out], by rw [HA.out]; exact ⟨by simp, .inl ⟨rfl, none, rfl⟩⟩, K6.out.1.2.2.1⟩
              · have HA := hidI (SN.out (by simp [opF, textF, hm, hmk]))
                have e1 : (mm.kind == 3) = false := by simp [hmk]
                have e1n : (mm.kind != 3) = true := by simp [hmk]
                clear hm hp hmk
                obtain ⟨m0, m1, m2, m3, m4, -⟩ := K6.out.2.1.2.1.c
                simp only [Option.isSome_none, Option.isSome_some]
                go_wp2_with fail
                refine bodyPost_ret (v := .tuple #[.slice none 0 0, .int .i64 1]) (by simp [results, Tryd.results16, go_sem]) rfl ?_
                exact ⟨.slice none 0 0, by rw [HA.out], by rw [HA.out]; exact ⟨by simp, .inl ⟨rfl, none, rfl⟩⟩, K6.out.1.2.2.1⟩
    · have d1' : ¬ (k : Int) < (t.l.length : Int) := by omega
      have HA := hidI (FO.out os (allG_all AX.out hlt))
      have hk9 : k ≤ 1000 := by have := HL.out; omega
      go_wp2_with fail
      refine bodyPost_ret (v := .tuple #[.slice la k lc, .int .i64 0]) (by simp [results, Tryd.results16, go_sem]) rfl ?_
      exact ⟨.slice la k lc, by rw [HA.out], by rw [HA.out]; exact own_ops K3.out.1 K3.out.2.1 hk9 (fun j hj => .inr (by omega)) (fun j hj => .inl hj), K3.out.2.2.1⟩

theorem rops_at (w : World) (ok : Nat → Prop) (t : V) (v : Value) (h : In w ok t v) (hN : cnt t ≤ 1000000000000000) : Calls Tryd.prog 16 #[v] w fun e w' => ∃ sl, e = .returned (.tuple #[sl, .int .i64 (readOF t).2]) ∧ OpsAre w' (okN ok w.heap.size) (readOF t).1 sl ∧ Below w.heap.size w w' := by
  have key : Calls Tryd.prog 16 #[v] w fun e w' => ∃ sl, e = .returned (.tuple #[sl, .int .i64 (readOF t).2]) ∧ OpsAre w' (okN (fun k => ok k ∧ k < w.heap.size) w.heap.size) (readOF t).1 sl ∧ Below w.heap.size w w' := by
    replace h := h.low
    have h0 : ∀ k, (fun k => ok k ∧ k < w.heap.size) k → k < w.heap.size := fun k hk => hk.2
    cases hg : goodV t with
    | false => exact rops_bad w _ t v h h0 hN hg
    | true =>
      by_cases hk : t.kind = 4
      · by_cases hl : t.l.length ≤ 20
        · exact rops_list w _ t v h h0 hN hk hg hl
        · exact rops_long w _ t v h h0 hN hk hg (by omega)
      · exact rops_kind w _ t v h h0 hN hk hg
  refine key.mono ?_
  rintro e w' ⟨sl, e1, e2, e3⟩
  refine ⟨sl, e1, ?_, e3⟩
  refine ⟨e2.1, ?_⟩
  rcases e2.2 with h | ⟨b, off, c, e, h1, h2, h3⟩
  · exact .inl h
  · refine .inr ⟨b, off, c, e, h1, h2, fun i o ho => ?_⟩
    obtain ⟨v0, v1, v2, v3, v4, v5, v6, v7, hk, g0, g1, g2, g3, g4, g5, g6, g7, g8⟩ := h3 i o ho
    have imp : ∀ k, okN (fun k => ok k ∧ k < w.heap.size) w.heap.size k → okN ok w.heap.size k := fun k hk => hk.imp And.left id
    exact ⟨v0, v1, v2, v3, v4, v5, v6, v7, imp _ hk, g0, g1, g2, g3, g4, g5, g6, g7, g8.weak imp⟩
end Go.Proofs.YtaifciobaapehaaDoor
