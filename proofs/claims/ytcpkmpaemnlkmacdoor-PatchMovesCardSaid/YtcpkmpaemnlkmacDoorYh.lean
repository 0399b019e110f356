/- What patches of package stairwellkeep does. -/
import Derived.Test.YtcpkmpaemnlkmacDoorYg
set_option linter.unusedSimpArgs false
set_option linter.unusedVariables false
namespace Go.Proofs.YtcpkmpaemnlkmacDoor
open Go.RowKit

def paO1 : OpT := ⟨1, [47, 45], [], ⟨1, 0, [], [], []⟩⟩
def paO2 : OpT := ⟨5, [47, 48], [47, 48], ⟨0, 0, [], [], []⟩⟩
def paT : V := ⟨4, 0, [], [], []⟩
def paT1 : V := ⟨4, 0, [], [], [⟨1, 0, [], [], []⟩]⟩
def paT2 : V := ⟨4, 0, [], [], [⟨1, 0, [], [], []⟩, ⟨1, 0, [], [], []⟩]⟩
def paF (t : V) (o : OpT) : V × Int := if o.kind = 1 then layR addedV o.path (splitP o.path) t o.value else copiedR t o.frm o.path
theorem pa_split1 : splitP [47, 45] = ([[45]], 0) := by
  have e : joinP [[45]] = [47, 45] := by unfold joinP; rw [List.flatMap_cons, marked_eq]; rfl
  have := split_join [[45]] (by rw [e]; decide)
  rwa [e] at this
theorem pa_split2 : splitP [47, 48] = ([[48]], 0) := by
  have e : joinP [[48]] = [47, 48] := by unfold joinP; rw [List.flatMap_cons, marked_eq]; rfl
  have := split_join [[48]] (by rw [e]; decide)
  rwa [e] at this
theorem pa_step1 : paF paT paO1 = (paT1, 0) := by
  show layR addedV [47, 45] (splitP [47, 45]) paT ⟨1, 0, [], [], []⟩ = _
  rw [pa_split1]
  kernel_rfl
theorem pa_get : getR (splitP paO2.frm) paT1 = (⟨1, 0, [], [], []⟩, 0) := by
  show getR (splitP [47, 48]) paT1 = _
  rw [pa_split2]
  kernel_rfl
theorem pa_step2 : paF paT1 paO2 = (paT2, 0) := by
  show copiedR paT1 paO2.frm [47, 48] = _
  unfold copiedR
  rw [pa_get]
  show layR addedV [47, 48] (splitP [47, 48]) paT1 ⟨1, 0, [], [], []⟩ = _
  rw [pa_split2]
  kernel_rfl
theorem pa_all : allR paF [paO1, paO2] paT = (paT2, 0) := by
  unfold allR
  have e : runR paF [paO1, paO2] paT = (paT2, 0) := by simp [runR, pa_step1, pa_step2]
  rw [if_neg (by simp), e]
  simp
theorem pa_ok : AllOk paF [paO1, paO2] paT := by
  refine ⟨one_add paO1 paT rfl, fun _ => ?_⟩
  rw [pa_step1]
  refine ⟨?_, fun _ => trivial⟩
  have := one_copy paO2 paT1 rfl 1 0 [] 0 pa_get
  exact this
theorem pa_i64 (n : Int) (h1 : 0 ≤ n) (h2 : n ≤ 100) : I64 n := by unfold I64; omega
theorem cell_block {w : World} {b : Nat} {cs : Array Value} {t : TypeId} (h : w.heap[b]? = some (.cells cs t)) (i : Nat) : w.cell? ⟨b, i, none⟩ = cs[i]? := by
  simp [World.cell?, h]
theorem pa_ops (w : World) (o : Obj) (ho : o = .cells #[.int .i64 1, .string ⟨#[47, 45]⟩, .string ⟨#[]⟩, .int .i64 1, .int .i64 0, .string ⟨#[]⟩, .slice none 0 0, .slice none 0 0, .int .i64 5, .string ⟨#[47, 48]⟩, .string ⟨#[47, 48]⟩, .int .i64 0, .int .i64 0, .string ⟨#[]⟩, .slice none 0 0, .slice none 0 0] 39) :
    OpsAre (w.alloc o) (fun _ => True) [paO1, paO2] (.slice (some ⟨w.heap.size, 0, none⟩) 2 2) := by
  have hb := heap_alloc_new w o
  have c : ∀ i, (w.alloc o).cell? ⟨w.heap.size, i, none⟩ = (#[Value.int .i64 1, .string ⟨#[47, 45]⟩, .string ⟨#[]⟩, .int .i64 1, .int .i64 0, .string ⟨#[]⟩, .slice none 0 0, .slice none 0 0, .int .i64 5, .string ⟨#[47, 48]⟩, .string ⟨#[47, 48]⟩, .int .i64 0, .int .i64 0, .string ⟨#[]⟩, .slice none 0 0, .slice none 0 0] : Array Value)[i]? := by
    intro i
    rw [ho] at hb ⊢
    exact cell_block hb i
  refine ⟨by simp, .inr ⟨w.heap.size, 0, 2, rfl, by simp, by simp, fun i o' h => ?_⟩⟩
  match i, h with
  | 0, h =>
    simp only [List.getElem?_cons_zero, Option.some.injEq] at h
    subst h
    exact ⟨_, _, _, _, _, _, _, _, trivial, (c 0).trans rfl, (c 1).trans rfl, (c 2).trans rfl, (c 3).trans rfl, (c 4).trans rfl, (c 5).trans rfl, (c 6).trans rfl, (c 7).trans rfl, pa_i64 1 (by omega) (by omega), by decide, by decide, none, none, 0, 0, rfl, in_leaf _ _ 1 0 (pa_i64 _ (by omega) (by omega)) (pa_i64 _ (by omega) (by omega))⟩
  | 1, h =>
    simp only [List.getElem?_cons_succ, List.getElem?_cons_zero, Option.some.injEq] at h
    subst h
    exact ⟨_, _, _, _, _, _, _, _, trivial, (c 8).trans rfl, (c 9).trans rfl, (c 10).trans rfl, (c 11).trans rfl, (c 12).trans rfl, (c 13).trans rfl, (c 14).trans rfl, (c 15).trans rfl, pa_i64 5 (by omega) (by omega), by decide, by decide, none, none, 0, 0, rfl, in_leaf _ _ 0 0 (pa_i64 _ (by omega) (by omega)) (pa_i64 _ (by omega) (by omega))⟩

set_option maxRecDepth 100000 in
set_option maxHeartbeats 4000000 in
theorem patches_at (w : World) (hM : GlobM w) : Calls Tryd.prog 19 #[] w fun e w' => e = .returned (.bool true) ∧ Below w.heap.size w w' := by
  have HMM := hidI hM
  clear hM
  go_enter Tryd.func19, Tryd.ntmps19
  go_wp2_with fail
  refine (all_is paF _ (fun _ => True) paT [paO1, paO2] _ _ (by exact in_leaf _ _ 4 0 (pa_i64 _ (by omega) (by omega)) (pa_i64 _ (by omega) (by omega))) (by exact pa_ops w _ rfl) (by exact HMM.out.bel (bel_alloc _ _)) (fun _ => pa_ok)).mono ?_
  rintro e w1 ⟨r, rfl, hb1, hr⟩
  rw [pa_all] at hr ⊢
  simp only at hr ⊢
  obtain ⟨T, hT, hl⟩ : ∃ T, T = paT2 ∧ T.l.length = 2 := ⟨_, rfl, rfl⟩
  rw [← hT] at hr
  clear hT
  obtain ⟨a5, a6, c5, c6, rfl⟩ := hr.form
  have q2 : ((T.l.length : Int) == 2) = true := by rw [hl]; rfl
  have HB := hidI (bel_trans (bel_alloc w _) (bel_trans hb1 (bel_alloc w1 (.cells #[.int .i64 T.kind, .int .i64 T.n, .string ⟨T.s.toArray⟩, .slice a5 T.keys.length c5, .slice a6 T.l.length c6] 25))))
  obtain ⟨-, l2, -⟩ := hr.lens
  clear hb1 hr hl
  go_wp2_with fail
  go_ret
  exact ⟨rfl, HB.out⟩
end Go.Proofs.YtcpkmpaemnlkmacDoor
