/- What points of package stairwellkeep does. -/
import Derived.Test.YtfbddgpekbhpfabDoorXm
import Derived.Test.YtfbddgpekbhpfabDoorXn
import Derived.Test.YtfbddgpekbhpfabDoorWe
set_option linter.unusedSimpArgs false
set_option linter.unusedVariables false
namespace Go.Proofs.YtfbddgpekbhpfabDoor
open Go.RowKit

def ptT : V := ⟨5, 0, [], [], []⟩
def ptX : V := ⟨2, 3, [], [], []⟩
def ptP : List UInt8 := [47, 97, 126, 49, 98]
theorem pt_split : splitP ptP = ([[97, 47, 98]], 0) := by
  have e : joinP [[97, 47, 98]] = ptP := by
    unfold joinP
    rw [List.flatMap_cons, marked_eq]; rfl
  have := split_join [[97, 47, 98]] (by rw [e]; decide)
  rwa [e] at this
theorem pt_add : ∃ T, layR addedV ptP (splitP ptP) ptT ptX = (T, 0) ∧ getR (splitP ptP) T = (ptX, 0) := by
  rw [pt_split]
  have h : layR addedV ptP ([[97, 47, 98]], 0) ptT ptX = (withV ptT [97, 47, 98] ptX, 0) := by kernel_rfl
  refine ⟨_, h, add_get (p := ptP) (fun e => by cases e) h (by decide)⟩
theorem pt_i64 (n : Int) (h1 : 0 ≤ n) (h2 : n ≤ 100) : I64 n := by unfold I64; omega

set_option maxRecDepth 100000 in
set_option maxHeartbeats 4000000 in
theorem points_at (w : World) (hM : GlobM w) : Calls Tryd.prog 29 #[] w fun e w' => e = .returned (.bool true) ∧ Below w.heap.size w w' := by
  obtain ⟨T, hT, hG⟩ := pt_add
  have HT := hidI hT
  have HG := hidI hG
  have HMM := hidI hM
  clear hT hG hM
  go_enter Tryd.func29, Tryd.ntmps29
  go_wp2_with fail
  refine (add_is _ (fun _ => True) ptT ptX _ _ ptP (by exact in_leaf _ _ 5 0 (pt_i64 _ (by omega) (by omega)) (pt_i64 _ (by omega) (by omega))) (by exact in_leaf _ _ 2 3 (pt_i64 _ (by omega) (by omega)) (pt_i64 _ (by omega) (by omega))) (by decide) (by exact HMM.out)).mono ?_
  rintro e w1 ⟨r, rfl, hb1, hr⟩
  rw [HT.out] at hr ⊢
  simp only at hr ⊢
  obtain ⟨a5, a6, c5, c6, rfl⟩ := hr.form
  have K1 : Hid (BoxIs (w1.alloc (.cells #[.int .i64 T.kind, .int .i64 T.n, .string ⟨T.s.toArray⟩, .slice a5 T.keys.length c5, .slice a6 T.l.length c6] 25)) w1.heap.size (.int .i64 T.kind) (.int .i64 T.n) (.string ⟨T.s.toArray⟩) (.slice a5 T.keys.length c5) (.slice a6 T.l.length c6) ∧ Below w.heap.size w (w1.alloc (.cells #[.int .i64 T.kind, .int .i64 T.n, .string ⟨T.s.toArray⟩, .slice a5 T.keys.length c5, .slice a6 T.l.length c6] 25)) ∧
      In (w1.alloc (.cells #[.int .i64 T.kind, .int .i64 T.n, .string ⟨T.s.toArray⟩, .slice a5 T.keys.length c5, .slice a6 T.l.length c6] 25)) (okN (fun _ => True) w.heap.size) T (.agg #[.int .i64 T.kind, .int .i64 T.n, .string ⟨T.s.toArray⟩, .slice a5 T.keys.length c5, .slice a6 T.l.length c6])) := ⟨heap_alloc_new w1 _, bel_trans hb1 (bel_alloc _ _), hr.bel (bel_alloc _ _)⟩
  obtain ⟨q0, q1, q2, q3, q4, -⟩ := K1.out.1.c
  clear hb1 hr
  go_wp2_with fail
  refine (get_is _ _ T _ ptP (by exact K1.out.2.2) (by decide) (by exact HMM.out.bel K1.out.2.1)).mono ?_
  rintro e w2 ⟨r, rfl, hb2, hr⟩
  rw [HG.out] at hr ⊢
  simp only at hr ⊢
  obtain ⟨b5, b6, d5, d6, rfl⟩ := hr.form
  have HB := hidI (bel_trans K1.out.2.1 (bel_trans hb2 (bel_alloc w2 (.cells #[.int .i64 ptX.kind, .int .i64 ptX.n, .string ⟨ptX.s.toArray⟩, .slice b5 ptX.keys.length d5, .slice b6 ptX.l.length d6] 25))))
  have n3 : ptX.n = 3 := rfl
  clear hb2 hr q0 q1 q2 q3 q4 K1
  go_wp2_with fail
  go_ret
  exact ⟨rfl, HB.out⟩
end Go.Proofs.YtfbddgpekbhpfabDoor
