/- What ascii of package stairwellref does. -/
import Derived.Test.YtkboplcffailoaaDoorFp
import Derived.Laws.IdiomStrings
import Derived.Shelf.SlSortCmp.QuietGrown
set_option linter.unusedSimpArgs false
set_option linter.unusedVariables false
namespace Go.Proofs.YtkboplcffailoaaDoor
open Go.RowKit

/- The bytes of a text, as a list of their own. -/
theorem bytes_of (w : World) (s : List UInt8) (hs : s.length ≤ 9223372036854775807) :
    ∃ cap W2, (convert 9 51 (.string ⟨s.toArray⟩)).run Tryd.prog w = .ok (.slice (some ⟨w.heap.size, 0, none⟩) s.length cap) W2 ∧ s.length ≤ cap ∧ cap ≤ 9223372036854775807 ∧
      (∀ (j : Nat) (h : j < s.length), W2.cell? ⟨w.heap.size, j, none⟩ = some (.int .u8 (s[j].toNat : Int))) ∧ ∃ os, W2 = Go.Sort.grow (w.drewN 1) os := by
  have h := run_bytes_of_string (P := Tryd.prog) w 9 51 5 ⟨s.toArray⟩ Tryd.underlying9 Tryd.underlying51 Tryd.underlying5
  have hz : (ByteArray.mk s.toArray).size = s.length := by simp [ByteArray.size]
  rw [hz] at h
  refine ⟨_, _, h, grownCap_ge _ _ _ _, grownCap_le_maxLen _ _ _ _ hs, ?_, ?_⟩
  · intro j hj
    have hb : (w.drew.alloc (.cells (bytesRow ⟨s.toArray⟩ (grownCap w s.length 0 5)) 5 ((bytesRow ⟨s.toArray⟩ (grownCap w s.length 0 5)).size, (bytesRow ⟨s.toArray⟩ (grownCap w s.length 0 5)).size + 1))).heap[w.heap.size]? = some (.cells (bytesRow ⟨s.toArray⟩ (grownCap w s.length 0 5)) 5 ((bytesRow ⟨s.toArray⟩ (grownCap w s.length 0 5)).size, (bytesRow ⟨s.toArray⟩ (grownCap w s.length 0 5)).size + 1)) := heap_alloc_new w.drew _
    have hr := bytesRow_at ⟨s.toArray⟩ (grownCap w s.length 0 5) j (by simpa using hj)
    simp only [World.cell?, hb]
    simpa using hr
  · exact ⟨_, Go.Sort.alloc_eq_grow w.drew _⟩
theorem bel_grow (w : World) (n : Nat) (os : Array Obj) : Below w.heap.size w (Go.Sort.grow (w.drewN n) os) := by
  refine ⟨rfl, rfl, rfl, by simp [Go.Sort.grow, World.drewN], fun k hk => ?_⟩
  show (w.heap ++ os)[k]? = w.heap[k]?
  rw [Array.getElem?_append_left hk]
theorem plain_eq (s : List UInt8) : plainB s = (decide (s.length ≤ 60) && s.all fun c => decide (c.toNat < 128)) := rfl

set_option maxRecDepth 100000 in
set_option maxHeartbeats 8000000 in
theorem ascii_gr (w : World) (s : List UInt8) (hs : s.length ≤ 9223372036854775807) :
    Calls Tryd.prog 45 #[str s] w fun e w' => e = .returned (.bool (plainB s)) ∧ ∃ q os, w' = Go.Sort.grow (w.drewN q) os := by
  unfold str
  obtain ⟨cap, W2, hcv, h1, h2, h3, h4⟩ := bytes_of w s hs
  have HC := hidI h3
  have HB : Hid (∃ q os, W2 = Go.Sort.grow (w.drewN q) os) := hidI ⟨1, h4⟩
  clear h3 h4
  go_enter Tryd.func45, Tryd.ntmps45
  go_wp2_with fail
  clear hcv
  go_loop [8] (fun i => ∃ k : Nat, k ≤ s.length ∧ i = .int .i64 k ∧ Hid ((s.take k).all (fun c => decide (c.toNat < 128)) = true)) (fun i => s.length - (intOf i).toNat)
  case atStart => exact ⟨0, Nat.zero_le _, rfl, hidI rfl⟩
  case round =>
    obtain ⟨k, hk, rfl, HA⟩ := hrel
    by_cases hlt : k < s.length
    · have c0 := HC.out k hlt
      have w1 : (0 : Int) ≤ (k : Int) := by omega
      have w2 : (k : Int) < (s.length : Int) := by omega
      by_cases hc : s[k].toNat < 128
      · have c1 : ¬ (127 : Int) < (s[k].toNat : Int) := by omega
        have HN : Hid ((s.take (k + 1)).all (fun c => decide (c.toNat < 128)) = true) := hidI (by
          rw [List.take_succ_eq_append_getElem hlt, List.all_append, HA.out]
          simp [hc])
        clear hc
        go_wp2_with fail
        go_round
        case rel => exact ⟨k + 1, by omega, by go_num, HN⟩
        case measure => simp [intOf]; omega
      · have c1 : (127 : Int) < (s[k].toNat : Int) := by omega
        have HF : Hid (plainB s = false) := hidI (by
          rw [plain_eq, Bool.and_eq_false_iff]
          right
          rw [List.all_eq_false]
          exact ⟨s[k], List.getElem_mem hlt, by simp; omega⟩)
        clear hc
        go_wp2_with fail
        go_ret
        exact ⟨by rw [HF.out]; rfl, HB.out⟩
    · have l1 : s.take k = s := List.take_of_length_le (by omega)
      rw [l1] at HA
      have d1 : ¬ (k : Int) < (s.length : Int) := by omega
      by_cases h60 : s.length ≤ 60
      · have h61 : (s.length : Int) ≤ 60 := by omega
        have HF : Hid (plainB s = true) := hidI (by rw [plain_eq, HA.out]; simp [h60])
        clear l1 h60
        go_wp2_with fail
        go_ret
        exact ⟨by rw [HF.out]; rfl, HB.out⟩
      · have h61 : ¬ (s.length : Int) ≤ 60 := by omega
        have HF : Hid (plainB s = false) := hidI (by rw [plain_eq]; simp [h60])
        clear l1 h60
        go_wp2_with fail
        go_ret
        exact ⟨by rw [HF.out]; rfl, HB.out⟩
theorem ascii_at (w : World) (s : List UInt8) (hs : s.length ≤ 9223372036854775807) :
    Calls Tryd.prog 45 #[str s] w fun e w' => e = .returned (.bool (plainB s)) ∧ Below w.heap.size w w' :=
  (ascii_gr w s hs).mono fun e w' ⟨h1, q, os, h2⟩ => ⟨h1, by rw [h2]; exact bel_grow w q os⟩
end Go.Proofs.YtkboplcffailoaaDoor
