/- What is read of an argument that is a list of texts, and how much there is in it. -/
import Derived.Test.YtmdemcjmcnfjmaaGreatDoorKy
import Derived.Test.YtmdemcjmcnfjmaaGreatDoorKd
import Derived.Test.YtmdemcjmcnfjmaaGreatDoorWa
import Derived.Test.YtmdemcjmcnfjmaaGreatDoorRows
set_option linter.unusedSimpArgs false
set_option linter.unusedVariables false
namespace Go.Proofs.YtmdemcjmcnfjmaaGreatDoor
open Go.ChangeShapes Go.WideShapes Go.ChangeAt Go.RowKit
set_option maxRecDepth 100000

theorem bulk_strs {H : Type} : ∀ (ss : List ByteArray), Rows.uptoBulkAll (strs (H := H) ss) = (ss.map fun s => s.data.toList.length + 1).sum
  | [] => by simp [strs, Rows.uptoBulkAll]
  | s :: ss => by
    have h := bulk_strs (H := H) ss
    simp only [strs, List.map_cons, Rows.uptoBulkAll, Rows.uptoBulk, List.sum_cons] at h ⊢
    rw [h]
theorem join_sum : ∀ (l : List (List UInt8)), (joinP l).length ≤ 2 * (l.map fun x => x.length + 1).sum
  | [] => by simp [joinP]
  | x :: l => by
    have h := join_sum l
    have e : joinP (x :: l) = 47 :: (markedL x ++ joinP l) := by simp [joinP]
    have h2 : (markedL x).length ≤ 2 * x.length := by rw [marked_eq]; exact esc_len x
    rw [e]
    simp only [List.length_cons, List.length_append, List.map_cons, List.sum_cons]
    omega
theorem strs_full {H : Type} {enc : TypeId × Value → H} {W : World} {fuel : Nat} {v : Value} {x : DataW H × List MemPlace} (h : DataW.trod enc Tryz.prog W 0 (fun _ => true) true fuel 22 [v] = some x) :
    ∃ ks, StrsAre W (fun _ => True) ks v ∧ (ks.map fun x => x.length + 1).sum ≤ Rows.uptoBulk x.1 := by
  rcases open_strings Tryz.underlying22 Tryz.underlying9 cellsString h with ⟨e, -⟩ | ⟨a, len, cap, ss, e, -, hl, hm, hss, hx, hc, hz⟩
  · simp only [List.cons.injEq, and_true] at e
    exact ⟨[], ⟨by simp [maxLen], .inl ⟨rfl, none, e⟩⟩, by simp⟩
  · simp only [List.cons.injEq, and_true] at e
    simp only [if_true] at hss
    refine ⟨(ss.take len).map fun s => s.data.toList, ⟨?_, ?_⟩, ?_⟩
    · simp only [List.length_map, List.length_take]; omega
    · have hlen : ((ss.take len).map fun s => s.data.toList).length = len := by simp only [List.length_map, List.length_take]; omega
      by_cases h0 : cap = 0
      · have : len = 0 := by omega
        subst this
        subst h0
        exact .inl ⟨by simp, some a, e⟩
      · have ha := addr_plain (spot_none (by have := hc 0 (by omega); simpa [Addr.add] using this))
        refine .inr ⟨a.block, a.off, cap, by rw [hlen, ← ha]; exact e, by omega, hm, fun i y hy => ?_⟩
        simp only [List.getElem?_map, Option.map_eq_some_iff] at hy
        obtain ⟨s, hs, rfl⟩ := hy
        have hs2 : ss[i]? = some s := by
          rw [List.getElem?_take] at hs
          split at hs
          · exact hs
          · cases hs
        have hi := (List.getElem?_eq_some_iff.1 hs2).1
        refine ⟨by rw [Array.length_toList]; exact hz s (List.mem_of_getElem? hs2), trivial, ?_⟩
        have := hc i hi
        rw [ha, addr_add] at this
        rw [this]
        unfold str
        simp [List.getD, hs2]
    · rw [hx]
      simp only [Rows.uptoBulk, bulk_strs, List.map_map, Function.comp_def]
      omega
theorem arg_strs_bulk {H : Type} {enc : TypeId × Value → H} {W : World} {base : Nat} {v : Value} {d : DataW H} {p : List MemPlace} (hk : Value.okWide Tryz.prog W .any base 22 v) (h : DataW.Trod enc Tryz.prog W 0 (fun _ => true) true 22 v d p) :
    ∃ l, StrsAre W (fun _ => True) l v ∧ (joinP l).length ≤ 2 * Rows.uptoBulk d := by
  obtain ⟨a, len, cap, rfl⟩ := okWide_slice Tryz.underlying22 hk
  obtain ⟨f, hf⟩ := h
  have hf' : DataW.trod enc Tryz.prog W 0 (fun _ => true) true f 22 [.slice a len cap] = some (d, p) := hf
  obtain ⟨ks, hks, hb⟩ := strs_full hf'
  exact ⟨ks, hks, Nat.le_trans (join_sum ks) (by simpa using Nat.mul_le_mul_left 2 hb)⟩
theorem bulk_boundL {H : Type} {l : List (DataW H)} (hk : Rows.uptoSmall H l = true) : Rows.uptoBulkAll l ≤ 1048576 := of_decide_eq_true hk
end Go.Proofs.YtmdemcjmcnfjmaaGreatDoor
