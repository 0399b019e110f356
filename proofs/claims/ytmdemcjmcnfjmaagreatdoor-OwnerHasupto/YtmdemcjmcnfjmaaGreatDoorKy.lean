/- What is read of an argument that is a list of texts. -/
import Derived.Test.YtmdemcjmcnfjmaaGreatDoorKx
set_option linter.unusedSimpArgs false
set_option linter.unusedVariables false
namespace Go.Proofs.YtmdemcjmcnfjmaaGreatDoor
open Go.ChangeShapes Go.WideShapes Go.ChangeAt Go.RowKit
set_option maxRecDepth 100000

theorem arg_strs {H : Type} {enc : TypeId × Value → H} {W : World} {base : Nat} {v : Value} {d : DataW H} {p : List MemPlace} (hk : Value.okWide Tryz.prog W .any base 22 v) (h : DataW.Trod enc Tryz.prog W 0 (fun _ => true) true 22 v d p) :
    ∃ l, StrsAre W (fun _ => True) l v ∧ (l = [] ∨ ∃ es sp, d = .slice es sp ∧ l.length ≤ es.length) := by
  obtain ⟨a, len, cap, rfl⟩ := okWide_slice Tryz.underlying22 hk
  obtain ⟨f, hf⟩ := h
  have hf' : DataW.trod enc Tryz.prog W 0 (fun _ => true) true f 22 [.slice a len cap] = some (d, p) := hf
  obtain ⟨ks, hks⟩ := strs_of hf'
  refine ⟨ks, hks, ?_⟩
  have hlen := hks.form
  obtain ⟨a', c', e9⟩ := hlen
  simp only [Value.slice.injEq] at e9
  rcases open_strings Tryz.underlying22 Tryz.underlying9 cellsString hf' with ⟨e, -⟩ | ⟨a, len', cap', ss, e, -, hl, hm, hss, hx, hc, hz⟩
  · simp only [List.cons.injEq, Value.slice.injEq, and_true] at e
    refine .inl (List.eq_nil_of_length_eq_zero ?_)
    rw [← e9.2.1, e.2.1]
  · simp only [List.cons.injEq, Value.slice.injEq, and_true] at e
    simp only [Prod.mk.injEq] at hx
    refine .inr ⟨_, _, hx.1, ?_⟩
    simp only [if_true] at hss
    rw [← e9.2.1, e.2.1]
    simp only [strs, List.length_map, List.length_take]
    omega
theorem bytesStr : Tryz.prog.bytesOf 9 = 16 := by kernel_rfl
theorem sized_strs {H : Type} {ts : List TypeId} {ds : List (DataW H)} (h : (DataW.weightsEach Tryz.prog ts ds).all (· ≤ reachBytes) = true) {j : Nat} {d : DataW H} {l : List (List UInt8)} (ht : ts[j]? = some 22) (hd : ds[j]? = some d)
    (hl : l = [] ∨ ∃ es sp, d = .slice es sp ∧ l.length ≤ es.length) : l.length ≤ 10000000000000 := by
  rcases hl with rfl | ⟨es, sp, rfl, hl⟩
  · simp
  · have := sized_slice h ht hd Tryz.underlying22
    rw [bytesStr] at this
    have := reachBytes_lt
    omega
end Go.Proofs.YtmdemcjmcnfjmaaGreatDoor
