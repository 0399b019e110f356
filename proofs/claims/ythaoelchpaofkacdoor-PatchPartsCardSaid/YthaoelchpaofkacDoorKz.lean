/- What is read of an argument that is a list of operations. -/
import Derived.Test.YthaoelchpaofkacDoorKx
import Derived.Test.YthaoelchpaofkacDoorYa
set_option linter.unusedSimpArgs false
set_option linter.unusedVariables false
namespace Go.Proofs.YthaoelchpaofkacDoor
open Go.ChangeShapes Go.WideShapes Go.ChangeAt Go.RowKit
set_option maxRecDepth 100000

theorem cellsOp : Tryd.prog.cellsOf 39 = 8 := by kernel_rfl
theorem readableO : Tryd.prog.readableRec 26 = true := by kernel_rfl
theorem rowedO : 26 < Tryd.prog.types.size := of_decide_eq_true (by kernel_rfl)
theorem op_of {H : Type} {enc : TypeId × Value → H} {W : World} (fuel : Nat) (cs : List Value) (x : DataW H × List MemPlace) (h : DataW.trod enc Tryd.prog W 0 (fun _ => true) true fuel 39 cs = some x)
    (hz : ∀ n ∈ x.1.weights Tryd.prog 39, n ≤ reachBytes) :
    ∃ o v0 v1 v2 v3 v4 v5 v6 v7, cs = [v0, v1, v2, v3, v4, v5, v6, v7] ∧ OpIn W (fun _ => True) o (.agg #[v0, v1, v2, v3, v4, v5, v6, v7]) := by
  obtain ⟨xs, n, e, hx, hl, hlen, hf⟩ := DataW.trod_struct Tryd.underlying39 h
  rw [cellsOp] at hl
  match cs, hl, xs, hlen with
  | [v0, v1, v2, v3, v4, v5, v6, v7], _, [y0, y1, y2, y3], _ =>
    have g0 : DataW.trod enc Tryd.prog W 0 (fun _ => true) true n 3 [v0] = some y0 := by simpa [cellsInt] using hf 0 _ rfl
    have g1 : DataW.trod enc Tryd.prog W 0 (fun _ => true) true n 9 [v1] = some y1 := by simpa [cellsString, cellsInt] using hf 1 _ rfl
    have g2 : DataW.trod enc Tryd.prog W 0 (fun _ => true) true n 9 [v2] = some y2 := by simpa [cellsString, cellsInt] using hf 2 _ rfl
    have g3 : DataW.trod enc Tryd.prog W 0 (fun _ => true) true n 25 [v3, v4, v5, v6, v7] = some y3 := by simpa [cellsString, cellsInt, cellsValue] using hf 3 _ rfl
    obtain ⟨z0, e0, -, w0⟩ := DataW.trod_int Tryd.underlying3 g0
    obtain ⟨s1, e1, f1, hs1⟩ := DataW.trod_string Tryd.underlying9 g1
    obtain ⟨s2, e2, f2, hs2⟩ := DataW.trod_string Tryd.underlying9 g2
    obtain ⟨t, u0, u1, u2, u3, u4, e3, hv⟩ := vis_of n _ _ g3
    simp only [List.cons.injEq, and_true] at e0 e1 e2 e3
    obtain ⟨rfl, rfl, rfl, rfl, rfl⟩ := e3
    subst e0
    subst e1
    subst e2
    obtain ⟨a7, a8, c7, c8, eq⟩ := hv.shape
    simp only [Value.agg.injEq, Array.mk.injEq, List.cons.injEq, and_true] at eq
    obtain ⟨rfl, rfl, rfl, rfl, rfl⟩ := eq
    have hz1 : s1.data.toList.length ≤ reachBytes := by
      refine hz _ ?_
      rw [hx, f1, f2]
      simp [DataW.weights, DataW.weightsEach, Tryd.underlying39]
    have hz2 : s2.data.toList.length ≤ reachBytes := by
      refine hz _ ?_
      rw [hx, f1, f2]
      simp [DataW.weights, DataW.weightsEach, Tryd.underlying39]
    refine ⟨⟨z0, s1.data.toList, s2.data.toList, t⟩, _, _, _, _, _, _, _, _, rfl, int_wf w0, by unfold reachBytes at hz1; exact hz1, by unfold reachBytes at hz2; exact hz2, a7, a8, c7, c8, by simp, hv.is⟩
theorem weights_all {H : Type} {e : TypeId} : ∀ {ds : List (DataW H)} {j : Nat} {d : DataW H}, ds[j]? = some d → ∀ n ∈ d.weights Tryd.prog e, n ∈ DataW.weightsAll Tryd.prog e ds
  | d0 :: ds, 0, d, hd, n, hn => by
    simp only [List.getElem?_cons_zero, Option.some.injEq] at hd
    subst hd
    simp only [DataW.weightsAll, List.mem_append]
    exact .inl hn
  | d0 :: ds, j + 1, d, hd, n, hn => by
    simp only [List.getElem?_cons_succ] at hd
    simp only [DataW.weightsAll, List.mem_append]
    exact .inr (weights_all hd n hn)
  | [], _, _, hd, _, _ => by simp at hd
theorem arg_ops {H : Type} {enc : TypeId × Value → H} {W : World} {base : Nat} {v : Value} {d : DataW H} {p : List MemPlace} (hk : Value.okWide Tryd.prog W .any base 26 v) (h : DataW.Trod enc Tryd.prog W 0 (fun _ => true) true 26 v d p)
    (hz : ∀ n ∈ d.weights Tryd.prog 26, n ≤ reachBytes) : ∃ os, OpsAre W (fun _ => True) os v := by
  obtain ⟨a0, len0, cap0, rfl⟩ := okWide_slice Tryd.underlying26 hk
  obtain ⟨f, hf⟩ := h
  have hf' : DataW.trod enc Tryd.prog W 0 (fun _ => true) true f 26 [.slice a0 len0 cap0] = some (d, p) := hf
  rcases DataW.trod_slice Tryd.underlying26 hf' with ⟨e, -⟩ | ⟨a, len, cap, elems, rest, k, ek, e, hx, -, hl, hm, hlen, hel, hsp, -⟩
  · simp only [List.cons.injEq, and_true] at e
    exact ⟨[], by simp, .inl ⟨rfl, none, e⟩⟩
  · simp only [List.cons.injEq, and_true] at e
    simp only [Prod.mk.injEq] at hx
    rw [cellsOp] at hel hsp
    obtain ⟨hrl, hrest⟩ := hsp rfl
    have hzel : ∀ (i : Nat) (y : DataW H × List MemPlace), elems[i]? = some y → ∀ n ∈ y.1.weights Tryd.prog 39, n ≤ reachBytes := by
      intro i y hy n hn
      refine hz n ?_
      rw [hx.1]
      simp only [DataW.weights, Tryd.underlying26, List.mem_cons, List.mem_append]
      refine .inr (.inl (weights_all (j := i) (d := y.1) ?_ n hn))
      simp [List.getElem?_map, hy]
    have all : ∀ i, i < len → ∃ cs' y, W.cells? 0 (a.add (i * 8)) 8 = some cs' ∧ DataW.trod enc Tryd.prog W 0 (fun _ => true) true k 39 cs' = some y ∧ elems[i]? = some y := by
      intro i hi
      have := hel i hi
      rw [List.getElem?_eq_getElem (by omega)] at this
      obtain ⟨cs', h1, h2⟩ := Option.bind_eq_some_iff.1 this
      exact ⟨cs', _, h1, h2, List.getElem?_eq_getElem (by omega)⟩
    by_cases h0 : len = 0
    · subst h0
      by_cases hc0 : cap = 0
      · subst hc0
        exact ⟨[], by simp, .inl ⟨rfl, some a, e⟩⟩
      · have ha : a = ⟨a.block, a.off, none⟩ := by
          have := hrest 0 (by omega)
          rw [List.getElem?_eq_getElem (by omega)] at this
          obtain ⟨cs', h1, -⟩ := Option.bind_eq_some_iff.1 this
          obtain ⟨-, h2, h3⟩ := World.cells?_some h1
          have := h3 0 (by omega)
          rw [List.getElem?_eq_getElem (by omega)] at this
          exact addr_plain (spot_none (v := cs'[0]) (by simpa [Addr.add] using this))
        exact ⟨[], by simp, .inr ⟨a.block, a.off, cap, by rw [← ha]; exact e, by simp, hm, fun i o ho => by simp at ho⟩⟩
    · have ha : a = ⟨a.block, a.off, none⟩ := by
        obtain ⟨cs', y, h1, -⟩ := all 0 (by omega)
        obtain ⟨-, h2, h3⟩ := World.cells?_some h1
        have := h3 0 (by omega)
        rw [List.getElem?_eq_getElem (by omega)] at this
        exact addr_plain (spot_none (v := cs'[0]) (by simpa [Addr.add] using this))
      obtain ⟨T, hT⟩ := @Go.Deep.choose_lt OpT ⟨⟨0, [], [], zeroT⟩⟩ len (fun i o => ∃ v0 v1 v2 v3 v4 v5 v6 v7, W.cells? 0 (a.add (i * 8)) 8 = some [v0, v1, v2, v3, v4, v5, v6, v7] ∧ OpIn W (fun _ => True) o (.agg #[v0, v1, v2, v3, v4, v5, v6, v7])) (fun i hi => by
        obtain ⟨cs', y, h1, h2, h3⟩ := all i hi
        obtain ⟨o, v0, v1, v2, v3, v4, v5, v6, v7, rfl, hv⟩ := op_of k cs' y h2 (hzel i y h3)
        exact ⟨o, v0, v1, v2, v3, v4, v5, v6, v7, h1, hv⟩)
      refine ⟨(List.range len).map T, by simp only [List.length_map, List.length_range]; unfold maxLen at hm; omega, .inr ⟨a.block, a.off, cap, by simp only [List.length_map, List.length_range]; rw [← ha]; exact e, by simp only [List.length_map, List.length_range]; omega, hm, fun i o ho => ?_⟩⟩
      simp only [List.getElem?_map, Option.map_eq_some_iff] at ho
      obtain ⟨j, hj, rfl⟩ := ho
      obtain ⟨hj1, hj2⟩ := List.getElem?_eq_some_iff.1 hj
      simp only [List.length_range] at hj1
      simp only [List.getElem_range] at hj2
      subst hj2
      obtain ⟨v0, v1, v2, v3, v4, v5, v6, v7, h1, hv⟩ := hT i hj1
      obtain ⟨-, -, h3⟩ := World.cells?_some h1
      rw [ha] at h3
      have c : ∀ q, q < 8 → W.cell? ⟨a.block, a.off + i * 8 + q, none⟩ = [v0, v1, v2, v3, v4, v5, v6, v7][q]? := by
        intro q hq
        have := h3 q hq
        rw [addr_add, addr_add] at this
        exact this
      exact ⟨v0, v1, v2, v3, v4, v5, v6, v7, trivial, c 0 (by omega), c 1 (by omega), c 2 (by omega), c 3 (by omega), c 4 (by omega), c 5 (by omega), c 6 (by omega), c 7 (by omega), hv⟩
end Go.Proofs.YthaoelchpaofkacDoor
