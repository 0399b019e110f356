/- What is read of an argument that is a value: a tree, in memory. -/
import Derived.Test.YtmdemcjmcnfjmaaGreatDoorKw
import Derived.Test.YtmdemcjmcnfjmaaGreatDoorCl
import Derived.Carry
import Derived.Deep.Slices
import Derived.SliceStrings
import Derived.ChangeOld
set_option linter.unusedSimpArgs false
set_option linter.unusedVariables false
namespace Go.Proofs.YtmdemcjmcnfjmaaGreatDoor
open Go.ChangeShapes Go.WideShapes Go.ChangeAt Go.RowKit
set_option maxRecDepth 100000

theorem cellsValue : Tryz.prog.cellsOf 25 = 5 := by kernel_rfl
theorem cellsInt : Tryz.prog.cellsOf 3 = 1 := by kernel_rfl
theorem cellsStrs : Tryz.prog.cellsOf 22 = 1 := by kernel_rfl
theorem cellsVals : Tryz.prog.cellsOf 23 = 1 := by kernel_rfl
theorem laidOut : laidOutB Tryz.prog = true := by kernel_rfl
theorem readableV : Tryz.prog.readableRec 25 = true := by kernel_rfl
theorem rowedV : 25 < Tryz.prog.types.size := of_decide_eq_true (by kernel_rfl)

theorem spot_none {w : World} {a : Addr} {v : Value} (h : w.cell? a = some v) : a.spot = none := by
  unfold World.cell? at h
  split at h
  · split at h
    · cases h
    · rename_i hs; simpa using hs
  · cases h
theorem addr_plain {a : Addr} (h : a.spot = none) : a = ⟨a.block, a.off, none⟩ := by
  obtain ⟨b, o, s⟩ := a
  simp only at h
  subst h; rfl
theorem int_wf {n : Int} (h : (Lit.int .i64 n).wf = true) : I64 n := by
  have h2 : IntKind.min .i64 ≤ n ∧ n ≤ IntKind.max .i64 := by simpa [Lit.wf] using h
  have e1 : IntKind.min .i64 = -9223372036854775808 := by decide
  have e2 : IntKind.max .i64 = 9223372036854775807 := by decide
  rw [e1, e2] at h2
  exact h2

theorem strs_of {H : Type} {enc : TypeId × Value → H} {W : World} {fuel : Nat} {v : Value} {x : DataW H × List MemPlace} (h : DataW.trod enc Tryz.prog W 0 (fun _ => true) true fuel 22 [v] = some x) :
    ∃ ks, StrsAre W (fun _ => True) ks v := by
  rcases open_strings Tryz.underlying22 Tryz.underlying9 cellsString h with ⟨e, -⟩ | ⟨a, len, cap, ss, e, -, hl, hm, hss, -, hc, hz⟩
  · simp only [List.cons.injEq, and_true] at e
    exact ⟨[], by simp [maxLen], .inl ⟨rfl, none, e⟩⟩
  · simp only [List.cons.injEq, and_true] at e
    simp only [if_true] at hss
    refine ⟨(ss.take len).map fun s => s.data.toList, ?_, ?_⟩
    · simp only [List.length_map, List.length_take]; omega
    · have hlen : ((ss.take len).map fun s => s.data.toList).length = len := by simp only [List.length_map, List.length_take]; omega
      by_cases h0 : cap = 0
      · have : len = 0 := by omega
        subst this
        subst h0
        exact .inl ⟨by simp, some a, e⟩
      · have ha := addr_plain (spot_none (by have := hc 0 (by omega); simpa [Addr.add] using this))
        refine .inr ⟨a.block, a.off, cap, by rw [hlen, ← ha]; exact e, by omega, hm, fun i y hy => ?_⟩
        simp only [List.getElem?_map, Option.map_eq_some_iff] at hy
        obtain ⟨s, hs, rfl⟩ := hy
        have hs2 : ss[i]? = some s := by
          rw [List.getElem?_take] at hs
          split at hs
          · exact hs
          · cases hs
        have hi := (List.getElem?_eq_some_iff.1 hs2).1
        refine ⟨by rw [Array.length_toList]; exact hz s (List.mem_of_getElem? hs2), trivial, ?_⟩
        have := hc i hi
        rw [ha, addr_add] at this
        rw [this]
        unfold str
        simp [List.getD, hs2]

theorem vis_of {H : Type} {enc : TypeId × Value → H} {W : World} (fuel : Nat) : ∀ (cs : List Value) (x : DataW H × List MemPlace), DataW.trod enc Tryz.prog W 0 (fun _ => true) true fuel 25 cs = some x →
    ∃ t v0 v1 v2 v3 v4, cs = [v0, v1, v2, v3, v4] ∧ VIs W (fun _ => True) fuel t (.agg #[v0, v1, v2, v3, v4]) := by
  induction fuel with
  | zero => intro cs x h; simp [DataW.trod] at h
  | succ fuel ih =>
    intro cs x h
    obtain ⟨xs, n, e, hx, hl, hlen, hf⟩ := DataW.trod_struct Tryz.underlying25 h
    obtain rfl : n = fuel := by omega
    rw [cellsValue] at hl
    match cs, hl, xs, hlen with
    | [v0, v1, v2, v3, v4], _, [y0, y1, y2, y3, y4], _ =>
      have g0 : DataW.trod enc Tryz.prog W 0 (fun _ => true) true n 3 [v0] = some y0 := by simpa [cellsInt] using hf 0 _ rfl
      have g1 : DataW.trod enc Tryz.prog W 0 (fun _ => true) true n 3 [v1] = some y1 := by simpa [cellsInt] using hf 1 _ rfl
      have g2 : DataW.trod enc Tryz.prog W 0 (fun _ => true) true n 9 [v2] = some y2 := by simpa [cellsString] using hf 2 _ rfl
      have g3 : DataW.trod enc Tryz.prog W 0 (fun _ => true) true n 22 [v3] = some y3 := by simpa [cellsStrs] using hf 3 _ rfl
      have g4 : DataW.trod enc Tryz.prog W 0 (fun _ => true) true n 23 [v4] = some y4 := by simpa [cellsVals] using hf 4 _ rfl
      obtain ⟨z0, e0, -, w0⟩ := DataW.trod_int Tryz.underlying3 g0
      obtain ⟨z1, e1, -, w1⟩ := DataW.trod_int Tryz.underlying3 g1
      obtain ⟨s, e2, -, hs⟩ := DataW.trod_string Tryz.underlying9 g2
      simp only [List.cons.injEq, and_true] at e0 e1 e2
      subst e0
      subst e1
      subst e2
      obtain ⟨ks, hks⟩ := strs_of g3
      have hvals : ∃ l, ValsAre W (fun _ => True) (VIs W (fun _ => True) n) l v4 := by
        rcases DataW.trod_slice Tryz.underlying23 g4 with ⟨e, -⟩ | ⟨a, len, cap, elems, rest, k, ek, e, -, -, hl, hm, hlen, hel, hsp, -⟩
        · simp only [List.cons.injEq, and_true] at e
          exact ⟨[], by simp [maxLen], .inl ⟨rfl, none, e⟩⟩
        · simp only [List.cons.injEq, and_true] at e
          rw [cellsValue] at hel hsp
          obtain ⟨hrl, hrest⟩ := hsp rfl
          have all : ∀ i, i < cap → ∃ cs' y, W.cells? 0 (a.add (i * 5)) 5 = some cs' ∧ DataW.trod enc Tryz.prog W 0 (fun _ => true) true k 25 cs' = some y := by
            intro i hi
            by_cases hil : i < len
            · have := hel i hil
              rw [List.getElem?_eq_getElem (by omega)] at this
              obtain ⟨cs', h1, h2⟩ := Option.bind_eq_some_iff.1 this
              exact ⟨cs', _, h1, h2⟩
            · have := hrest (i - len) (by omega)
              rw [show len + (i - len) = i by omega, List.getElem?_eq_getElem (by omega)] at this
              obtain ⟨cs', h1, h2⟩ := Option.bind_eq_some_iff.1 this
              exact ⟨cs', _, h1, h2⟩
          by_cases h0 : cap = 0
          · have : len = 0 := by omega
            subst this
            subst h0
            exact ⟨[], by simp [maxLen], .inl ⟨rfl, some a, e⟩⟩
          · have ha : a = ⟨a.block, a.off, none⟩ := by
              obtain ⟨cs', y, h1, -⟩ := all 0 (by omega)
              obtain ⟨-, h2, h3⟩ := World.cells?_some h1
              have := h3 0 (by omega)
              rw [List.getElem?_eq_getElem (by omega)] at this
              exact addr_plain (spot_none (v := cs'[0]) (by simpa [Addr.add] using this))
            obtain ⟨T, hT⟩ := @Go.Deep.choose_lt V ⟨⟨0, 0, [], [], []⟩⟩ len (fun i t => ∃ v0 v1 v2 v3 v4, W.cells? 0 (a.add (i * 5)) 5 = some [v0, v1, v2, v3, v4] ∧ VIs W (fun _ => True) n t (.agg #[v0, v1, v2, v3, v4])) (fun i hi => by
              obtain ⟨cs', y, h1, h2⟩ := all i (by omega)
              obtain ⟨t, v0, v1, v2, v3, v4, rfl, hv⟩ := ih cs' y (DataW.trod_le (by omega) h2)
              exact ⟨t, v0, v1, v2, v3, v4, h1, hv⟩)
            refine ⟨(List.range len).map T, by simp only [List.length_map, List.length_range]; omega, .inr ⟨a.block, a.off, cap, by simp only [List.length_map, List.length_range]; rw [← ha]; exact e, by simp only [List.length_map, List.length_range]; omega, hm, fun i t ht => ?_⟩⟩
            simp only [List.getElem?_map, Option.map_eq_some_iff] at ht
            obtain ⟨j, hj, rfl⟩ := ht
            obtain ⟨hj1, hj2⟩ := List.getElem?_eq_some_iff.1 hj
            simp only [List.length_range] at hj1
            simp only [List.getElem_range] at hj2
            subst hj2
            obtain ⟨v0, v1, v2, v3, v4, h1, hv⟩ := hT i hj1
            obtain ⟨-, -, h3⟩ := World.cells?_some h1
            rw [ha] at h3
            have c : ∀ q, q < 5 → W.cell? ⟨a.block, a.off + i * 5 + q, none⟩ = [v0, v1, v2, v3, v4][q]? := by
              intro q hq
              have := h3 q hq
              rw [addr_add, addr_add] at this
              exact this
            exact ⟨v0, v1, v2, v3, v4, trivial, c 0 (by omega), c 1 (by omega), c 2 (by omega), c 3 (by omega), c 4 (by omega), hv⟩
      obtain ⟨l, hl⟩ := hvals
      refine ⟨⟨z0, z1, s.data.toList, ks, l⟩, _, _, _, _, _, rfl, v3, v4, by unfold str; simp, int_wf w0, int_wf w1, by rw [Array.length_toList]; exact hs, hks, hl⟩
theorem arg_value {H : Type} {enc : TypeId × Value → H} {W : World} {base : Nat} {v : Value} {d : DataW H} {p : List MemPlace} (hk : Value.okWide Tryz.prog W .any base 25 v) (h : DataW.Trod enc Tryz.prog W 0 (fun _ => true) true 25 v d p) :
    ∃ f t, VIs W (fun _ => True) f t v := by
  obtain ⟨cs, rfl, -⟩ := okWide_struct Tryz.underlying25 hk
  obtain ⟨f, hf⟩ := h
  obtain ⟨t, v0, v1, v2, v3, v4, e, hv⟩ := vis_of f _ _ hf
  have e2 : cs = #[v0, v1, v2, v3, v4] := by
    obtain ⟨l⟩ := cs
    exact congrArg Array.mk e
  subst e2
  exact ⟨f, t, hv⟩
theorem trod_old {H : Type} {enc : TypeId × Value → H} {W : World} {t : TypeId} {v : Value} {d : DataW H} {p : List MemPlace} (h : DataW.Trod enc Tryz.prog W 0 (fun _ => true) true t v d p) : ∀ x ∈ p, x.block < W.heap.size := by
  obtain ⟨f, hf⟩ := h
  exact DataW.trod_lt f t _ _ hf
theorem readableL : Tryz.prog.readableRec 22 = true := by kernel_rfl
theorem rowedL : 22 < Tryz.prog.types.size := of_decide_eq_true (by kernel_rfl)
end Go.Proofs.YtmdemcjmcnfjmaaGreatDoor
