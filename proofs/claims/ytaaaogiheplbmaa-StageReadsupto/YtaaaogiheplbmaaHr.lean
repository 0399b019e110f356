/- What is read of arguments that are a spec or a status. -/
import Derived.Test.YtaaaogiheplbmaaRows
import Derived.Test.YtaaaogiheplbmaaHd
import Derived.WalkKit
import Derived.ProofKit
import Derived.OpenShut
import Derived.ShutString
import Derived.Deep.DeepHandedRow
import Derived.Deep.DeepWitnessRowRef
import Derived.SizedLaws
import Derived.Carry
import Derived.Deep.Slices
import Derived.SliceStrings
import Derived.ChangeOld
set_option linter.unusedSimpArgs false
set_option linter.unusedVariables false
namespace Go.Proofs.Ytaaaogiheplbmaa
open Go.ChangeShapes Go.WideShapes Go.ChangeAt Go.RowKit
set_option maxRecDepth 100000

theorem sown : ownKnob Try.prog.godebug = none := by kernel_rfl
theorem scString : Try.prog.cellsOf 9 = 1 := by kernel_rfl
theorem scInt : Try.prog.cellsOf 3 = 1 := by kernel_rfl
theorem scSteps : Try.prog.cellsOf 26 = 1 := by kernel_rfl
theorem scStep : Try.prog.cellsOf 32 = 2 := by kernel_rfl
theorem scSpec : Try.prog.cellsOf 28 = 2 := by kernel_rfl
theorem scStatus : Try.prog.cellsOf 30 = 6 := by kernel_rfl
theorem slaidOut : laidOutB Try.prog = true := by kernel_rfl
theorem readableP : Try.prog.readableRec 28 = true := by kernel_rfl
theorem rowedP : 28 < Try.prog.types.size := of_decide_eq_true (by kernel_rfl)
theorem readableS : Try.prog.readableRec 30 = true := by kernel_rfl
theorem rowedS : 30 < Try.prog.types.size := of_decide_eq_true (by kernel_rfl)
theorem readableT : Try.prog.readableRec 32 = true := by kernel_rfl
theorem rowedT : 32 < Try.prog.types.size := of_decide_eq_true (by kernel_rfl)

theorem sspot_none {w : World} {a : Addr} {v : Value} (h : w.cell? a = some v) : a.spot = none := by
  unfold World.cell? at h
  split at h
  · split at h
    · cases h
    · rename_i hs; simpa using hs
  · cases h
theorem saddr_plain {a : Addr} (h : a.spot = none) : a = ⟨a.block, a.off, none⟩ := by
  obtain ⟨b, o, s⟩ := a
  simp only at h
  subst h; rfl
theorem saddr_add (b o k : Nat) : (⟨b, o, none⟩ : Addr).add k = ⟨b, o + k, none⟩ := by
  simp [Addr.add]
theorem strod_old {H : Type} {enc : TypeId × Value → H} {W : World} {t : TypeId} {v : Value} {d : DataW H} {p : List MemPlace} (h : DataW.Trod enc Try.prog W 0 (fun _ => true) true t v d p) : ∀ x ∈ p, x.block < W.heap.size := by
  obtain ⟨f, hf⟩ := h
  exact DataW.trod_lt f t _ _ hf

theorem step_of {H : Type} {enc : TypeId × Value → H} {W : World} (fuel : Nat) (cs : List Value) (x : DataW H × List MemPlace) (h : DataW.trod enc Try.prog W 0 (fun _ => true) true fuel 32 cs = some x) :
    ∃ o : Stp, cs = [.int .i64 o.w, .int .i64 o.p] := by
  obtain ⟨xs, n, e, hx, hl, hlen, hf⟩ := DataW.trod_struct Try.underlying32 h
  rw [scStep] at hl
  match cs, hl, xs, hlen with
  | [v0, v1], _, [y0, y1], _ =>
    have g0 : DataW.trod enc Try.prog W 0 (fun _ => true) true n 3 [v0] = some y0 := by simpa [scInt] using hf 0 _ rfl
    have g1 : DataW.trod enc Try.prog W 0 (fun _ => true) true n 3 [v1] = some y1 := by simpa [scInt] using hf 1 _ rfl
    obtain ⟨z0, e0, -, w0⟩ := DataW.trod_int Try.underlying3 g0
    obtain ⟨z1, e1, -, w1⟩ := DataW.trod_int Try.underlying3 g1
    simp only [List.cons.injEq, and_true] at e0 e1
    subst e0
    subst e1
    exact ⟨⟨z0, z1⟩, rfl⟩
theorem steps_of {H : Type} {enc : TypeId × Value → H} {W : World} {fuel : Nat} {v : Value} {x : DataW H × List MemPlace} (h : DataW.trod enc Try.prog W 0 (fun _ => true) true fuel 26 [v] = some x) : ∃ l, StpsAre W l v := by
  rcases DataW.trod_slice Try.underlying26 h with ⟨e, -⟩ | ⟨a, len, cap, elems, rest, k, ek, e, hx, -, hl, hm, hlen, hel, hsp, -⟩
  · simp only [List.cons.injEq, and_true] at e
    exact ⟨[], by simp, .inl ⟨rfl, none, e⟩⟩
  · simp only [List.cons.injEq, and_true] at e
    rw [scStep] at hel hsp
    obtain ⟨hrl, hrest⟩ := hsp rfl
    have all : ∀ i, i < len → ∃ cs' y, W.cells? 0 (a.add (i * 2)) 2 = some cs' ∧ DataW.trod enc Try.prog W 0 (fun _ => true) true k 32 cs' = some y := by
      intro i hi
      have := hel i hi
      rw [List.getElem?_eq_getElem (by omega)] at this
      obtain ⟨cs', h1, h2⟩ := Option.bind_eq_some_iff.1 this
      exact ⟨cs', _, h1, h2⟩
    by_cases h0 : len = 0
    · subst h0
      by_cases hc0 : cap = 0
      · subst hc0
        exact ⟨[], by simp, .inl ⟨rfl, some a, e⟩⟩
      · have ha : a = ⟨a.block, a.off, none⟩ := by
          have := hrest 0 (by omega)
          rw [List.getElem?_eq_getElem (by omega)] at this
          obtain ⟨cs', h1, -⟩ := Option.bind_eq_some_iff.1 this
          obtain ⟨-, h2, h3⟩ := World.cells?_some h1
          have := h3 0 (by omega)
          rw [List.getElem?_eq_getElem (by omega)] at this
          exact saddr_plain (sspot_none (v := cs'[0]) (by simpa [Addr.add] using this))
        exact ⟨[], by simp, .inr ⟨a.block, a.off, cap, by rw [← ha]; exact e, by simp, hm, fun i o ho => by simp at ho⟩⟩
    · have ha : a = ⟨a.block, a.off, none⟩ := by
        obtain ⟨cs', y, h1, -⟩ := all 0 (by omega)
        obtain ⟨-, h2, h3⟩ := World.cells?_some h1
        have := h3 0 (by omega)
        rw [List.getElem?_eq_getElem (by omega)] at this
        exact saddr_plain (sspot_none (v := cs'[0]) (by simpa [Addr.add] using this))
      obtain ⟨T, hT⟩ := @Go.Deep.choose_lt Stp ⟨⟨0, 0⟩⟩ len (fun i o => W.cells? 0 (a.add (i * 2)) 2 = some [.int .i64 o.w, .int .i64 o.p]) (fun i hi => by
        obtain ⟨cs', y, h1, h2⟩ := all i hi
        obtain ⟨o, rfl⟩ := step_of k cs' y h2
        exact ⟨o, h1⟩)
      refine ⟨(List.range len).map T, by simp only [List.length_map, List.length_range]; unfold maxLen at hm; omega, .inr ⟨a.block, a.off, cap, by simp only [List.length_map, List.length_range]; rw [← ha]; exact e, by simp only [List.length_map, List.length_range]; omega, hm, fun i o ho => ?_⟩⟩
      simp only [List.getElem?_map, Option.map_eq_some_iff] at ho
      obtain ⟨j, hj, rfl⟩ := ho
      obtain ⟨hj1, hj2⟩ := List.getElem?_eq_some_iff.1 hj
      simp only [List.length_range] at hj1
      simp only [List.getElem_range] at hj2
      subst hj2
      have h1 := hT i hj1
      obtain ⟨-, -, h3⟩ := World.cells?_some h1
      rw [ha] at h3
      have c : ∀ q, q < 2 → W.cell? ⟨a.block, a.off + i * 2 + q, none⟩ = [.int .i64 (T i).w, .int .i64 (T i).p][q]? := by
        intro q hq
        have := h3 q hq
        rw [saddr_add, saddr_add] at this
        exact this
      exact ⟨c 0 (by omega), c 1 (by omega)⟩
theorem arg_spec {H : Type} {enc : TypeId × Value → H} {W : World} {base : Nat} {v : Value} {d : DataW H} {p : List MemPlace} (hk : Value.okWide Try.prog W .any base 28 v) (h : DataW.Trod enc Try.prog W 0 (fun _ => true) true 28 v d p) :
    ∃ g l sl, v = .agg #[.string ⟨(g : List UInt8).toArray⟩, sl] ∧ StpsAre W l sl ∧ g.length ≤ 9223372036854775807 := by
  obtain ⟨cs, rfl, -⟩ := okWide_struct Try.underlying28 hk
  obtain ⟨f, hf⟩ := h
  have hf2 : DataW.trod enc Try.prog W 0 (fun _ => true) true f 28 cs.toList = some (d, p) := hf
  obtain ⟨cl⟩ := cs
  simp only at hf2
  obtain ⟨xs, n, e, hx, hl, hlen, hg⟩ := DataW.trod_struct Try.underlying28 hf2
  rw [scSpec] at hl
  match cl, hl, xs, hlen with
  | [v0, v1], _, [y0, y1], _ =>
    have g0 : DataW.trod enc Try.prog W 0 (fun _ => true) true n 9 [v0] = some y0 := by simpa [scString] using hg 0 _ rfl
    have g1 : DataW.trod enc Try.prog W 0 (fun _ => true) true n 26 [v1] = some y1 := by simpa [scString, scSteps] using hg 1 _ rfl
    obtain ⟨s, e0, -, hs⟩ := DataW.trod_string Try.underlying9 g0
    simp only [List.cons.injEq, and_true] at e0
    subst e0
    obtain ⟨l, hl2⟩ := steps_of g1
    exact ⟨s.data.toList, l, v1, by simp, hl2, by rw [Array.length_toList]; exact hs⟩
theorem arg_status {H : Type} {enc : TypeId × Value → H} {W : World} {base : Nat} {v : Value} {d : DataW H} {p : List MemPlace} (hk : Value.okWide Try.prog W .any base 30 v) (h : DataW.Trod enc Try.prog W 0 (fun _ => true) true 30 v d p) :
    ∃ s, v = staV s := by
  obtain ⟨cs, rfl, -⟩ := okWide_struct Try.underlying30 hk
  obtain ⟨f, hf⟩ := h
  have hf2 : DataW.trod enc Try.prog W 0 (fun _ => true) true f 30 cs.toList = some (d, p) := hf
  obtain ⟨cl⟩ := cs
  simp only at hf2
  obtain ⟨xs, n, e, hx, hl, hlen, hg⟩ := DataW.trod_struct Try.underlying30 hf2
  rw [scStatus] at hl
  match cl, hl, xs, hlen with
  | [v0, v1, v2, v3, v4, v5], _, [y0, y1, y2, y3, y4, y5], _ =>
    have g0 : DataW.trod enc Try.prog W 0 (fun _ => true) true n 9 [v0] = some y0 := by simpa [scString, scInt] using hg 0 _ rfl
    have g1 : DataW.trod enc Try.prog W 0 (fun _ => true) true n 9 [v1] = some y1 := by simpa [scString, scInt] using hg 1 _ rfl
    have g2 : DataW.trod enc Try.prog W 0 (fun _ => true) true n 3 [v2] = some y2 := by simpa [scString, scInt] using hg 2 _ rfl
    have g3 : DataW.trod enc Try.prog W 0 (fun _ => true) true n 3 [v3] = some y3 := by simpa [scString, scInt] using hg 3 _ rfl
    have g4 : DataW.trod enc Try.prog W 0 (fun _ => true) true n 3 [v4] = some y4 := by simpa [scString, scInt] using hg 4 _ rfl
    have g5 : DataW.trod enc Try.prog W 0 (fun _ => true) true n 3 [v5] = some y5 := by simpa [scString, scInt] using hg 5 _ rfl
    obtain ⟨s0, e0, -, -⟩ := DataW.trod_string Try.underlying9 g0
    obtain ⟨s1, e1, -, -⟩ := DataW.trod_string Try.underlying9 g1
    obtain ⟨z2, e2, -, -⟩ := DataW.trod_int Try.underlying3 g2
    obtain ⟨z3, e3, -, -⟩ := DataW.trod_int Try.underlying3 g3
    obtain ⟨z4, e4, -, -⟩ := DataW.trod_int Try.underlying3 g4
    obtain ⟨z5, e5, -, -⟩ := DataW.trod_int Try.underlying3 g5
    simp only [List.cons.injEq, and_true] at e0 e1 e2 e3 e4 e5
    subst e0 e1 e2 e3 e4 e5
    exact ⟨⟨s0.data.toList, s1.data.toList, z2, z3, z4, z5⟩, by simp [staV]⟩
theorem arg_step {H : Type} {enc : TypeId × Value → H} {W : World} {base : Nat} {v : Value} {d : DataW H} {p : List MemPlace} (hk : Value.okWide Try.prog W .any base 32 v) (h : DataW.Trod enc Try.prog W 0 (fun _ => true) true 32 v d p) :
    ∃ s, v = stpV s := by
  obtain ⟨cs, rfl, -⟩ := okWide_struct Try.underlying32 hk
  obtain ⟨f, hf⟩ := h
  have hf2 : DataW.trod enc Try.prog W 0 (fun _ => true) true f 32 cs.toList = some (d, p) := hf
  obtain ⟨cl⟩ := cs
  simp only at hf2
  obtain ⟨o, rfl⟩ := step_of f cl _ hf2
  exact ⟨o, rfl⟩
end Go.Proofs.Ytaaaogiheplbmaa
