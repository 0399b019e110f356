/- A spec as an argument, and how long its steps can be; steps that are copied onto nil. -/
import Derived.Test.YtaaaogiheplbmaaHr
import Derived.Maps.AppendAt
import Derived.Laws.AppendOwnNone
set_option linter.unusedSimpArgs false
set_option linter.unusedVariables false
namespace Go.Proofs.Ytaaaogiheplbmaa
open Go.ChangeShapes Go.WideShapes Go.ChangeAt Go.RowKit
set_option maxRecDepth 100000

theorem sbStep : Try.prog.bytesOf 32 = 16 := by kernel_rfl
theorem steps_sized {H : Type} {enc : TypeId × Value → H} {W : World} {fuel : Nat} {v : Value} {x : DataW H × List MemPlace} (h : DataW.trod enc Try.prog W 0 (fun _ => true) true fuel 26 [v] = some x) (hz : ∀ n ∈ x.1.weights Try.prog 26, n ≤ reachBytes) :
    ∃ l, StpsAre W l v ∧ l.length ≤ 8796093022208 := by
  obtain ⟨l, hl⟩ := steps_of h
  refine ⟨l, hl, ?_⟩
  obtain ⟨a', c', e9⟩ := hl.form
  rcases DataW.trod_slice Try.underlying26 h with ⟨e, -⟩ | ⟨a, len, cap, elems, rest, k, ek, e, hx, -, hl2, hm, hlen, hel, hsp, -⟩
  · simp only [List.cons.injEq, and_true] at e
    rw [e] at e9
    simp only [Value.slice.injEq] at e9
    omega
  · simp only [List.cons.injEq, and_true] at e
    rw [e] at e9
    simp only [Value.slice.injEq] at e9
    have := hz ((elems.length + rest.length) * 16) (by
      rw [hx]
      simp [DataW.weights, Try.underlying26, sbStep])
    unfold reachBytes at this
    omega
theorem arg_spec2 {H : Type} {enc : TypeId × Value → H} {W : World} {base : Nat} {v : Value} {d : DataW H} {p : List MemPlace} (hk : Value.okWide Try.prog W .any base 28 v) (h : DataW.Trod enc Try.prog W 0 (fun _ => true) true 28 v d p)
    (hz : ∀ n ∈ d.weights Try.prog 28, n ≤ reachBytes) : ∃ g l sl, v = .agg #[.string ⟨(g : List UInt8).toArray⟩, sl] ∧ StpsAre W l sl ∧ g.length ≤ 9223372036854775807 ∧ l.length ≤ 8796093022208 := by
  obtain ⟨cs, rfl, -⟩ := okWide_struct Try.underlying28 hk
  obtain ⟨f, hf⟩ := h
  have hf2 : DataW.trod enc Try.prog W 0 (fun _ => true) true f 28 cs.toList = some (d, p) := hf
  obtain ⟨cl⟩ := cs
  simp only at hf2
  obtain ⟨xs, n, e, hx, hl, hlen, hg⟩ := DataW.trod_struct Try.underlying28 hf2
  rw [scSpec] at hl
  match cl, hl, xs, hlen with
  | [v0, v1], _, [y0, y1], _ =>
    have g0 : DataW.trod enc Try.prog W 0 (fun _ => true) true n 9 [v0] = some y0 := by simpa [scString] using hg 0 _ rfl
    have g1 : DataW.trod enc Try.prog W 0 (fun _ => true) true n 26 [v1] = some y1 := by simpa [scString, scSteps] using hg 1 _ rfl
    obtain ⟨s, e0, -, hs⟩ := DataW.trod_string Try.underlying9 g0
    simp only [List.cons.injEq, and_true] at e0
    subst e0
    obtain ⟨l, hl2, hl3⟩ := steps_sized g1 (fun m hm => hz m (by
      simp only [Prod.mk.injEq] at hx
      rw [hx.1]
      simp [DataW.weights, DataW.weightsEach, Try.underlying28, hm]))
    exact ⟨s.data.toList, l, v1, by simp, hl2, by rw [Array.length_toList]; exact hs, hl3⟩

theorem infoStep : (Try.prog.info? 32).map (fun i => (i.zero, i.size, i.bytes)) = some (some (.agg #[.int .i64 0, .int .i64 0]), 2, 16) := by kernel_rfl
theorem sinfo_parts {i : Option TypeInfo} {z : Option Value} {n b : Nat} (h : i.map (fun i => (i.zero, i.size, i.bytes)) = some (z, n, b)) : ∃ j, i = some j ∧ j.zero = z ∧ j.size = n ∧ j.bytes = b := by
  cases i with
  | none => cases h
  | some j => simp at h; exact ⟨j, rfl, h.1, h.2.1, h.2.2⟩
def stpCells : List Stp → List Value
  | [] => []
  | x :: l => .int .i64 x.w :: .int .i64 x.p :: stpCells l
theorem stpCells_length : ∀ (l : List Stp), (stpCells l).length = l.length * 2
  | [] => rfl
  | x :: l => by simp [stpCells, stpCells_length l]; omega
theorem stpCells_at : ∀ (l : List Stp) (i : Nat) (x : Stp), l[i]? = some x → (stpCells l)[i * 2]? = some (.int .i64 x.w) ∧ (stpCells l)[i * 2 + 1]? = some (.int .i64 x.p)
  | [], i, x, h => by simp at h
  | y :: l, 0, x, h => by simp at h; subst h; exact ⟨rfl, rfl⟩
  | y :: l, i + 1, x, h => by
    have := stpCells_at l i x (by simpa using h)
    rw [show (i + 1) * 2 = i * 2 + 2 by omega]
    exact this
theorem stpCells_of {w : World} {b off : Nat} : ∀ (l : List Stp) (k : Nat), (∀ i x, l[i]? = some x → w.cell? ⟨b, off + (k + i) * 2, none⟩ = some (.int .i64 x.w) ∧ w.cell? ⟨b, off + (k + i) * 2 + 1, none⟩ = some (.int .i64 x.p)) →
    ∀ j u, (stpCells l)[j]? = some u → w.cell? ⟨b, off + k * 2 + j, none⟩ = some u
  | [], k, _, j, u, h => by simp [stpCells] at h
  | x :: l, k, hc, 0, u, h => by
    simp [stpCells] at h; subst h
    have := (hc 0 x rfl).1
    simpa using this
  | x :: l, k, hc, 1, u, h => by
    simp [stpCells] at h; subst h
    have := (hc 0 x rfl).2
    simpa using this
  | x :: l, k, hc, j + 2, u, h => by
    have := stpCells_of (w := w) (b := b) (off := off) l (k + 1) (fun i y hy => by
      have := hc (i + 1) y (by simpa using hy)
      rw [show k + 1 + i = k + (i + 1) by omega]; exact this) j u (by simpa [stpCells] using h)
    rw [show off + k * 2 + (j + 2) = off + (k + 1) * 2 + j by omega]
    exact this
theorem stpCells_one : ∀ (l : List Stp), ∀ u ∈ stpCells l, u.oneCell' = true
  | [], u, h => by cases h
  | x :: l, u, h => by
    simp only [stpCells, List.mem_cons] at h
    rcases h with rfl | rfl | h
    · rfl
    · rfl
    · exact stpCells_one l u h
theorem run_copyT (W : World) (l : List Stp) (v : Value) (h : StpsAre W l v) (hl : l.length ≤ 8796093022208) (ty : TypeId) :
    ∃ v' W', (Builtin.append_ #[26, 26] ty #[.slice none 0 0, v]).run Try.prog W = .ok v' W' ∧ StpsAre W' l v' ∧ Below W.heap.size W W' := by
  obtain ⟨i0, hi, hz0, hz1, hz2⟩ := sinfo_parts infoStep
  have hm := h.1
  have some_case : ∀ (ad : Addr) (c : Nat), (∀ j u, (stpCells l)[j]? = some u → W.cell? (ad.add j) = some u) →
      ∃ v' W', (Builtin.append_ #[26, 26] ty #[.slice none 0 0, .slice (some ad) l.length c]).run Try.prog W = .ok v' W' ∧ StpsAre W' l v' ∧ Below W.heap.size W W' := by
    intro ad c hc
    obtain ⟨v', W', hr, ho, hg, -, -⟩ := run_append_own_at (P := Try.prog) W W.heap.size 26 ty 32 i0 _ 2 16 Try.underlying26 hi hz0 hz1 hz2 rfl (by decide) (.slice none 0 0) 0 [] (World.ownsRow_nil _ _ _ _) ad l.length c (stpCells l) (stpCells_length l) hc (stpCells_one l) (by unfold maxLen; omega) (by omega) (Nat.le_refl _)
    refine ⟨v', W', hr, ⟨hm, ?_⟩, gb_none (by simpa [Value.ownBlock] using hg)⟩
    simp only [Nat.zero_add, List.nil_append] at ho
    rcases ho.2 with ⟨e, h0⟩ | ⟨g, cap, cur, e, h1, h2, h3, h4, h5, h6⟩
    · exact .inl ⟨List.eq_nil_of_length_eq_zero h0, none, e⟩
    · refine .inr ⟨g, 0, cap, e, h3, h4, fun i x hx => ?_⟩
      obtain ⟨q1, q2⟩ := stpCells_at l i x hx
      have r1 := ho.cells (g := g) (by rw [e]; rfl) (i * 2) _ q1
      have r2 := ho.cells (g := g) (by rw [e]; rfl) (i * 2 + 1) _ q2
      rw [saddr_add] at r1 r2
      exact ⟨r1, r2⟩
  rcases h.2 with ⟨rfl, a, rfl⟩ | ⟨b, off, c, rfl, h1, h2, h3⟩
  · cases a with
    | none =>
      refine ⟨.slice none 0 0, W, ?_, ⟨by simp, .inl ⟨rfl, none, rfl⟩⟩, Below.refl _ _⟩
      simp [Builtin.append_, run_underlying Try.underlying26, hi, go_sem]
    | some ad => exact some_case ad 0 (by simp [stpCells])
  · refine some_case ⟨b, off, none⟩ c ?_
    intro j u hj
    rw [saddr_add]
    have := stpCells_of (w := W) (b := b) (off := off) l 0 (fun i x hx => by simpa using h3 i x hx) j u hj
    simpa using this
end Go.Proofs.Ytaaaogiheplbmaa
