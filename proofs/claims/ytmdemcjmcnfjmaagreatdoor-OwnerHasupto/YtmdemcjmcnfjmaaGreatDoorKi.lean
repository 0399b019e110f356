/- What is read of an argument that is a value, and how much there is in it. -/
import Derived.Test.YtmdemcjmcnfjmaaGreatDoorKd
import Derived.Test.YtmdemcjmcnfjmaaGreatDoorFc
import Derived.Test.YtmdemcjmcnfjmaaGreatDoorRows
set_option linter.unusedSimpArgs false
set_option linter.unusedVariables false
namespace Go.Proofs.YtmdemcjmcnfjmaaGreatDoor
open Go.ChangeShapes Go.WideShapes Go.ChangeAt Go.RowKit
set_option maxRecDepth 100000

theorem bulk_one {H : Type} (d : DataW H) : 1 ≤ Rows.uptoBulk d := by
  cases d with
  | lit l => cases l <;> simp [Rows.uptoBulk]
  | nil => simp [Rows.uptoBulk]
  | ptr d => simp [Rows.uptoBulk]
  | slice elems spare => simp [Rows.uptoBulk]
  | agg parts => simp [Rows.uptoBulk]
  | iface t d => simp [Rows.uptoBulk]
  | map entries => simp [Rows.uptoBulk]
  | held h => simp [Rows.uptoBulk]
theorem bulk_len {H : Type} (l : List (DataW H)) : l.length ≤ Rows.uptoBulkAll l := by
  induction l with
  | nil => simp [Rows.uptoBulkAll]
  | cons x r ih => have := bulk_one x; simp only [Rows.uptoBulkAll, List.length_cons]; omega
theorem bulk_mem {H : Type} {d : DataW H} {l : List (DataW H)} (h : d ∈ l) : Rows.uptoBulk d ≤ Rows.uptoBulkAll l := by
  induction l with
  | nil => cases h
  | cons x r ih =>
    simp only [Rows.uptoBulkAll]
    rcases List.mem_cons.1 h with rfl | e
    · omega
    · have := ih e; omega
theorem bulk_sizs {H : Type} : ∀ (l : List V) (es : List (DataW H)), l.length = es.length → (∀ (i : Nat) (x : V) (e : DataW H), l[i]? = some x → es[i]? = some e → siz x ≤ Rows.uptoBulk e) → sizs l ≤ Rows.uptoBulkAll es
  | [], es, _, _ => by simp [sizs]
  | x :: l, [], h, _ => by simp at h
  | x :: l, e :: es, h, hh => by
    have h1 := hh 0 x e rfl rfl
    have h2 := bulk_sizs l es (by simpa using h) fun i y f hy hf => hh (i + 1) y f (by simpa using hy) (by simpa using hf)
    rw [sizs_cons]
    simp only [Rows.uptoBulkAll]
    omega
theorem strs_bulk {H : Type} {enc : TypeId × Value → H} {W : World} {fuel : Nat} {v : Value} {x : DataW H × List MemPlace} (h : DataW.trod enc Tryz.prog W 0 (fun _ => true) true fuel 22 [v] = some x) {ks : List (List UInt8)} (hk : StrsAre W (fun _ => True) ks v) : ks.length ≤ Rows.uptoBulk x.1 := by
  rcases open_strings Tryz.underlying22 Tryz.underlying9 cellsString h with ⟨e, -⟩ | ⟨a, len, cap, ss, e, -, hl, hm, hss, hx, hc, hz⟩
  · simp only [List.cons.injEq, and_true] at e
    subst e
    rcases hk.2 with ⟨h1, -⟩ | ⟨b, off, c, h1, -⟩
    · rw [h1]; simp
    · simp at h1
  · simp only [List.cons.injEq, and_true] at e
    subst e
    simp only [if_true] at hss
    have hlen : ks.length = len := by
      rcases hk.2 with ⟨h1, a0, h2⟩ | ⟨b, off, c, h1, -⟩
      · simp only [Value.slice.injEq] at h2; rw [h1, h2.2.1]; rfl
      · simp only [Value.slice.injEq] at h1; exact h1.2.1.symm
    subst hx
    have h1 := bulk_len (strs (H := H) (ss.take len))
    have h2 : (strs (H := H) (ss.take len)).length = len := by simp [strs]; omega
    simp only [Rows.uptoBulk]
    omega
theorem vis_bulk {H : Type} {enc : TypeId × Value → H} {W : World} (fuel : Nat) : ∀ (cs : List Value) (x : DataW H × List MemPlace), DataW.trod enc Tryz.prog W 0 (fun _ => true) true fuel 25 cs = some x →
    ∃ t v0 v1 v2 v3 v4, cs = [v0, v1, v2, v3, v4] ∧ VIs W (fun _ => True) fuel t (.agg #[v0, v1, v2, v3, v4]) ∧ siz t ≤ Rows.uptoBulk x.1 := by
  induction fuel with
  | zero => intro cs x h; simp [DataW.trod] at h
  | succ fuel ih =>
    intro cs x h
    obtain ⟨xs, n, e, hx, hl, hlen, hf⟩ := DataW.trod_struct Tryz.underlying25 h
    obtain rfl : n = fuel := by omega
    rw [cellsValue] at hl
    match cs, hl, xs, hlen with
    | [v0, v1, v2, v3, v4], _, [y0, y1, y2, y3, y4], _ =>
      have g0 : DataW.trod enc Tryz.prog W 0 (fun _ => true) true n 3 [v0] = some y0 := by simpa [cellsInt] using hf 0 _ rfl
      have g1 : DataW.trod enc Tryz.prog W 0 (fun _ => true) true n 3 [v1] = some y1 := by simpa [cellsInt] using hf 1 _ rfl
      have g2 : DataW.trod enc Tryz.prog W 0 (fun _ => true) true n 9 [v2] = some y2 := by simpa [cellsString] using hf 2 _ rfl
      have g3 : DataW.trod enc Tryz.prog W 0 (fun _ => true) true n 22 [v3] = some y3 := by simpa [cellsStrs] using hf 3 _ rfl
      have g4 : DataW.trod enc Tryz.prog W 0 (fun _ => true) true n 23 [v4] = some y4 := by simpa [cellsVals] using hf 4 _ rfl
      obtain ⟨z0, e0, -, w0⟩ := DataW.trod_int Tryz.underlying3 g0
      obtain ⟨z1, e1, -, w1⟩ := DataW.trod_int Tryz.underlying3 g1
      obtain ⟨s, e2, -, hs⟩ := DataW.trod_string Tryz.underlying9 g2
      simp only [List.cons.injEq, and_true] at e0 e1 e2
      subst e0
      subst e1
      subst e2
      obtain ⟨ks, hks⟩ := strs_of g3
      have hkb := strs_bulk g3 hks
      have hvals : ∃ l, ValsAre W (fun _ => True) (VIs W (fun _ => True) n) l v4 ∧ sizs l ≤ Rows.uptoBulk y4.1 := by
        rcases DataW.trod_slice Tryz.underlying23 g4 with ⟨e, -⟩ | ⟨a, len, cap, elems, rest, k, ek, e, hy4, -, hl, hm, hlen, hel, hsp, -⟩
        · simp only [List.cons.injEq, and_true] at e
          exact ⟨[], ⟨by simp [maxLen], .inl ⟨rfl, none, e⟩⟩, by simp [sizs]⟩
        · simp only [List.cons.injEq, and_true] at e
          rw [cellsValue] at hel hsp
          have all : ∀ i, i < len → ∃ cs' y, W.cells? 0 (a.add (i * 5)) 5 = some cs' ∧ DataW.trod enc Tryz.prog W 0 (fun _ => true) true k 25 cs' = some y ∧ elems[i]? = some y := by
            intro i hil
            have := hel i hil
            rw [List.getElem?_eq_getElem (by omega)] at this
            obtain ⟨cs', h1, h2⟩ := Option.bind_eq_some_iff.1 this
            exact ⟨cs', _, h1, h2, List.getElem?_eq_getElem (by omega)⟩
          by_cases h0 : len = 0
          · subst h0
            have he : elems = [] := List.eq_nil_of_length_eq_zero hlen
            by_cases hc : cap = 0
            · subst hc
              exact ⟨[], ⟨by simp [maxLen], .inl ⟨rfl, some a, e⟩⟩, by simp [sizs]⟩
            · have ha : a = ⟨a.block, a.off, none⟩ := by
                obtain ⟨hrl, hrest⟩ := hsp rfl
                have := hrest 0 (by omega)
                rw [List.getElem?_eq_getElem (by omega)] at this
                obtain ⟨cs', h1, h2⟩ := Option.bind_eq_some_iff.1 this
                obtain ⟨-, h2, h3⟩ := World.cells?_some h1
                have := h3 0 (by omega)
                rw [List.getElem?_eq_getElem (by omega)] at this
                exact addr_plain (spot_none (v := cs'[0]) (by simpa [Addr.add] using this))
              exact ⟨[], ⟨by simp [maxLen], .inr ⟨a.block, a.off, cap, by rw [← ha]; exact e, by simp, hm, fun i t ht => by simp at ht⟩⟩, by simp [sizs]⟩
          · have ha : a = ⟨a.block, a.off, none⟩ := by
              obtain ⟨cs', y, h1, -⟩ := all 0 (by omega)
              obtain ⟨-, h2, h3⟩ := World.cells?_some h1
              have := h3 0 (by omega)
              rw [List.getElem?_eq_getElem (by omega)] at this
              exact addr_plain (spot_none (v := cs'[0]) (by simpa [Addr.add] using this))
            obtain ⟨T, hT⟩ := @Go.Deep.choose_lt V ⟨⟨0, 0, [], [], []⟩⟩ len (fun i t => ∃ v0 v1 v2 v3 v4 y, W.cells? 0 (a.add (i * 5)) 5 = some [v0, v1, v2, v3, v4] ∧ VIs W (fun _ => True) n t (.agg #[v0, v1, v2, v3, v4]) ∧ elems[i]? = some y ∧ siz t ≤ Rows.uptoBulk y.1) (fun i hi => by
              obtain ⟨cs', y, h1, h2, h3⟩ := all i hi
              obtain ⟨t, v0, v1, v2, v3, v4, rfl, hv, hz⟩ := ih cs' y (DataW.trod_le (by omega) h2)
              exact ⟨t, v0, v1, v2, v3, v4, y, h1, hv, h3, hz⟩)
            refine ⟨(List.range len).map T, ⟨by simp only [List.length_map, List.length_range]; omega, .inr ⟨a.block, a.off, cap, by simp only [List.length_map, List.length_range]; rw [← ha]; exact e, by simp only [List.length_map, List.length_range]; omega, hm, fun i t ht => ?_⟩⟩, ?_⟩
            · simp only [List.getElem?_map, Option.map_eq_some_iff] at ht
              obtain ⟨j, hj, rfl⟩ := ht
              obtain ⟨hj1, hj2⟩ := List.getElem?_eq_some_iff.1 hj
              simp only [List.length_range] at hj1
              simp only [List.getElem_range] at hj2
              subst hj2
              obtain ⟨v0, v1, v2, v3, v4, y, h1, hv, -⟩ := hT i hj1
              obtain ⟨-, -, h3⟩ := World.cells?_some h1
              rw [ha] at h3
              have c : ∀ q, q < 5 → W.cell? ⟨a.block, a.off + i * 5 + q, none⟩ = [v0, v1, v2, v3, v4][q]? := by
                intro q hq
                have := h3 q hq
                rw [addr_add, addr_add] at this
                exact this
              exact ⟨v0, v1, v2, v3, v4, trivial, c 0 (by omega), c 1 (by omega), c 2 (by omega), c 3 (by omega), c 4 (by omega), hv⟩
            · have hb : sizs ((List.range len).map T) ≤ Rows.uptoBulkAll (elems.map (·.1)) := by
                refine bulk_sizs _ _ (by simp [hlen]) fun i x f hx hf => ?_
                simp only [List.getElem?_map, Option.map_eq_some_iff] at hx hf
                obtain ⟨j, hj, rfl⟩ := hx
                obtain ⟨hj1, hj2⟩ := List.getElem?_eq_some_iff.1 hj
                simp only [List.length_range] at hj1
                simp only [List.getElem_range] at hj2
                subst hj2
                obtain ⟨y', hy', rfl⟩ := hf
                obtain ⟨v0, v1, v2, v3, v4, y, -, -, h3, h4⟩ := hT i hj1
                rw [hy'] at h3
                cases h3
                exact h4
              rw [hy4]
              simp only [Rows.uptoBulk]
              omega
      obtain ⟨l, hl, hlb⟩ := hvals
      refine ⟨⟨z0, z1, s.data.toList, ks, l⟩, _, _, _, _, _, rfl, ⟨v3, v4, by unfold str; simp, int_wf w0, int_wf w1, by rw [Array.length_toList]; exact hs, hks, hl⟩, ?_⟩
      rw [siz_eq, hx]
      simp only [List.map_cons, List.map_nil, Rows.uptoBulk, Rows.uptoBulkAll]
      omega
theorem arg_bulk {H : Type} {enc : TypeId × Value → H} {W : World} {base : Nat} {v : Value} {d : DataW H} {p : List MemPlace} (hk : Value.okWide Tryz.prog W .any base 25 v) (h : DataW.Trod enc Tryz.prog W 0 (fun _ => true) true 25 v d p) :
    ∃ f t, VIs W (fun _ => True) f t v ∧ siz t ≤ Rows.uptoBulk d := by
  obtain ⟨cs, rfl, -⟩ := okWide_struct Tryz.underlying25 hk
  obtain ⟨f, hf⟩ := h
  obtain ⟨t, v0, v1, v2, v3, v4, e, hv, hz⟩ := vis_bulk f _ _ hf
  have e2 : cs = #[v0, v1, v2, v3, v4] := by
    obtain ⟨l⟩ := cs
    exact congrArg Array.mk e
  subst e2
  exact ⟨f, t, hv, hz⟩
/- The bound, as the row hands it over. -/
theorem bulk_bound {H : Type} {l : List (DataW H)} (hk : Rows.uptoSmall H l = true) : Rows.uptoBulkAll l ≤ 1048576 := of_decide_eq_true hk
end Go.Proofs.YtmdemcjmcnfjmaaGreatDoor
