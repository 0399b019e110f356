/- What is read of an argument that is a list of owners, and how much there is in it. -/
import Derived.Test.YtmdemcjmcnfjmaaGreatDoorKj
import Derived.Test.YtmdemcjmcnfjmaaGreatDoorKi
import Derived.Test.YtmdemcjmcnfjmaaGreatDoorOs
import Derived.Test.YtmdemcjmcnfjmaaGreatDoorOw
set_option linter.unusedSimpArgs false
set_option linter.unusedVariables false
namespace Go.Proofs.YtmdemcjmcnfjmaaGreatDoor
open Go.ChangeShapes Go.WideShapes Go.ChangeAt Go.RowKit
set_option maxRecDepth 100000

theorem cellsOwner : Tryz.prog.cellsOf 41 = 2 := by kernel_rfl
theorem readableW : Tryz.prog.readableRec 26 = true := by kernel_rfl
theorem rowedW : 26 < Tryz.prog.types.size := of_decide_eq_true (by kernel_rfl)
def ownSum (o : Own) : Nat := (o.paths.map fun x => x.length + 1).sum
theorem sum_memN {l : List Nat} {n : Nat} (h : n ∈ l) : n ≤ l.sum := by
  induction l with
  | nil => cases h
  | cons x r ih =>
    rw [List.sum_cons]
    rcases List.mem_cons.1 h with rfl | e
    · omega
    · have := ih e; omega
theorem sum_len (l : List (List UInt8)) : l.length ≤ (l.map fun x => x.length + 1).sum := by
  induction l with
  | nil => simp
  | cons x r ih => simp only [List.map_cons, List.sum_cons, List.length_cons]; omega
theorem allOf_sum (l : List Own) : (allOf l).length ≤ (l.map ownSum).sum := by
  induction l with
  | nil => simp [allOf]
  | cons o r ih =>
    have h := sum_len o.paths
    unfold allOf at ih ⊢
    simp only [List.flatMap_cons, List.length_append, List.length_map, List.map_cons, List.sum_cons]
    unfold ownSum
    unfold ownSum at ih
    omega
theorem path_sum {l : List Own} {o : Own} {x : List UInt8} (ho : o ∈ l) (hx : x ∈ o.paths) : x.length ≤ (l.map ownSum).sum := by
  have h1 : ownSum o ≤ (l.map ownSum).sum := sum_memN (List.mem_map.2 ⟨o, ho, rfl⟩)
  have h2 : x.length + 1 ≤ ownSum o := sum_memN (List.mem_map.2 ⟨x, hx, rfl⟩)
  omega
theorem own_of {H : Type} {enc : TypeId × Value → H} {W : World} (fuel : Nat) (cs : List Value) (x : DataW H × List MemPlace) (h : DataW.trod enc Tryz.prog W 0 (fun _ => true) true fuel 41 cs = some x) :
    ∃ o a n c, cs = [str o.name, .slice a n c] ∧ o.name.length ≤ maxLen ∧ StrsAre W (fun _ => True) o.paths (.slice a n c) ∧ ownSum o ≤ Rows.uptoBulk x.1 := by
  obtain ⟨xs, n, e, hx, hl, hlen, hf⟩ := DataW.trod_struct Tryz.underlying41 h
  rw [cellsOwner] at hl
  match cs, hl, xs, hlen with
  | [v0, v1], _, [y0, y1], _ =>
    have g0 : DataW.trod enc Tryz.prog W 0 (fun _ => true) true n 9 [v0] = some y0 := by simpa [cellsString] using hf 0 _ rfl
    have g1 : DataW.trod enc Tryz.prog W 0 (fun _ => true) true n 22 [v1] = some y1 := by simpa [cellsString, cellsStrs] using hf 1 _ rfl
    obtain ⟨s1, e1, f1, hs1⟩ := DataW.trod_string Tryz.underlying9 g0
    obtain ⟨ks, hks, hb⟩ := strs_full g1
    obtain ⟨a, c, rfl⟩ := hks.form
    simp only [List.cons.injEq, and_true] at e1
    subst e1
    refine ⟨⟨s1.data.toList, ks⟩, a, _, c, by unfold str; simp, by rw [Array.length_toList]; exact hs1, hks, ?_⟩
    rw [hx]
    simp only [List.map_cons, List.map_nil, Rows.uptoBulk, Rows.uptoBulkAll]
    have hs : ownSum ⟨s1.data.toList, ks⟩ = (ks.map fun x => x.length + 1).sum := rfl
    omega
theorem bulk_owns {H : Type} : ∀ (l : List Own) (es : List (DataW H)), l.length = es.length → (∀ (i : Nat) (x : Own) (e : DataW H), l[i]? = some x → es[i]? = some e → ownSum x ≤ Rows.uptoBulk e) → (l.map ownSum).sum ≤ Rows.uptoBulkAll es
  | [], es, _, _ => by simp
  | x :: l, [], h, _ => by simp at h
  | x :: l, e :: es, h, hh => by
    have h1 := hh 0 x e rfl rfl
    have h2 := bulk_owns l es (by simpa using h) fun i y f hy hf => hh (i + 1) y f (by simpa using hy) (by simpa using hf)
    simp only [List.map_cons, List.sum_cons, Rows.uptoBulkAll]
    omega
theorem arg_owns {H : Type} {enc : TypeId × Value → H} {W : World} {base : Nat} {v : Value} {d : DataW H} {p : List MemPlace} (hk : Value.okWide Tryz.prog W .any base 26 v) (h : DataW.Trod enc Tryz.prog W 0 (fun _ => true) true 26 v d p) :
    ∃ os, OwnsAre W (fun _ => True) os v ∧ (os.map ownSum).sum ≤ Rows.uptoBulk d := by
  obtain ⟨a0, len0, cap0, rfl⟩ := okWide_slice Tryz.underlying26 hk
  obtain ⟨f, hf⟩ := h
  have hf' : DataW.trod enc Tryz.prog W 0 (fun _ => true) true f 26 [.slice a0 len0 cap0] = some (d, p) := hf
  rcases DataW.trod_slice Tryz.underlying26 hf' with ⟨e, -⟩ | ⟨a, len, cap, elems, rest, k, ek, e, hx, -, hl, hm, hlen, hel, hsp, -⟩
  · simp only [List.cons.injEq, and_true] at e
    exact ⟨[], ⟨by simp, .inl ⟨rfl, none, e⟩⟩, by simp⟩
  · simp only [List.cons.injEq, and_true] at e
    simp only [Prod.mk.injEq] at hx
    rw [cellsOwner] at hel hsp
    obtain ⟨hrl, hrest⟩ := hsp rfl
    have all : ∀ i, i < len → ∃ cs' y, W.cells? 0 (a.add (i * 2)) 2 = some cs' ∧ DataW.trod enc Tryz.prog W 0 (fun _ => true) true k 41 cs' = some y ∧ elems[i]? = some y := by
      intro i hi
      have := hel i hi
      rw [List.getElem?_eq_getElem (by omega)] at this
      obtain ⟨cs', h1, h2⟩ := Option.bind_eq_some_iff.1 this
      exact ⟨cs', _, h1, h2, List.getElem?_eq_getElem (by omega)⟩
    by_cases h0 : len = 0
    · subst h0
      by_cases hc0 : cap = 0
      · subst hc0
        exact ⟨[], ⟨by simp, .inl ⟨rfl, some a, e⟩⟩, by simp⟩
      · have ha : a = ⟨a.block, a.off, none⟩ := by
          have := hrest 0 (by omega)
          rw [List.getElem?_eq_getElem (by omega)] at this
          obtain ⟨cs', h1, -⟩ := Option.bind_eq_some_iff.1 this
          obtain ⟨-, h2, h3⟩ := World.cells?_some h1
          have := h3 0 (by omega)
          rw [List.getElem?_eq_getElem (by omega)] at this
          exact addr_plain (spot_none (v := cs'[0]) (by simpa [Addr.add] using this))
        exact ⟨[], ⟨by simp, .inr ⟨a.block, a.off, cap, by rw [← ha]; exact e, by simp, hm, fun i o ho => by simp at ho⟩⟩, by simp⟩
    · have ha : a = ⟨a.block, a.off, none⟩ := by
        obtain ⟨cs', y, h1, -⟩ := all 0 (by omega)
        obtain ⟨-, h2, h3⟩ := World.cells?_some h1
        have := h3 0 (by omega)
        rw [List.getElem?_eq_getElem (by omega)] at this
        exact addr_plain (spot_none (v := cs'[0]) (by simpa [Addr.add] using this))
      obtain ⟨T, hT⟩ := @Go.Deep.choose_lt Own ⟨⟨[], []⟩⟩ len (fun i o => ∃ a1 n1 c1 y, W.cells? 0 (a.add (i * 2)) 2 = some [str o.name, .slice a1 n1 c1] ∧ o.name.length ≤ maxLen ∧ StrsAre W (fun _ => True) o.paths (.slice a1 n1 c1) ∧ elems[i]? = some y ∧ ownSum o ≤ Rows.uptoBulk y.1) (fun i hi => by
        obtain ⟨cs', y, h1, h2, h3⟩ := all i hi
        obtain ⟨o, a1, n1, c1, rfl, hn, hs, hb⟩ := own_of k cs' y h2
        exact ⟨o, a1, n1, c1, y, h1, hn, hs, h3, hb⟩)
      refine ⟨(List.range len).map T, ⟨by simp only [List.length_map, List.length_range]; omega, .inr ⟨a.block, a.off, cap, by simp only [List.length_map, List.length_range]; rw [← ha]; exact e, by simp only [List.length_map, List.length_range]; omega, hm, fun i o ho => ?_⟩⟩, ?_⟩
      · simp only [List.getElem?_map, Option.map_eq_some_iff] at ho
        obtain ⟨j, hj, rfl⟩ := ho
        obtain ⟨hj1, hj2⟩ := List.getElem?_eq_some_iff.1 hj
        simp only [List.length_range] at hj1
        simp only [List.getElem_range] at hj2
        subst hj2
        obtain ⟨a1, n1, c1, y, h1, hn, hs, -, -⟩ := hT i hj1
        obtain ⟨-, -, h3⟩ := World.cells?_some h1
        rw [ha] at h3
        have c : ∀ q, q < 2 → W.cell? ⟨a.block, a.off + i * 2 + q, none⟩ = [str (T i).name, .slice a1 n1 c1][q]? := by
          intro q hq
          have := h3 q hq
          rw [addr_add, addr_add] at this
          exact this
        exact ⟨a1, n1, c1, hn, trivial, c 0 (by omega), c 1 (by omega), hs⟩
      · have hb : (((List.range len).map T).map ownSum).sum ≤ Rows.uptoBulkAll (elems.map (·.1)) := by
          refine bulk_owns _ _ (by simp [hlen]) fun i x f hx hf => ?_
          simp only [List.getElem?_map, Option.map_eq_some_iff] at hx hf
          obtain ⟨j, hj, rfl⟩ := hx
          obtain ⟨hj1, hj2⟩ := List.getElem?_eq_some_iff.1 hj
          simp only [List.length_range] at hj1
          simp only [List.getElem_range] at hj2
          subst hj2
          obtain ⟨y', hy', rfl⟩ := hf
          obtain ⟨a1, n1, c1, y, -, -, -, h3, h4⟩ := hT i hj1
          rw [hy'] at h3
          cases h3
          exact h4
        rw [hx.1]
        simp only [Rows.uptoBulk]
        omega
end Go.Proofs.YtmdemcjmcnfjmaaGreatDoor
