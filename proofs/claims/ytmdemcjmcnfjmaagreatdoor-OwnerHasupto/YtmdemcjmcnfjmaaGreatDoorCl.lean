/- Lists of values, cell by cell. -/
import Derived.Test.YtmdemcjmcnfjmaaGreatDoorCc
set_option linter.unusedSimpArgs false
set_option linter.unusedVariables false
namespace Go.Proofs.YtmdemcjmcnfjmaaGreatDoor
open Go.RowKit

def RowV (R : V → Value → Prop) : List V → List Value → Prop
  | [], cs => cs = []
  | x :: xs, cs => ∃ v0 v1 v2 v3 v4 rest, cs = v0 :: v1 :: v2 :: v3 :: v4 :: rest ∧ R x (.agg #[v0, v1, v2, v3, v4]) ∧ RowV R xs rest

theorem RowV.length {R : V → Value → Prop} : ∀ {xs : List V} {cs : List Value}, RowV R xs cs → cs.length = xs.length * 5
  | [], cs, h => by simp [RowV] at h; simp [h]
  | x :: xs, cs, h => by
    obtain ⟨v0, v1, v2, v3, v4, rest, rfl, _, hr⟩ := h
    have := hr.length
    simp only [List.length_cons]; omega
theorem RowV.append {R : V → Value → Prop} {ys : List V} {ds : List Value} (hy : RowV R ys ds) : ∀ {xs : List V} {cs : List Value}, RowV R xs cs → RowV R (xs ++ ys) (cs ++ ds)
  | [], cs, h => by simp [RowV] at h; subst h; exact hy
  | x :: xs, cs, h => by
    obtain ⟨v0, v1, v2, v3, v4, rest, rfl, hR, hr⟩ := h
    exact ⟨v0, v1, v2, v3, v4, rest ++ ds, rfl, hR, hy.append hr⟩
theorem RowV.split {R : V → Value → Prop} {ys : List V} : ∀ {xs : List V} {cs : List Value}, RowV R (xs ++ ys) cs → ∃ c1 c2, cs = c1 ++ c2 ∧ RowV R xs c1 ∧ RowV R ys c2
  | [], cs, h => ⟨[], cs, rfl, rfl, h⟩
  | x :: xs, cs, h => by
    obtain ⟨v0, v1, v2, v3, v4, rest, rfl, hR, hr⟩ := h
    obtain ⟨c1, c2, rfl, h1, h2⟩ := RowV.split hr
    exact ⟨v0 :: v1 :: v2 :: v3 :: v4 :: c1, c2, rfl, ⟨v0, v1, v2, v3, v4, c1, rfl, hR, h1⟩, h2⟩
theorem RowV.imp {R R' : V → Value → Prop} (hR : ∀ x v, R x v → R' x v) : ∀ {xs : List V} {cs : List Value}, RowV R xs cs → RowV R' xs cs
  | [], cs, h => h
  | x :: xs, cs, h => by
    obtain ⟨v0, v1, v2, v3, v4, rest, rfl, h1, hr⟩ := h
    exact ⟨v0, v1, v2, v3, v4, rest, rfl, hR _ _ h1, hr.imp hR⟩
theorem RowV.one {w : World} {ok : Nat → Prop} {d : Nat} : ∀ {xs : List V} {cs : List Value}, RowV (VIs w ok d) xs cs → ∀ u ∈ cs, u.oneCell' = true
  | [], cs, h => by simp [RowV] at h; subst h; simp
  | x :: xs, cs, h => by
    obtain ⟨v0, v1, v2, v3, v4, rest, rfl, h1, hr⟩ := h
    obtain ⟨rfl, rfl, rfl, ⟨a5, c5, rfl⟩, ⟨a6, c6, rfl⟩⟩ := h1.agg
    intro u hu
    simp only [List.mem_cons] at hu
    rcases hu with rfl | rfl | rfl | rfl | rfl | hu
    · rfl
    · rfl
    · rfl
    · rfl
    · rfl
    · exact hr.one u hu
theorem RowV.get {R : V → Value → Prop} : ∀ {xs : List V} {cs : List Value}, RowV R xs cs → ∀ i x, xs[i]? = some x → ∃ v0 v1 v2 v3 v4, cs[i * 5]? = some v0 ∧ cs[i * 5 + 1]? = some v1 ∧ cs[i * 5 + 2]? = some v2 ∧ cs[i * 5 + 3]? = some v3 ∧ cs[i * 5 + 4]? = some v4 ∧ R x (.agg #[v0, v1, v2, v3, v4])
  | [], cs, h, i, x, hx => by simp at hx
  | y :: xs, cs, h, 0, x, hx => by
    obtain ⟨v0, v1, v2, v3, v4, rest, rfl, h1, hr⟩ := h
    simp at hx; subst hx
    exact ⟨v0, v1, v2, v3, v4, rfl, rfl, rfl, rfl, rfl, h1⟩
  | y :: xs, cs, h, i + 1, x, hx => by
    obtain ⟨v0, v1, v2, v3, v4, rest, rfl, h1, hr⟩ := h
    obtain ⟨u0, u1, u2, u3, u4, g0, g1, g2, g3, g4, g5⟩ := hr.get i x (by simpa using hx)
    have e : (i + 1) * 5 = i * 5 + 5 := by omega
    refine ⟨u0, u1, u2, u3, u4, ?_, ?_, ?_, ?_, ?_, g5⟩
    · rw [e]; exact g0
    · rw [e]; exact g1
    · rw [e]; exact g2
    · rw [e]; exact g3
    · rw [e]; exact g4
theorem rowV_of {w : World} {b : Nat} {R : V → Value → Prop} : ∀ (xs : List V) (off : Nat),
    (∀ i x, xs[i]? = some x → ∃ v0 v1 v2 v3 v4, w.cell? ⟨b, off + i * 5, none⟩ = some v0 ∧ w.cell? ⟨b, off + i * 5 + 1, none⟩ = some v1 ∧ w.cell? ⟨b, off + i * 5 + 2, none⟩ = some v2 ∧
      w.cell? ⟨b, off + i * 5 + 3, none⟩ = some v3 ∧ w.cell? ⟨b, off + i * 5 + 4, none⟩ = some v4 ∧ R x (.agg #[v0, v1, v2, v3, v4])) →
    ∃ cs, RowV R xs cs ∧ ∀ j u, cs[j]? = some u → w.cell? ⟨b, off + j, none⟩ = some u
  | [], off, _ => ⟨[], rfl, by simp⟩
  | x :: xs, off, h => by
    obtain ⟨v0, v1, v2, v3, v4, g0, g1, g2, g3, g4, g5⟩ := h 0 x rfl
    obtain ⟨cs, h1, h2⟩ := rowV_of (w := w) (b := b) (R := R) xs (off + 5) (fun i y hy => by
      have := h (i + 1) y (by simpa using hy)
      have e : off + (i + 1) * 5 = off + 5 + i * 5 := by omega
      rw [e] at this; exact this)
    simp only [Nat.zero_mul, Nat.add_zero] at g0 g1 g2 g3 g4
    refine ⟨v0 :: v1 :: v2 :: v3 :: v4 :: cs, ⟨v0, v1, v2, v3, v4, cs, rfl, g5, h1⟩, ?_⟩
    intro j u hj
    match j, hj with
    | 0, hj => simp at hj; subst hj; exact g0
    | 1, hj => simp at hj; subst hj; exact g1
    | 2, hj => simp at hj; subst hj; exact g2
    | 3, hj => simp at hj; subst hj; exact g3
    | 4, hj => simp at hj; subst hj; exact g4
    | j + 5, hj =>
      have := h2 j u (by simpa using hj)
      have e : off + (j + 5) = off + 5 + j := by omega
      rw [e]; exact this

/- A list at a plain address. -/
theorem ValsAre.plain {w : World} {ok : Nat → Prop} {R : V → Value → Prop} {xs : List V} {b off n c : Nat} (h : ValsAre w ok R xs (.slice (some ⟨b, off, none⟩) n c)) :
    ∃ b' off' c', Value.slice (some ⟨b, off, none⟩) n c = .slice (some ⟨b', off', none⟩) xs.length c' ∧ xs.length ≤ c' ∧ c' ≤ maxLen ∧
    ∀ i x, xs[i]? = some x → ∃ v0 v1 v2 v3 v4, ok b' ∧ w.cell? ⟨b', off' + i * 5, none⟩ = some v0 ∧ w.cell? ⟨b', off' + i * 5 + 1, none⟩ = some v1 ∧ w.cell? ⟨b', off' + i * 5 + 2, none⟩ = some v2 ∧
      w.cell? ⟨b', off' + i * 5 + 3, none⟩ = some v3 ∧ w.cell? ⟨b', off' + i * 5 + 4, none⟩ = some v4 ∧ R x (.agg #[v0, v1, v2, v3, v4]) := by
  rcases h.2 with ⟨e0, a, e⟩ | h
  · simp only [Value.slice.injEq] at e
    obtain ⟨-, e1, e2⟩ := e
    subst e1
    subst e2
    exact ⟨b, off, 0, by rw [e0]; rfl, by rw [e0]; simp, Nat.zero_le _, fun i x hx => by rw [e0] at hx; simp at hx⟩
  · exact h
theorem StrsAre.plain {w : World} {ok : Nat → Prop} {xs : List (List UInt8)} {b off n c : Nat} (h : StrsAre w ok xs (.slice (some ⟨b, off, none⟩) n c)) :
    ∃ b' off' c', Value.slice (some ⟨b, off, none⟩) n c = .slice (some ⟨b', off', none⟩) xs.length c' ∧ xs.length ≤ c' ∧ c' ≤ maxLen ∧
    ∀ i x, xs[i]? = some x → x.length ≤ maxLen ∧ ok b' ∧ w.cell? ⟨b', off' + i, none⟩ = some (str x) := by
  rcases h.2 with ⟨e0, a, e⟩ | h
  · simp only [Value.slice.injEq] at e
    obtain ⟨-, e1, e2⟩ := e
    subst e1
    subst e2
    exact ⟨b, off, 0, by rw [e0]; rfl, by rw [e0]; simp, Nat.zero_le _, fun i x hx => by rw [e0] at hx; simp at hx⟩
  · exact h
/- What a list of values holds, cell by cell. -/
theorem ValsAre.row {w : World} {ok : Nat → Prop} {d : Nat} {xs : List V} {b off n c : Nat} (h : ValsAre w ok (VIs w ok d) xs (.slice (some ⟨b, off, none⟩) n c)) :
    n = xs.length ∧ n ≤ c ∧ ∃ cs, RowV (VIs w ok d) xs cs ∧ ∀ j u, cs[j]? = some u → w.cell? ⟨b, off + j, none⟩ = some u := by
  obtain ⟨b', off', c', e, h1, h2, h3⟩ := h.plain
  · simp only [Value.slice.injEq, Option.some.injEq, Addr.mk.injEq, and_true] at e
    obtain ⟨⟨rfl, rfl⟩, rfl, rfl⟩ := e
    refine ⟨rfl, h1, rowV_of xs off (fun i x hx => ?_)⟩
    obtain ⟨v0, v1, v2, v3, v4, _, g⟩ := h3 i x hx
    exact ⟨v0, v1, v2, v3, v4, g⟩
theorem addr_add (b off j : Nat) : (⟨b, off, none⟩ : Addr).add j = ⟨b, off + j, none⟩ := by
  unfold Addr.add
  split
  · rename_i h; subst h; rfl
  · rfl
theorem own_vals {w : World} {ok : Nat → Prop} {d B : Nat} {xs : List V} {cs : List Value} {v : Value} {n : Nat} (hn : n = xs.length) (ho : w.ownsRow B 25 5 v n cs) (hr : RowV (VIs w ok d) xs cs) (hok : ∀ k, B ≤ k → ok k) (hm : xs.length ≤ maxLen) :
    ValsAre w ok (VIs w ok d) xs v := by
  subst hn
  refine ⟨hm, ?_⟩
  rcases ho.2 with ⟨e, h0⟩ | ⟨g, cap, cur, e, h1, h2, h3, h4, h5, h6⟩
  · exact .inl ⟨List.eq_nil_of_length_eq_zero h0, none, e⟩
  · refine .inr ⟨g, 0, cap, e, h3, h4, fun i x hx => ?_⟩
    obtain ⟨v0, v1, v2, v3, v4, g0, g1, g2, g3, g4, g5⟩ := hr.get i x hx
    have cell : ∀ j u, cs[j]? = some u → w.cell? ⟨g, 0 + j, none⟩ = some u := fun j u hj => by
      have := ho.cells (g := g) (by rw [e]; rfl) j u hj
      rw [addr_add] at this; exact this
    exact ⟨v0, v1, v2, v3, v4, hok g h1, cell _ _ g0, cell _ _ g1, cell _ _ g2, cell _ _ g3, cell _ _ g4, g5⟩
theorem own_strs {w : World} {ok : Nat → Prop} {B : Nat} {xs : List (List UInt8)} {v : Value} {n : Nat} (hn : n = xs.length) (ho : w.ownsRow B 9 1 v n (xs.map str)) (hl : ∀ x ∈ xs, x.length ≤ maxLen) (hok : ∀ k, B ≤ k → ok k) (hm : xs.length ≤ maxLen) : StrsAre w ok xs v := by
  subst hn
  refine ⟨hm, ?_⟩
  rcases ho.2 with ⟨e, h0⟩ | ⟨g, cap, cur, e, h1, h2, h3, h4, h5, h6⟩
  · exact .inl ⟨List.eq_nil_of_length_eq_zero h0, none, e⟩
  · refine .inr ⟨g, 0, cap, e, h3, h4, fun i x hx => ⟨hl x (List.mem_of_getElem? hx), hok g h1, ?_⟩⟩
    have := ho.cells (g := g) (by rw [e]; rfl) i (str x) (by simp [hx])
    rw [addr_add] at this; exact this

theorem sl_parts {w : World} {ok : Nat → Prop} {d : Nat} {xs : List V} {b off n c : Nat} (h : ValsAre w ok (VIs w ok d) xs (.slice (some ⟨b, off, none⟩) n c)) (i j : Nat) (hij : i ≤ j) (hi : j ≤ xs.length) (hs : xs.length ≤ 1000000) :
    ∃ c1 c2, RowV (VIs w ok d) (xs.take i) c1 ∧ SlIs w 5 (.slice (some ⟨b, off, none⟩) i c) i c1 ∧ RowV (VIs w ok d) (xs.drop j) c2 ∧ SlIs w 5 (.slice (if c = j then some ⟨b, off, none⟩ else some ⟨b, off + j * 5, none⟩) (n - j) (c - j)) (xs.length - j) c2 := by
  obtain ⟨hn, hc, cs, hr, hm⟩ := h.row
  have hr1 := hr
  rw [← List.take_append_drop i xs] at hr1
  obtain ⟨c1, c1', e1, h1, h1'⟩ := hr1.split
  have hr2 := hr
  rw [← List.take_append_drop j xs] at hr2
  obtain ⟨c2', c2, e2, h2', h2⟩ := hr2.split
  have l1 := h1.length
  have l2 := h2.length
  have l2' := h2'.length
  rw [List.length_take] at l1 l2'
  rw [List.length_drop] at l2
  refine ⟨c1, c2, h1, ⟨by rw [l1]; congr 1; omega, by omega, h1.one, .inr ⟨_, c, rfl, fun k u hk => ?_⟩⟩, h2, ⟨l2, by omega, h2.one, .inr ?_⟩⟩
  · rw [addr_add]
    refine hm k u ?_
    rw [e1, List.getElem?_append_left (List.getElem?_eq_some_iff.1 hk).1]; exact hk
  · by_cases hcj : c = j
    · refine ⟨⟨b, off, none⟩, c - j, by rw [if_pos hcj, hn], fun k u hk => ?_⟩
      have : c2.length = 0 := by rw [l2]; omega
      rw [List.eq_nil_of_length_eq_zero this] at hk; simp at hk
    · refine ⟨⟨b, off + j * 5, none⟩, c - j, by rw [if_neg hcj, hn], fun k u hk => ?_⟩
      rw [addr_add, Nat.add_assoc]
      refine hm (j * 5 + k) u ?_
      have e3 : c2'.length = j * 5 := by rw [l2']; congr 1; omega
      rw [e2, List.getElem?_append_right (by omega), e3, Nat.add_sub_cancel_left]; exact hk
theorem ss_parts {w : World} {ok : Nat → Prop} {xs : List (List UInt8)} {b off n c : Nat} (h : StrsAre w ok xs (.slice (some ⟨b, off, none⟩) n c)) (i j : Nat) (hij : i ≤ j) (hi : j ≤ xs.length) (hs : xs.length ≤ 1000000) :
    SlIs w 1 (.slice (some ⟨b, off, none⟩) i c) i ((xs.take i).map str) ∧ SlIs w 1 (.slice (if c = j then some ⟨b, off, none⟩ else some ⟨b, off + j * 1, none⟩) (n - j) (c - j)) (xs.length - j) ((xs.drop j).map str) := by
  obtain ⟨b', off', c', e, h1, h2, h3⟩ := h.plain
  · simp only [Value.slice.injEq, Option.some.injEq, Addr.mk.injEq, and_true] at e
    obtain ⟨⟨rfl, rfl⟩, rfl, rfl⟩ := e
    have one : ∀ l : List (List UInt8), ∀ u ∈ l.map str, u.oneCell' = true := by
      intro l u hu
      simp only [List.mem_map] at hu
      obtain ⟨a, _, rfl⟩ := hu; rfl
    refine ⟨⟨by simp; omega, by omega, one _, .inr ⟨_, c, rfl, fun k u hk => ?_⟩⟩, ⟨by simp, by omega, one _, .inr ?_⟩⟩
    · rw [addr_add]
      simp only [List.getElem?_map, Option.map_eq_some_iff] at hk
      obtain ⟨x, hx, rfl⟩ := hk
      exact (h3 k x (by rw [List.getElem?_take] at hx; split at hx; exact hx; cases hx)).2.2
    · by_cases hcj : c = j
      · refine ⟨⟨b, off, none⟩, c - j, by rw [if_pos hcj], fun k u hk => ?_⟩
        have : xs.drop j = [] := List.drop_eq_nil_of_le (by omega)
        rw [this] at hk; simp at hk
      · refine ⟨⟨b, off + j * 1, none⟩, c - j, by rw [if_neg hcj], fun k u hk => ?_⟩
        rw [addr_add, Nat.mul_one, Nat.add_assoc]
        simp only [List.getElem?_map, Option.map_eq_some_iff, List.getElem?_drop] at hk
        obtain ⟨x, hx, rfl⟩ := hk
        exact (h3 (j + k) x hx).2.2
theorem SlIs.bel {w w' : World} {size : Nat} {v : Value} {n : Nat} {cells : List Value} (h : SlIs w size v n cells) (hb : Below w.heap.size w w') : SlIs w' size v n cells := h.below hb
theorem slnil (w : World) (size : Nat) (a : Option Addr) : SlIs w size (.slice a 0 0) 0 [] := by
  refine ⟨by simp, by simp, by simp, ?_⟩
  cases a with
  | none => exact .inl ⟨rfl, rfl⟩
  | some ad => exact .inr ⟨ad, 0, rfl, fun j u hj => by simp at hj⟩
theorem slbox {w : World} {g : Nat} {v0 v1 v2 v3 v4 : Value} (h : BoxIs w g v0 v1 v2 v3 v4) (h0 : ∀ u ∈ [v0, v1, v2, v3, v4], u.oneCell' = true) : SlIs w 5 (.slice (some ⟨g, 0, none⟩) 1 1) 1 [v0, v1, v2, v3, v4] := by
  refine ⟨rfl, by omega, h0, .inr ⟨_, _, rfl, fun j u hj => ?_⟩⟩
  rw [addr_add, Nat.zero_add]
  obtain ⟨x0, x1, x2, x3, x4, -⟩ := h.c
  match j, hj with
  | 0, hj => simp at hj; subst hj; exact x0
  | 1, hj => simp at hj; subst hj; exact x1
  | 2, hj => simp at hj; subst hj; exact x2
  | 3, hj => simp at hj; subst hj; exact x3
  | 4, hj => simp at hj; subst hj; exact x4
theorem slone {w : World} {g : Nat} {t : TypeId} {v : Value} (h : w.heap[g]? = some (.cells #[v] t)) (h0 : v.oneCell' = true) : SlIs w 1 (.slice (some ⟨g, 0, none⟩) 1 1) 1 [v] := by
  refine ⟨rfl, by omega, by simpa using h0, .inr ⟨_, _, rfl, fun j u hj => ?_⟩⟩
  rw [addr_add, Nat.zero_add]
  match j, hj with
  | 0, hj => simp at hj; subst hj; simp [World.cell?, h]
end Go.Proofs.YtmdemcjmcnfjmaaGreatDoor
