/- What Clean of package merge does. -/
import Derived.Test.YtfbddgpekbhpfacGreatDoorXa
import Derived.Deep.AppendLies
import Derived.Shelf.Small.Strs
import Derived.Shelf.Strconv.Atoi
import Derived.Shelf.Strconv.Itoa0
import Derived.Shelf.Strconv.Itoa1
import Derived.Shelf.LaysM
import Derived.Shelf.Strconv.Itoa2
import Derived.Shelf.Strconv.Itoa3
import Derived.Shelf.Strconv.AtoiErrFast
import Derived.Shelf.Strconv.ParseIntEmpty
import Derived.Shelf.Strconv.AtoiFail
import Derived.Shelf.Strconv.Clone
import Derived.Shelf.Strconv.SyntaxError
import Derived.Shelf.LaysC
import Derived.Shelf.Strconv.ToError
import Derived.Shelf.Strconv.Lower
import Derived.Shelf.Strconv.ParseUint10
import Derived.Shelf.Strconv.ParseUint10Empty
import Derived.Shelf.Strconv.ParseUint10Any
import Derived.Shelf.Strconv.ParseInt10
import Derived.Shelf.Strconv.AtoiLong
import Derived.Shelf.Strconv.AtoiInnerAll
import Derived.Shelf.Strconv.RangeError
import Derived.Shelf.Strconv.ToErrorRange
import Derived.Shelf.Strconv.AtoiAll
import Derived.Shelf.Strconv.ErrVarAll
import Derived.Shelf.Strings.Search1
import Derived.Shelf.Strconv.AppendUint10
import Derived.Shelf.Strconv.AppendInt10
import Derived.Shelf.Strconv.AppendIntPublic10
import Derived.Shelf.Strings.Prefix
import Derived.Shelf.Slices.Turned
import Derived.Shelf.Slices.Equal
import Derived.Shelf.Slices.Empties2
import Derived.Test.YtfbddgpekbhpfacGreatDoorProg
import Derived.Test.YtfbddgpekbhpfacGreatDoorGMc
/- Lists of values that wait, in a row of the call's own. -/
set_option linter.unusedSimpArgs false
set_option linter.unusedVariables false
namespace Go.Proofs.YtfbddgpekbhpfacGreatDoor
open Go.RowKit

/- How many values there are in one. -/
def cnt : V → Nat
  | ⟨_, _, _, _, l⟩ => 1 + (l.map cnt).sum
def cnts (xs : List V) : Nat := (xs.map cnt).sum
theorem cnts_nil : cnts [] = 0 := rfl
theorem cnts_cons (x : V) (xs : List V) : cnts (x :: xs) = cnt x + cnts xs := by simp [cnts]
theorem cnt_eq (t : V) : cnt t = 1 + cnts t.l := by cases t; rw [cnt]; rfl
theorem cnts_drop {xs : List V} {k : Nat} (h : k < xs.length) : cnts (xs.drop k) = cnt xs[k] + cnts (xs.drop (k + 1)) := by
  rw [List.drop_eq_getElem_cons h, cnts_cons]
theorem cnts_len : ∀ (xs : List V), xs.length ≤ cnts xs
  | [] => Nat.le_refl _
  | x :: xs => by
    have := cnts_len xs
    have := cnt_eq x
    rw [cnts_cons, List.length_cons]; omega
theorem cnts_mem {xs : List V} {x : V} (h : x ∈ xs) : cnt x ≤ cnts xs := by
  induction xs with
  | nil => cases h
  | cons y xs ih =>
    rw [cnts_cons]
    rcases List.mem_cons.1 h with rfl | h
    · omega
    · have := ih h; omega
theorem cnt_sz (D : Nat) : ∀ (t : V), GoodT D t → cnt t = szD D t := by
  induction D with
  | zero => intro t h; exact h.elim
  | succ D ih =>
    intro t h
    rw [cnt_eq, szD]
    congr 1
    obtain ⟨-, h⟩ := h
    generalize t.l = l at h
    induction l with
    | nil => rfl
    | cons y l ihl =>
      rw [cnts_cons, ih y (h y (by simp)), ihl fun x hx => h x (by simp [hx])]; simp
theorem nice_cnt {t : V} (h : Nice t) : cnt t ≤ 120 := by
  obtain ⟨D, h1, h2⟩ := h
  rw [cnt_sz D t h1]; exact h2
/- How much waits. -/
def mu (ls : List (List V)) : Nat := (ls.map fun l => 1 + cnts l).sum
theorem mu_push (ls : List (List V)) (l : List V) : mu (ls ++ [l]) = mu ls + (1 + cnts l) := by simp [mu]
theorem mu_len (ls : List (List V)) : ls.length ≤ mu ls := by
  unfold mu
  induction ls with
  | nil => simp
  | cons l ls ih => simp only [List.map_cons, List.sum_cons, List.length_cons]; omega

/- A list of values in memory, whatever their depth. -/
def ValsIn (w : World) (ok : Nat → Prop) (xs : List V) (v : Value) : Prop := In w ok ⟨0, 0, [], [], xs⟩ (.agg #[.int .i64 0, .int .i64 0, .string ⟨#[]⟩, .slice none 0 0, v])
theorem ValsIn.bel {w w' : World} {ok : Nat → Prop} {xs : List V} {v : Value} (h : ValsIn w ok xs v) (hb : Below w.heap.size w w') : ValsIn w' ok xs v := In.bel h hb
theorem ValsIn.weak {w : World} {ok ok' : Nat → Prop} {xs : List V} {v : Value} (h : ValsIn w ok xs v) (hk : ∀ k, ok k → ok' k) : ValsIn w ok' xs v := In.weak h hk
theorem ValsIn.grown {w w' : World} {ok : Nat → Prop} {g : Nat} {xs : List V} {v : Value} (h : ValsIn w ok xs v) (hg : w.grownBy w' (some g)) (hr : ∀ k, ok k → k ≠ g) : ValsIn w' ok xs v := In.grown h hg hr
theorem ValsIn.form {w : World} {ok : Nat → Prop} {xs : List V} {v : Value} (h : ValsIn w ok xs v) : ∃ a c, v = .slice a xs.length c := by
  obtain ⟨a7, a8, c7, c8, e⟩ := In.form h
  simp only [Value.agg.injEq, Array.mk.injEq, List.cons.injEq, and_true] at e
  exact ⟨a8, c8, e.2.2.2.2⟩
theorem ValsIn.len {w : World} {ok : Nat → Prop} {xs : List V} {v : Value} (h : ValsIn w ok xs v) : xs.length ≤ 9223372036854775807 := (In.lens h).2.1
theorem In.vals {w : World} {ok : Nat → Prop} {t : V} {k n s ks ls : Value} (h : In w ok t (.agg #[k, n, s, ks, ls])) : ValsIn w ok t.l ls := by
  obtain ⟨d, h⟩ := h.at
  obtain ⟨ks', ls', e, -, -, -, -, h5⟩ := h
  simp only [Value.agg.injEq, Array.mk.injEq, List.cons.injEq, and_true] at e
  obtain ⟨-, -, -, -, rfl⟩ := e
  exact ⟨d + 1, _, _, rfl, by unfold I64; simp, by unfold I64; simp, by simp [maxLen], ⟨by simp [maxLen], .inl ⟨rfl, none, rfl⟩⟩, h5⟩
theorem ValsIn.item {w : World} {ok : Nat → Prop} {xs : List V} {a : Option Addr} {m c i : Nat} (h : ValsIn w ok xs (.slice a m c)) (hi : i < xs.length) :
    ∃ b off a5 c5 a6 c6, a = some ⟨b, off, none⟩ ∧ xs.length ≤ c ∧ c ≤ 9223372036854775807 ∧ w.cell? ⟨b, off + i * 5, none⟩ = some (.int .i64 xs[i].kind) ∧ w.cell? ⟨b, off + i * 5 + 1, none⟩ = some (.int .i64 xs[i].n) ∧ w.cell? ⟨b, off + i * 5 + 2, none⟩ = some (.string ⟨xs[i].s.toArray⟩) ∧
      w.cell? ⟨b, off + i * 5 + 3, none⟩ = some (.slice a5 xs[i].keys.length c5) ∧ w.cell? ⟨b, off + i * 5 + 4, none⟩ = some (.slice a6 xs[i].l.length c6) ∧ In w ok xs[i] (.agg #[.int .i64 xs[i].kind, .int .i64 xs[i].n, .string ⟨xs[i].s.toArray⟩, .slice a5 xs[i].keys.length c5, .slice a6 xs[i].l.length c6]) :=
  In.item h hi
theorem ValsIn.blk {w : World} {ok : Nat → Prop} {xs : List V} {b off m c i : Nat} (h : ValsIn w ok xs (.slice (some ⟨b, off, none⟩) m c)) (hi : i < xs.length) : ok b := by
  obtain ⟨d, h⟩ := In.at h
  obtain ⟨ks', ls, e, -, -, -, -, h5⟩ := h
  simp only [Value.agg.injEq, Array.mk.injEq, List.cons.injEq, and_true] at e
  obtain ⟨-, -, -, -, rfl⟩ := e
  obtain ⟨-, h5⟩ := h5
  rcases h5 with ⟨e, _⟩ | ⟨b', off', c', e, h1, h2, hcs⟩
  · simp only at e; rw [e] at hi; simp at hi
  · simp only [Value.slice.injEq, Option.some.injEq, Addr.mk.injEq] at e
    obtain ⟨⟨rfl, -, -⟩, -, -⟩ := e
    obtain ⟨_, _, _, _, _, g, _⟩ := hcs i xs[i] (List.getElem?_eq_getElem hi)
    exact g
/- A list of one, in a block of its own. -/
theorem vals_one {w : World} {ok : Nat → Prop} {t : V} {g : Nat} {c0 c1 c2 c3 c4 : Value} (h : In w ok t (.agg #[c0, c1, c2, c3, c4])) (hb : BoxIs w g c0 c1 c2 c3 c4) (hok : ok g) : ValsIn w ok [t] (.slice (some ⟨g, 0, none⟩) 1 1) := by
  obtain ⟨d, h⟩ := h
  obtain ⟨b0, b1, b2, b3, b4, -⟩ := hb.c
  refine ⟨d + 1, _, _, rfl, by unfold I64; simp, by unfold I64; simp, by simp [maxLen], ⟨by simp [maxLen], .inl ⟨rfl, none, rfl⟩⟩, by simp [maxLen], .inr ⟨g, 0, 1, rfl, by simp, by simp [maxLen], ?_⟩⟩
  intro i x hx
  cases i with
  | zero =>
    simp only [List.getElem?_cons_zero, Option.some.injEq] at hx
    subst hx
    exact ⟨c0, c1, c2, c3, c4, hok, by simpa using b0, by simpa using b1, by simpa using b2, by simpa using b3, by simpa using b4, h⟩
  | succ i => simp at hx
/- What waits: a list for each cell. -/
def StackIn (w : World) (ok : Nat → Prop) (ls : List (List V)) (cs : List Value) : Prop := cs.length = ls.length ∧ ∀ (j : Nat) (l : List V) (c : Value), ls[j]? = some l → cs[j]? = some c → ValsIn w ok l c
theorem StackIn.imp {w w' : World} {ok : Nat → Prop} {ls : List (List V)} {cs : List Value} (h : StackIn w ok ls cs) (hi : ∀ l c, ValsIn w ok l c → ValsIn w' ok l c) : StackIn w' ok ls cs :=
  ⟨h.1, fun j l c h1 h2 => hi l c (h.2 j l c h1 h2)⟩
theorem StackIn.push {w : World} {ok : Nat → Prop} {ls : List (List V)} {cs : List Value} (h : StackIn w ok ls cs) {l : List V} {c : Value} (hl : ValsIn w ok l c) : StackIn w ok (ls ++ [l]) (cs ++ [c]) := by
  refine ⟨by simp [h.1], fun j l' c' h1 h2 => ?_⟩
  by_cases hj : j < ls.length
  · rw [List.getElem?_append_left hj] at h1
    rw [List.getElem?_append_left (by rw [h.1]; exact hj)] at h2
    exact h.2 j l' c' h1 h2
  · have : j < (ls ++ [l]).length := (List.getElem?_eq_some_iff.1 h1).1
    simp only [List.length_append, List.length_cons, List.length_nil] at this
    have e : j = ls.length := by omega
    subst e
    rw [List.getElem?_append_right (by omega)] at h1
    rw [List.getElem?_append_right (by rw [h.1]; omega)] at h2
    simp only [Nat.sub_self, List.getElem?_cons_zero, Option.some.injEq] at h1
    rw [h.1] at h2
    simp only [Nat.sub_self, List.getElem?_cons_zero, Option.some.injEq] at h2
    rw [← h1, ← h2]; exact hl
theorem StackIn.pop {w : World} {ok : Nat → Prop} {ls : List (List V)} {l : List V} {cs : List Value} (h : StackIn w ok (ls ++ [l]) cs) : ∃ ds c, cs = ds ++ [c] ∧ StackIn w ok ls ds ∧ ValsIn w ok l c := by
  have hl : cs.length = ls.length + 1 := by simpa using h.1
  obtain ⟨ds, c, rfl⟩ : ∃ ds c, cs = ds ++ [c] := ⟨cs.dropLast, cs.getLast (by intro e; rw [e] at hl; simp at hl), (List.dropLast_concat_getLast _).symm⟩
  have hd : ds.length = ls.length := by simpa using hl
  refine ⟨ds, c, rfl, ⟨hd, fun j l' c' h1 h2 => ?_⟩, ?_⟩
  · have h3 := (List.getElem?_eq_some_iff.1 h1).1
    exact h.2 j l' c' (by rw [List.getElem?_append_left h3]; exact h1) (by rw [List.getElem?_append_left (by omega)]; exact h2)
  · exact h.2 ls.length l c (by simp) (by rw [← hd]; simp)
def Wait (w : World) (B : Nat) (ok : Nat → Prop) (ls : List (List V)) (g cap : Nat) : Prop :=
  ∃ cs, w.ownsRow B 23 1 (.slice (some ⟨g, 0, none⟩) ls.length cap) ls.length cs ∧ StackIn w ok ls cs ∧ ∀ k, ok k → k ≠ g
theorem Wait.lt {w : World} {B : Nat} {ok : Nat → Prop} {ls : List (List V)} {g cap : Nat} (h : Wait w B ok ls g cap) : B ≤ g ∧ g < w.heap.size := by
  obtain ⟨cs, h, -, -⟩ := h
  rcases h.2 with ⟨e, _⟩ | ⟨g', cap', cur, e, h1, h2, _⟩
  · cases e
  · cases e
    exact ⟨h1, (Array.getElem?_eq_some_iff.1 h2).1⟩
theorem Wait.cap {w : World} {B : Nat} {ok : Nat → Prop} {ls : List (List V)} {g cap : Nat} (h : Wait w B ok ls g cap) : ls.length ≤ cap ∧ cap ≤ 9223372036854775807 := by
  obtain ⟨cs, h, -, -⟩ := h
  rcases h.2 with ⟨e, _⟩ | ⟨g', cap', cur, e, h1, h2, h3, h4, _⟩
  · cases e
  · cases e
    exact ⟨h3, h4⟩
theorem Wait.bel {w w' : World} {B : Nat} {ok : Nat → Prop} {ls : List (List V)} {g cap : Nat} (h : Wait w B ok ls g cap) (hb : Below w.heap.size w w') : Wait w' B ok ls g cap := by
  obtain ⟨cs, h1, h2, h3⟩ := h
  exact ⟨cs, own_bel h1 hb, h2.imp fun _ _ h => h.bel hb, h3⟩
theorem Wait.far {w w' : World} {B : Nat} {ok : Nat → Prop} {ls : List (List V)} {g cap g' : Nat} (h : Wait w B ok ls g cap) (hg : w.grownBy w' (some g')) (hne : g ≠ g') (hok : ∀ k, ok k → k ≠ g') : Wait w' B ok ls g cap := by
  obtain ⟨cs, h1, h2, h3⟩ := h
  exact ⟨cs, h1.kept hg (by simp [Value.ownBlock, hne]), h2.imp fun _ _ h => h.grown hg hok, h3⟩
/- The last one, and the others. -/
theorem Wait.pop {w : World} {B : Nat} {ok : Nat → Prop} {ls : List (List V)} {l : List V} {g cap : Nat} (h : Wait w B ok (ls ++ [l]) g cap) : ∃ c, w.cell? ⟨g, ls.length, none⟩ = some c ∧ ValsIn w ok l c ∧ Wait w B ok ls g cap := by
  obtain ⟨cs, h1, h2, h3⟩ := h
  obtain ⟨ds, c, rfl, h4, h5⟩ := h2.pop
  rcases h1.2 with ⟨e, _⟩ | ⟨g', cap', cur, e, q1, q2, q3, q4, q5, q6⟩
  · cases e
  · cases e
    have hl : ds.length = ls.length := h4.1
    simp only [List.length_append, List.length_cons, List.length_nil, Nat.mul_one] at q3 q6
    refine ⟨c, ?_, h5, ds, ⟨by simp [hl], .inr ⟨g, cap, cur, rfl, q1, q2, by omega, q4, q5, ?_⟩⟩, h4, h3⟩
    · have : cur.toList[ls.length]? = some c := by
        have e9 : (cur.toList.take (ls.length + (0 + 1)))[ls.length]? = (ds ++ [c])[ls.length]? := by rw [q6]
        rw [List.getElem?_take_of_lt (by omega)] at e9
        rw [e9, ← hl]; simp
      simp only [World.cell?, q2]
      simpa using this
    · have := congrArg (List.take ls.length) q6
      rw [List.take_take, Nat.min_eq_left (by omega), List.take_append_of_le_length (by omega), List.take_of_length_le (show ds.length ≤ ls.length by omega)] at this
      simpa using this
theorem info23 : (Tryz.prog.info? 23).map (fun i => (i.zero, i.size, i.bytes)) = some (some (.slice none 0 0), 1, 24) := by kernel_rfl
/- One more waits. -/
theorem run_push {w : World} {B : Nat} {ok : Nat → Prop} {ls : List (List V)} {g cap nb : Nat} {l : List V} {c : Value} (hW : Wait w B ok ls g cap) (hnb : w.heap[nb]? = some (.cells #[c] 23)) (hv : ValsIn w ok l c) (hn : ls.length ≤ 5000000000000) (hlow : ∀ k, ok k → k < w.heap.size) (ty : TypeId) :
    ∃ g' cap' w', (Builtin.append_ #[34, 34] ty #[.slice (some ⟨g, 0, none⟩) ls.length cap, .slice (some ⟨nb, 0, none⟩) 1 1]).run Tryz.prog w = .ok (.slice (some ⟨g', 0, none⟩) (ls.length + 1) cap') w' ∧ Wait w' B ok (ls ++ [l]) g' cap' ∧ w.grownBy w' (some g) ∧ (g' = g ∨ w.heap.size = g') := by
  obtain ⟨i0, hi, hz0, hz1, hz2⟩ := info_parts info23
  have hgl := hW.lt
  obtain ⟨cs, h1, h2, h3⟩ := hW
  obtain ⟨a9, c9, rfl⟩ := hv.form
  obtain ⟨g', cap', w', hr, ho, hg, hat, hlt⟩ := run_append_lies (P := Tryz.prog) w 34 ty B 23 i0 _ 1 24 Tryz.underlying34 hi hz0 hz1 hz2 rfl (by decide) _ ls.length cs h1 ⟨nb, 0, none⟩ 1 1 [.slice a9 l.length c9] rfl
    (World.news_of_block (cs := #[.slice a9 l.length c9]) hnb) (by intro u hu; simp only [List.mem_cons, List.not_mem_nil, or_false] at hu; subst hu; rfl) (by decide) (by unfold maxLen; omega) (by omega) (by omega) w.heap.size rfl
  have hgb : w.grownBy w' (some g) := by simpa [Value.ownBlock] using hg
  refine ⟨g', cap', w', hr, ⟨cs ++ [.slice a9 l.length c9], by simpa using ho, (h2.imp fun _ _ h => h.grown hgb h3).push (hv.grown hgb h3), ?_⟩, hgb, ?_⟩
  · intro k hk
    rcases hat with hat | hat
    · simp only [Value.ownBlock, Option.some.injEq] at hat
      rw [← hat]; exact h3 k hk
    · have := hlow k hk; omega
  · rcases hat with hat | hat
    · simp only [Value.ownBlock, Option.some.injEq] at hat
      exact .inl hat.symm
    · exact .inr hat.symm
theorem wp_push {w : World} {o : Oper} {a : Act} {K : Act → World → Prop} {Q : Exit → Act → World → Prop} (s x : Operand) (ho : o.op = .call { callee := .builtin .append, args := #[s, x], argTypes := #[34, 34] })
    {B : Nat} {ok : Nat → Prop} {ls : List (List V)} {g cap nb : Nat} {l : List V} {c : Value} (hs : a.eval s = .slice (some ⟨g, 0, none⟩) ls.length cap) (hx : a.eval x = .slice (some ⟨nb, 0, none⟩) 1 1)
    (hW : Wait w B ok ls g cap) (hnb : w.heap[nb]? = some (.cells #[c] 23)) (hv : ValsIn w ok l c) (hn : ls.length ≤ 5000000000000) (hlow : ∀ k, ok k → k < w.heap.size)
    (hK : ∀ g' cap' w', Wait w' B ok (ls ++ [l]) g' cap' → w.grownBy w' (some g) → (g' = g ∨ w.heap.size = g') → K (a.put o.dst (.slice (some ⟨g', 0, none⟩) (ls.length + 1) cap')) w') : o.wp Tryz.prog a w K Q := by
  obtain ⟨g', cap', w', hr, h2, h3, h4⟩ := run_push hW hnb hv hn hlow o.type
  unfold Oper.wp execOp
  simp only [ho, resolve, invoke, builtin, Sem.run_bind, Sem.run_pure, Result.andThen_ok, List.map_toArray, List.map_cons, List.map_nil, hs, hx, hr]
  exact hK g' cap' w' h2 h3 h4
theorem wpList_push {w : World} {ops : Array Oper} {rest : List Oper} {o : Oper} {a : Act} {Q : Exit → Act → World → Prop} (hgd : o.guard = none) (s x : Operand) (ho : o.op = .call { callee := .builtin .append, args := #[s, x], argTypes := #[34, 34] })
    {B : Nat} {ok : Nat → Prop} {ls : List (List V)} {g cap nb : Nat} {l : List V} {c : Value} (hs : a.eval s = .slice (some ⟨g, 0, none⟩) ls.length cap) (hx : a.eval x = .slice (some ⟨nb, 0, none⟩) 1 1)
    (hW : Wait w B ok ls g cap) (hnb : w.heap[nb]? = some (.cells #[c] 23)) (hv : ValsIn w ok l c) (hn : ls.length ≤ 5000000000000) (hlow : ∀ k, ok k → k < w.heap.size)
    (hK : ∀ g' cap' w', Wait w' B ok (ls ++ [l]) g' cap' → w.grownBy w' (some g) → (g' = g ∨ w.heap.size = g') → wpList Tryz.prog ops Q rest (a.put o.dst (.slice (some ⟨g', 0, none⟩) (ls.length + 1) cap')) w') : wpList Tryz.prog ops Q (o :: rest) a w :=
  wpList_plain hgd fun _ hK' => wp_push s x ho hs hx hW hnb hv hn hlow fun g' cap' w' h2 h3 h4 => hK' _ _ (hK g' cap' w' h2 h3 h4)
theorem step_push {w : World} {ops : Array Oper} {o : Oper} {a : Act} {K : Act → World → Prop} {Q : Exit → Act → World → Prop} {E : Prop} (hgd : o.guard = none) (s x : Operand) (ho : o.op = .call { callee := .builtin .append, args := #[s, x], argTypes := #[34, 34] })
    {B : Nat} {ok : Nat → Prop} {ls : List (List V)} {g cap nb : Nat} {l : List V} {c : Value} (hs : a.eval s = .slice (some ⟨g, 0, none⟩) ls.length cap) (hx : a.eval x = .slice (some ⟨nb, 0, none⟩) 1 1)
    (hW : Wait w B ok ls g cap) (hnb : w.heap[nb]? = some (.cells #[c] 23)) (hv : ValsIn w ok l c) (hn : ls.length ≤ 5000000000000) (hlow : ∀ k, ok k → k < w.heap.size)
    (hK : ∀ g' cap' w', Wait w' B ok (ls ++ [l]) g' cap' → w.grownBy w' (some g) → (g' = g ∨ w.heap.size = g') → K (a.put o.dst (.slice (some ⟨g', 0, none⟩) (ls.length + 1) cap')) w') :
    if Region.wanted o (yielded ops a.tmps) = true then Oper.wp Tryz.prog o a w K Q else E := by
  have hw : Region.wanted o (yielded ops a.tmps) = true := by simp [Region.wanted, hgd]
  rw [if_pos hw]
  exact wp_push s x ho hs hx hW hnb hv hn hlow hK
end Go.Proofs.YtfbddgpekbhpfacGreatDoor

/- The contracts of the library that the texts name, over this program. -/
set_option linter.unusedSimpArgs false
set_option linter.unusedVariables false
namespace Go.Proofs
open Go.Shelf
def Tryz.lays193_ren : Go.Shelf.Ren := ⟨fun | 193 => 59 | n => n, fun | 31 => 22 | 9 => 9 | 4 => 4 | 3 => 3 | 0 => 0 | n => n, fun | n => n⟩
theorem Tryz.lays193 : Go.Proofs.Lays.n193 Tryz.prog Tryz.lays193_ren := {
  mixed := by kernel_rfl
  f193 := Tryz.func59.trans (congrArg some (by kernel_rfl))
  t0 := Tryz.underlying0
  a0 := Tryz.isAgg0
  z0 := Tryz.sizeOf0
  v0 := Tryz.zeroValue0
  t3 := Tryz.underlying3
  a3 := Tryz.isAgg3
  z3 := Tryz.sizeOf3
  v3 := Tryz.zeroValue3
  t4 := Tryz.underlying4
  a4 := Tryz.isAgg4
  z4 := Tryz.sizeOf4
  v4 := Tryz.zeroValue4
  t9 := Tryz.underlying9
  a9 := Tryz.isAgg9
  z9 := Tryz.sizeOf9
  v9 := Tryz.zeroValue9
  t31 := Tryz.underlying22
  a31 := Tryz.isAgg22
  z31 := Tryz.sizeOf22
  v31 := Tryz.zeroValue22 }
open Go.RowKit Go.Lib in
theorem Tryz.slices_Equal_string (b1 o1 n c b2 o2 m d : Nat) (xs ys : List ByteArray) (w : World) (hx : n ≤ xs.length) (hy : m ≤ ys.length) (hbig : n ≤ 9223372036854775807) (hbig2 : m ≤ 9223372036854775807) (hc1 : ∀ j, j < xs.length → w.cell? ⟨b1, o1 + j, none⟩ = some (.string (xs.getD j ByteArray.empty))) (hc2 : ∀ j, j < ys.length → w.cell? ⟨b2, o2 + j, none⟩ = some (.string (ys.getD j ByteArray.empty))) :
    Calls Tryz.prog 59 #[.slice (some ⟨b1, o1, none⟩) n c, .slice (some ⟨b2, o2, none⟩) m d] w fun e w' => e = .returned (.bool (decide (xs.take n = ys.take m))) ∧ ∃ q, w' = w.drewN q := Any.slices_Equal_string Tryz.lays193 b1 o1 n c b2 o2 m d xs ys w hx hy hbig hbig2 hc1 hc2
open Go.RowKit Go.Lib in
theorem Tryz.slices_Equal_string_empty (a1 a2 : Option Addr) (c m d : Nat) (w : World) (hbig2 : m ≤ 9223372036854775807) :
    Calls Tryz.prog 59 #[.slice a1 0 c, .slice a2 m d] w fun e w' => e = .returned (.bool (decide (m = 0))) ∧ w' = w := Any.slices_Equal_string_empty Tryz.lays193 a1 a2 c m d w hbig2
open Go.RowKit Go.Lib in
theorem Tryz.slices_Equal_string_lens (a1 a2 : Option Addr) (n c m d : Nat) (w : World) (hnm : n ≠ m) :
    Calls Tryz.prog 59 #[.slice a1 n c, .slice a2 m d] w fun e w' => e = .returned (.bool false) ∧ w' = w := Any.slices_Equal_string_lens Tryz.lays193 a1 a2 n c m d w hnm
end Go.Proofs

/- What alikeButItems of package json does. -/
set_option linter.unusedSimpArgs false
set_option linter.unusedVariables false
namespace Go.Proofs.YtfbddgpekbhpfacGreatDoor
open Go.RowKit

theorem equalS_at (w : World) (ok ok' : Nat → Prop) (xs ys : List (List UInt8)) (v1 v2 : Value) (h1 : StrsAre w ok xs v1) (h2 : StrsAre w ok' ys v2) :
    Calls Tryz.prog 59 #[v1, v2] w fun e w' => e = .returned (.bool (decide (xs = ys))) ∧ Below w.heap.size w w' := by
  have hm := h2.1
  unfold maxLen at hm
  have hm1 := h1.1
  unfold maxLen at hm1
  obtain ⟨a2, c2, e2⟩ := h2.form
  rcases h1.2 with ⟨rfl, a, rfl⟩ | ⟨b, off, c, rfl, g1, g2, g3⟩
  · rw [e2]
    refine (Tryz.slices_Equal_string_empty a a2 0 ys.length c2 w hm).mono ?_
    rintro e w' ⟨rfl, rfl⟩
    refine ⟨?_, Below.refl _ _⟩
    congr 2
    cases ys <;> simp
  · by_cases hl : xs.length = ys.length
    · rcases h2.2 with ⟨rfl, a, e⟩ | ⟨b2, off2, c3, e, f1, f2, f3⟩
      · have hx : xs = [] := List.eq_nil_of_length_eq_zero (by simpa using hl)
        subst hx
        rw [e2]
        refine (Tryz.slices_Equal_string_empty _ a2 c 0 c2 w (by omega)).mono ?_
        rintro e w' ⟨rfl, rfl⟩
        exact ⟨by simp, Below.refl _ _⟩
      · subst e
        refine (Tryz.slices_Equal_string b off xs.length c b2 off2 ys.length c3 (xs.map fun l => (⟨l.toArray⟩ : ByteArray)) (ys.map fun l => (⟨l.toArray⟩ : ByteArray)) w (by simp) (by simp) hm1 hm ?_ ?_).mono ?_
        · intro j hj
          have hj' : j < xs.length := by simpa using hj
          rw [(g3 j xs[j] (List.getElem?_eq_getElem hj')).2.2]
          simp [str, hj']
        · intro j hj
          have hj' : j < ys.length := by simpa using hj
          rw [(f3 j ys[j] (List.getElem?_eq_getElem hj')).2.2]
          simp [str, hj']
        · rintro e w' ⟨rfl, q, rfl⟩
          refine ⟨?_, ⟨rfl, rfl, rfl, Nat.le_refl _, fun _ _ => rfl⟩⟩
          congr 2
          rw [List.take_of_length_le (by simp), List.take_of_length_le (by simp)]
          have inj : ∀ (a b : List (List UInt8)), (a.map fun l => (⟨l.toArray⟩ : ByteArray)) = (b.map fun l => (⟨l.toArray⟩ : ByteArray)) ↔ a = b := by
            intro a
            induction a with
            | nil => intro b; cases b <;> simp
            | cons x a ih =>
              intro b
              cases b with
              | nil => simp
              | cons y b => simp [ih b]
          exact decide_eq_decide.2 (inj xs ys)
    · rw [e2]
      refine (Tryz.slices_Equal_string_lens _ a2 xs.length c ys.length c2 w hl).mono ?_
      rintro e w' ⟨rfl, rfl⟩
      refine ⟨?_, Below.refl _ _⟩
      congr 2
      have : ¬ xs = ys := fun e => hl (by rw [e])
      simp [this]
def aliked (a b : V) : Bool := decide (a.kind = b.kind) && decide (a.n = b.n) && decide (a.s = b.s) && decide (a.keys = b.keys) && decide (a.l.length = b.l.length)
set_option maxRecDepth 100000 in
set_option maxHeartbeats 4000000 in
theorem alike_is (w : World) (ok ok' : Nat → Prop) (a b : V) (va vb : Value) (ha : In w ok a va) (hb : In w ok' b vb) :
    Calls Tryz.prog 40 #[va, vb] w fun e w' => e = .returned (.bool (aliked a b)) ∧ Below w.heap.size w w' := by
  obtain ⟨l1, l2, l3⟩ := ha.lens
  obtain ⟨m1, m2, m3⟩ := hb.lens
  obtain ⟨d1, ha⟩ := ha.at
  obtain ⟨d2, hb⟩ := hb.at
  obtain ⟨ks, ls, rfl, -, -, -, h4, h5⟩ := ha
  obtain ⟨ks', ls', rfl, -, -, -, g4, g5⟩ := hb
  have H4 := hidI h4
  have G4 := hidI g4
  obtain ⟨a1, c1, rfl⟩ := h4.form
  obtain ⟨a2, c2, rfl⟩ := h5.form
  obtain ⟨a3, c3, rfl⟩ := g4.form
  obtain ⟨a4, c4, rfl⟩ := g5.form
  clear h4 h5 g4 g5
  unfold str
  have B2 : Hid (∀ o1 o2, Below w.heap.size w ((w.alloc o1).alloc o2)) := fun o1 o2 => bel_trans (bel_alloc _ _) (bel_alloc _ _)
  by_cases e1 : a.kind = b.kind
  · have q1 : (a.kind == b.kind) = true := by rw [beq_iff_eq]; exact e1
    by_cases e2 : a.n = b.n
    · have q2 : (a.n == b.n) = true := by rw [beq_iff_eq]; exact e2
      by_cases e3 : a.s = b.s
      · have q3 : (a.s == b.s) = true := by rw [beq_iff_eq]; exact e3
        have HE : Hid (aliked a b = (decide (a.keys = b.keys) && decide (a.l.length = b.l.length))) := hidI (by simp [aliked, e1, e2, e3])
        clear e1 e2 e3
        cases hk : decide (a.keys = b.keys) with
        | true =>
          by_cases hl : a.l.length = b.l.length
          · have q4 : ((a.l.length : Int) == (b.l.length : Int)) = true := by rw [hl]; simp
            have HR : Hid (aliked a b = true) := hidI (by rw [HE.out, hk]; simp [hl])
            have HK := hidI hk
            clear hk hl
            go_enter Tryz.func40, Tryz.ntmps40
            go_wp2_with fail
            refine (equalS_at _ _ _ a.keys b.keys _ _ (by exact H4.out.bel (B2.out _ _)) (by exact G4.out.bel (B2.out _ _))).mono ?_
            rintro e w1 ⟨rfl, hb1⟩
            rw [HK.out]
            have p4 := (box_bel hb1 (h2a w _ _)).c.2.2.2.2.1
            have r4 := (box_bel hb1 (h2b w _ _)).c.2.2.2.2.1
            have HB := hidI (bel_trans (B2.out _ _) hb1)
            clear hb1
            go_wp2_with fail
            go_ret
            exact ⟨by rw [HR.out]; rfl, HB.out⟩
          · have q4 : ((a.l.length : Int) == (b.l.length : Int)) = false := by rw [beq_eq_false_iff_ne]; omega
            have HR : Hid (aliked a b = false) := hidI (by rw [HE.out, hk]; simp [hl])
            have HK := hidI hk
            clear hk hl
            go_enter Tryz.func40, Tryz.ntmps40
            go_wp2_with fail
            refine (equalS_at _ _ _ a.keys b.keys _ _ (by exact H4.out.bel (B2.out _ _)) (by exact G4.out.bel (B2.out _ _))).mono ?_
            rintro e w1 ⟨rfl, hb1⟩
            rw [HK.out]
            have p4 := (box_bel hb1 (h2a w _ _)).c.2.2.2.2.1
            have r4 := (box_bel hb1 (h2b w _ _)).c.2.2.2.2.1
            have HB := hidI (bel_trans (B2.out _ _) hb1)
            clear hb1
            go_wp2_with fail
            go_ret
            exact ⟨by rw [HR.out]; rfl, HB.out⟩
        | false =>
          have HR : Hid (aliked a b = false) := hidI (by rw [HE.out, hk]; rfl)
          have HK := hidI hk
          clear hk
          go_enter Tryz.func40, Tryz.ntmps40
          go_wp2_with fail
          refine (equalS_at _ _ _ a.keys b.keys _ _ (by exact H4.out.bel (B2.out _ _)) (by exact G4.out.bel (B2.out _ _))).mono ?_
          rintro e w1 ⟨rfl, hb1⟩
          rw [HK.out]
          have HB := hidI (bel_trans (B2.out _ _) hb1)
          clear hb1
          go_wp2_with fail
          go_ret
          exact ⟨by rw [HR.out]; rfl, HB.out⟩
      · have q3 : (a.s == b.s) = false := by rw [beq_eq_false_iff_ne]; exact e3
        have HR : Hid (aliked a b = false) := hidI (by simp [aliked, e3])
        clear e1 e2 e3
        go_enter Tryz.func40, Tryz.ntmps40
        go_wp2_with fail
        go_ret
        exact ⟨by rw [HR.out]; rfl, B2.out _ _⟩
    · have q2 : (a.n == b.n) = false := by rw [beq_eq_false_iff_ne]; exact e2
      have HR : Hid (aliked a b = false) := hidI (by simp [aliked, e2])
      clear e1 e2
      go_enter Tryz.func40, Tryz.ntmps40
      go_wp2_with fail
      go_ret
      exact ⟨by rw [HR.out]; rfl, B2.out _ _⟩
  · have q1 : (a.kind == b.kind) = false := by rw [beq_eq_false_iff_ne]; exact e1
    have HR : Hid (aliked a b = false) := hidI (by simp [aliked, e1])
    clear e1
    go_enter Tryz.func40, Tryz.ntmps40
    go_wp2_with fail
    go_ret
    exact ⟨by rw [HR.out]; rfl, B2.out _ _⟩
end Go.Proofs.YtfbddgpekbhpfacGreatDoor

/- Two rows of lists that wait, side by side. -/
set_option linter.unusedSimpArgs false
set_option linter.unusedVariables false
namespace Go.Proofs.YtfbddgpekbhpfacGreatDoor
open Go.RowKit

def okX (ok : Nat → Prop) (B i : Nat) : Nat → Prop := fun k => (ok k ∧ k < B) ∨ k = i
theorem okX_lt {ok : Nat → Prop} {B i H : Nat} (h1 : B ≤ H) (h2 : i < H) : ∀ k, okX ok B i k → k < H := by
  intro k hk
  rcases hk with hk | hk <;> omega
theorem okX_ne {ok : Nat → Prop} {B i g : Nat} (h1 : B ≤ g) (h2 : i ≠ g) : ∀ k, okX ok B i k → k ≠ g := by
  intro k hk
  rcases hk with hk | hk <;> omega
theorem bel_al {a w : World} (h : Below a.heap.size a w) (o : Obj) : Below a.heap.size a (w.alloc o) := bel_trans h (bel_alloc w o)
theorem bel_dr {a w : World} (h : Below a.heap.size a w) : Below a.heap.size a w.drew := h.drew
theorem szle {a w : World} (h : Below a.heap.size a w) : a.heap.size ≤ w.heap.size := h.size
theorem two_up {a w w' : World} {g g' : Nat} (h : Below a.heap.size a w) (q : w.grownBy w' (some g)) (o : g' = g ∨ w.heap.size = g') : a.grownBy w' (some g) ∧ (g' = g ∨ a.heap.size ≤ g') :=
  ⟨gb_trans (gb_below h) q, o.imp id fun e => by have := h.size; omega⟩
theorem heap_old {w : World} {k : Nat} {v : Obj} (h : w.heap[k]? = some v) (o : Obj) : (w.alloc o).heap[k]? = some v :=
  ((World.grownBy_alloc w o none).block k (Array.getElem?_eq_some_iff.1 h).1 (by simp)).trans h
theorem heap_at6 (w : World) (o1 o2 o3 o4 o5 o6 : Obj) (i : Nat) (hi : i < 6) : ((((((w.alloc o1).alloc o2).alloc o3).alloc o4).alloc o5).alloc o6).heap[w.heap.size + i]? = [o1, o2, o3, o4, o5, o6][i]? := by
  rcases (show i = 0 ∨ i = 1 ∨ i = 2 ∨ i = 3 ∨ i = 4 ∨ i = 5 by omega) with rfl | rfl | rfl | rfl | rfl | rfl
  · exact heap_old (heap_old (heap_old (heap_old (heap_old (heap_alloc_new w o1) _) _) _) _) _
  · exact heap_old (heap_old (heap_old (heap_old (by simpa using heap_alloc_new (w.alloc o1) o2) _) _) _) _
  · exact heap_old (heap_old (heap_old (by simpa using heap_alloc_new ((w.alloc o1).alloc o2) o3) _) _) _
  · exact heap_old (heap_old (by simpa using heap_alloc_new (((w.alloc o1).alloc o2).alloc o3) o4) _) _
  · exact heap_old (by simpa using heap_alloc_new ((((w.alloc o1).alloc o2).alloc o3).alloc o4) o5) _
  · simpa using heap_alloc_new (((((w.alloc o1).alloc o2).alloc o3).alloc o4).alloc o5) o6
def SE (w : World) (ok ok' : Nat → Prop) (ia ib : Nat) (ls rs : List (List V)) (gL gR cL cR : Nat) (wr : World) : Prop :=
  Wait wr w.heap.size (okX ok w.heap.size ia) ls gL cL ∧ Wait wr w.heap.size (okX ok' w.heap.size ib) rs gR cR ∧ gL ≠ gR ∧ ia ≠ gL ∧ ia ≠ gR ∧ ib ≠ gL ∧ ib ≠ gR ∧ ia < wr.heap.size ∧ ib < wr.heap.size ∧ Below w.heap.size w wr
theorem SE.bel {w wr wr' : World} {ok ok' : Nat → Prop} {ia ib : Nat} {ls rs : List (List V)} {gL gR cL cR : Nat} (h : SE w ok ok' ia ib ls rs gL gR cL cR wr) (hb : Below wr.heap.size wr wr') : SE w ok ok' ia ib ls rs gL gR cL cR wr' := by
  obtain ⟨h3, h4, h5, h6, h7, h8, h9, h10, h11, h12⟩ := h
  exact ⟨h3.bel hb, h4.bel hb, h5, h6, h7, h8, h9, Nat.lt_of_lt_of_le h10 hb.size, Nat.lt_of_lt_of_le h11 hb.size, bel_trans h12 hb⟩
theorem SE.swap {w wr : World} {ok ok' : Nat → Prop} {ia ib : Nat} {ls rs : List (List V)} {gL gR cL cR : Nat} (h : SE w ok ok' ia ib ls rs gL gR cL cR wr) : SE w ok' ok ib ia rs ls gR gL cR cL wr := by
  obtain ⟨h3, h4, h5, h6, h7, h8, h9, h10, h11, h12⟩ := h
  exact ⟨h4, h3, h5.symm, h9, h8, h7, h6, h11, h10, h12⟩
theorem SE.lows {w wr : World} {ok ok' : Nat → Prop} {ia ib : Nat} {ls rs : List (List V)} {gL gR cL cR : Nat} (h : SE w ok ok' ia ib ls rs gL gR cL cR wr) : ∀ k, okX ok w.heap.size ia k → k < wr.heap.size := okX_lt h.2.2.2.2.2.2.2.2.2.size h.2.2.2.2.2.2.2.1
/- Both are pushed, one behind the other. -/
theorem push_end {w w4 w5 w6 : World} {ok ok' : Nat → Prop} {ia ib : Nat} {ls rs : List (List V)} {gL gR cL cR g5 g6 c5 c6 : Nat} {lx ly : List V} (h : SE w ok ok' ia ib ls rs gL gR cL cR w4) (q5 : w4.grownBy w5 (some gL)) (h5 : Wait w5 w.heap.size (okX ok w.heap.size ia) (ls ++ [lx]) g5 c5) (o5 : g5 = gL ∨ w4.heap.size ≤ g5)
    (q6 : w5.grownBy w6 (some gR)) (h6 : Wait w6 w.heap.size (okX ok' w.heap.size ib) (rs ++ [ly]) g6 c6) (o6 : g6 = gR ∨ w5.heap.size ≤ g6) : SE w ok ok' ia ib (ls ++ [lx]) (rs ++ [ly]) g5 g6 c5 c6 w6 := by
  obtain ⟨h3, h4, e1, e2, e3, e4, e5, e6, e7, hB⟩ := h
  have l3 := h3.lt
  have l4 := h4.lt
  have l5 := h5.lt
  have s5 := q5.size
  have s6 := q6.size
  have hn : g5 ≠ gR := by omega
  refine ⟨h5.far q6 hn (okX_ne l4.1 e3), h6, by omega, by omega, by omega, by omega, by omega, by omega, by omega, ?_⟩
  exact gb_none (gb_out (gb_out (gb_below hB) q5 l3.1) q6 l4.1)
def SI (w : World) (ok ok' : Nat → Prop) (ia ib : Nat) (ls rs : List (List V)) (lv rv : Value) (wr : World) : Prop :=
  ∃ gL gR cL cR, lv = .slice (some ⟨gL, 0, none⟩) ls.length cL ∧ rv = .slice (some ⟨gR, 0, none⟩) rs.length cR ∧ SE w ok ok' ia ib ls rs gL gR cL cR wr
theorem SI.bel {w wr wr' : World} {ok ok' : Nat → Prop} {ia ib : Nat} {ls rs : List (List V)} {lv rv : Value} (h : SI w ok ok' ia ib ls rs lv rv wr) (hb : Below wr.heap.size wr wr') : SI w ok ok' ia ib ls rs lv rv wr' := by
  obtain ⟨gL, gR, cL, cR, h1, h2, h3⟩ := h
  exact ⟨gL, gR, cL, cR, h1, h2, h3.bel hb⟩
theorem own_one {w : World} {g B : Nat} {t : TypeId} {v : Value} (h : w.heap[g]? = some (.cells #[v] t)) (hB : B ≤ g) : w.ownsRow B t 1 (.slice (some ⟨g, 0, none⟩) 1 1) 1 [v] :=
  ⟨rfl, .inr ⟨g, 1, #[v], rfl, hB, h, Nat.le_refl _, by simp [maxLen], rfl, rfl⟩⟩
theorem wait_one {w : World} {g i B : Nat} {ok : Nat → Prop} {t : V} {c0 c1 c2 c3 c4 : Value} (hx : In w (okX ok B i) t (.agg #[c0, c1, c2, c3, c4])) (h1 : BoxIs w i c0 c1 c2 c3 c4) (h2 : w.heap[g]? = some (.cells #[.slice (some ⟨i, 0, none⟩) 1 1] 23)) (hB : B ≤ g) (hne : i ≠ g) : Wait w B (okX ok B i) [[t]] g 1 := by
  refine ⟨[.slice (some ⟨i, 0, none⟩) 1 1], own_one h2 hB, ⟨rfl, ?_⟩, okX_ne hB hne⟩
  intro j l c h3 h4
  cases j with
  | zero =>
    simp only [List.getElem?_cons_zero, Option.some.injEq] at h3 h4
    subst h3 h4
    exact vals_one hx h1 (.inr rfl)
  | succ j => simp at h3
theorem si_start {w W : World} {ok ok' : Nat → Prop} {ia ib gL gR : Nat} {a b : V} {a0 a1 a2 a3 a4 b0 b1 b2 b3 b4 : Value} (ha : In w ok a (.agg #[a0, a1, a2, a3, a4])) (hb : In w ok' b (.agg #[b0, b1, b2, b3, b4])) (hB : Below w.heap.size w W)
    (h1 : W.heap[gL]? = some (.cells #[.slice (some ⟨ia, 0, none⟩) 1 1] 23)) (h2 : W.heap[gR]? = some (.cells #[.slice (some ⟨ib, 0, none⟩) 1 1] 23)) (h3 : BoxIs W ia a0 a1 a2 a3 a4) (h4 : BoxIs W ib b0 b1 b2 b3 b4) (hn : gL ≠ gR ∧ ia ≠ gL ∧ ia ≠ gR ∧ ib ≠ gL ∧ ib ≠ gR ∧ w.heap.size ≤ gL ∧ w.heap.size ≤ gR) :
    SI w ok ok' ia ib [[a]] [[b]] (.slice (some ⟨gL, 0, none⟩) 1 1) (.slice (some ⟨gR, 0, none⟩) 1 1) W := by
  obtain ⟨n1, n2, n3, n4, n5, n6, n7⟩ := hn
  have k1 : In W (okX ok w.heap.size ia) a (.agg #[a0, a1, a2, a3, a4]) := (ha.low.bel hB).weak fun k hk => .inl hk
  have k2 : In W (okX ok' w.heap.size ib) b (.agg #[b0, b1, b2, b3, b4]) := (hb.low.bel hB).weak fun k hk => .inl hk
  exact ⟨gL, gR, 1, 1, rfl, rfl, wait_one k1 h3 h1 n6 n2, wait_one k2 h4 h2 n7 n5, n1, n2, n3, n4, n5, h3.lt, h4.lt, hB⟩
/- As many on both sides. -/
def PL (ls rs : List (List V)) : Prop := rs.length = ls.length ∧ ∀ (j : Nat) (l r : List V), ls[j]? = some l → rs[j]? = some r → r.length = l.length
theorem PL.push {ls rs : List (List V)} (h : PL ls rs) {l r : List V} (hl : r.length = l.length) : PL (ls ++ [l]) (rs ++ [r]) := by
  refine ⟨by simp [h.1], fun j l' r' h1 h2 => ?_⟩
  by_cases hj : j < ls.length
  · rw [List.getElem?_append_left hj] at h1
    rw [List.getElem?_append_left (by rw [h.1]; exact hj)] at h2
    exact h.2 j l' r' h1 h2
  · have : j < (ls ++ [l]).length := (List.getElem?_eq_some_iff.1 h1).1
    simp only [List.length_append, List.length_cons, List.length_nil] at this
    have e : j = ls.length := by omega
    subst e
    rw [List.getElem?_append_right (by omega)] at h1
    rw [List.getElem?_append_right (by rw [h.1]; omega)] at h2
    simp only [Nat.sub_self, List.getElem?_cons_zero, Option.some.injEq] at h1
    rw [h.1] at h2
    simp only [Nat.sub_self, List.getElem?_cons_zero, Option.some.injEq] at h2
    rw [← h1, ← h2]; exact hl
theorem PL.pop {ls rs : List (List V)} {l : List V} (h : PL (ls ++ [l]) rs) : ∃ qs r, rs = qs ++ [r] ∧ PL ls qs ∧ r.length = l.length := by
  have hl : rs.length = ls.length + 1 := by simpa using h.1
  obtain ⟨qs, r, rfl⟩ : ∃ qs r, rs = qs ++ [r] := ⟨rs.dropLast, rs.getLast (by intro e; rw [e] at hl; simp at hl), (List.dropLast_concat_getLast _).symm⟩
  have hd : qs.length = ls.length := by simpa using hl
  refine ⟨qs, r, rfl, ⟨hd, fun j l' r' h1 h2 => ?_⟩, ?_⟩
  · have h3 := (List.getElem?_eq_some_iff.1 h1).1
    exact h.2 j l' r' (by rw [List.getElem?_append_left h3]; exact h1) (by rw [List.getElem?_append_left (by omega)]; exact h2)
  · exact h.2 ls.length l r (by simp) (by rw [← hd]; simp)
theorem ends {α : Type} (ls : List α) : ls = [] ∨ ∃ ms l, ls = ms ++ [l] := by
  cases ls with
  | nil => exact .inl rfl
  | cons x xs => exact .inr ⟨(x :: xs).dropLast, (x :: xs).getLast (by simp), (List.dropLast_concat_getLast _).symm⟩
theorem alike_eq {x y : V} (h : aliked x y = true) : (x = y ↔ x.l = y.l) ∧ y.l.length = x.l.length := by
  simp only [aliked, Bool.and_eq_true, decide_eq_true_eq] at h
  obtain ⟨⟨⟨⟨h1, h2⟩, h3⟩, h4⟩, h5⟩ := h
  refine ⟨⟨fun e => by rw [e], fun e => ?_⟩, h5.symm⟩
  rw [← V_eta x, ← V_eta y, h1, h2, h3, h4, e]
theorem alike_no {x y : V} (h : aliked x y = false) : x ≠ y := by
  rintro rfl
  simp [aliked] at h
theorem drop_both {xs ys : List V} {k : Nat} (h1 : k < xs.length) (h2 : k < ys.length) : (xs.drop k = ys.drop k ↔ xs[k] = ys[k] ∧ xs.drop (k + 1) = ys.drop (k + 1)) := by
  rw [List.drop_eq_getElem_cons h1, List.drop_eq_getElem_cons h2, List.cons.injEq]
theorem snoc_both {α : Type} {a b : List α} {x y : α} : (a ++ [x] = b ++ [y] ↔ a = b ∧ x = y) := by
  constructor
  · intro h; exact List.append_inj' h rfl |>.imp id fun e => List.cons.inj e |>.1
  · rintro ⟨rfl, rfl⟩; rfl
/- What Same answers. -/
def SameP (w : World) (a b : V) (e : Ending) (w' : World) : Prop := ∃ r, e = .returned (.bool r) ∧ (r = true ↔ a = b) ∧ Below w.heap.size w w'
/- On the way through two lists. -/
def SJ (w : World) (ok ok' : Nat → Prop) (ia ib : Nat) (a b : V) (xs ys : List V) (xv yv : Value) (M k : Nat) (lv rv : Value) (wr : World) : Prop :=
  ∃ ls rs, (a = b ↔ ls = rs ∧ xs.drop k = ys.drop k) ∧ PL ls rs ∧ mu ls + cnts (xs.drop k) + 1 ≤ M ∧ M ≤ 2000000000001 ∧ ValsIn wr (okX ok w.heap.size ia) xs xv ∧ ValsIn wr (okX ok' w.heap.size ib) ys yv ∧ SI w ok ok' ia ib ls rs lv rv wr
theorem SJ.bel {w wr wr' : World} {ok ok' : Nat → Prop} {ia ib : Nat} {a b : V} {xs ys : List V} {xv yv : Value} {M k : Nat} {lv rv : Value} (h : SJ w ok ok' ia ib a b xs ys xv yv M k lv rv wr) (hb : Below wr.heap.size wr wr') : SJ w ok ok' ia ib a b xs ys xv yv M k lv rv wr' := by
  obtain ⟨ls, rs, h1, h2, h3, h4, h5, h6, h7⟩ := h
  exact ⟨ls, rs, h1, h2, h3, h4, h5.bel hb, h6.bel hb, h7.bel hb⟩
end Go.Proofs.YtfbddgpekbhpfacGreatDoor

set_option linter.unusedSimpArgs false
set_option linter.unusedVariables false
namespace Go.Proofs.YtfbddgpekbhpfacGreatDoor
open Go.RowKit

def cln : V → Bool
  | ⟨k, _, _, _, l⟩ => !decide (k = 5) || (l.map fun x => !decide (x.kind = 0) && cln x).all id
def clns (xs : List V) : Bool := (xs.map fun x => !decide (x.kind = 0) && cln x).all id
theorem clns_nil : clns [] = true := rfl
theorem clns_cons (x : V) (xs : List V) : clns (x :: xs) = (!decide (x.kind = 0) && cln x && clns xs) := by simp [clns]
theorem cln_eq (t : V) : cln t = (!decide (t.kind = 5) || clns t.l) := by cases t; rw [cln]; rfl
theorem clns_drop {xs : List V} {k : Nat} (h : k < xs.length) : clns (xs.drop k) = (!decide (xs[k].kind = 0) && cln xs[k] && clns (xs.drop (k + 1))) := by
  rw [List.drop_eq_getElem_cons h, clns_cons]
theorem clns_all : ∀ (D : Nat) (l : List V), (∀ x ∈ l, cleanF D x = cln x) → (l.all fun x => !decide (x.kind = 0) && cleanF D x) = clns l
  | _, [], _ => rfl
  | D, x :: l, h => by
    rw [List.all_cons, clns_cons, h x (by simp), clns_all D l fun y hy => h y (by simp [hy])]
theorem clean_cln (D : Nat) : ∀ (t : V), GoodT D t → cleanF D t = cln t := by
  induction D with
  | zero => intro t h; exact h.elim
  | succ D ih =>
    intro t h
    rw [cleanF, cln_eq, clns_all D t.l fun x hx => ih x (h.2 x hx)]
def CI (w : World) (ok : Nat → Prop) (ls : List (List V)) (lv : Value) (wr : World) : Prop :=
  ∃ g cap, lv = .slice (some ⟨g, 0, none⟩) ls.length cap ∧ Wait wr w.heap.size (fun k => ok k ∧ k < w.heap.size) ls g cap ∧ Below w.heap.size w wr
def CJ (w : World) (ok : Nat → Prop) (t : V) (xs : List V) (xv : Value) (M k : Nat) (lv : Value) (wr : World) : Prop :=
  ∃ ls, cln t = (ls.all clns && clns (xs.drop k)) ∧ mu ls + cnts (xs.drop k) + 1 ≤ M ∧ ValsIn wr (fun k => ok k ∧ k < w.heap.size) xs xv ∧ CI w ok ls lv wr
theorem low_wait {w wr : World} {ok : Nat → Prop} (h : Below w.heap.size w wr) : ∀ k, (fun k => ok k ∧ k < w.heap.size) k → k < wr.heap.size := fun k hk => by have := h.size; have := hk.2; omega

set_option maxRecDepth 100000 in
set_option maxHeartbeats 40000000 in
theorem clean_is (w : World) (ok : Nat → Prop) (t : V) (tv : Value) (h : In w ok t tv) (hN : cnt t ≤ 2000000000000) :
    Calls Tryz.prog 8 #[tv] w fun e w' => e = .returned (.bool (cln t)) ∧ Below w.heap.size w w' := by
  have H := hidI h.low
  obtain ⟨a1, a2, c1, c2, rfl⟩ := h.form
  clear h
  by_cases hk : t.kind = 5
  · have e0 : (t.kind != 5) = false := by rw [hk]; rfl
    have HT : Hid (cln t = clns t.l) := hidI (by rw [cln_eq, hk]; rfl)
    have S0 : Hid (CI w ok [t.l] (.slice (some ⟨w.heap.size + 1, 0, none⟩) 1 1) ((w.alloc (.cells #[.int .i64 t.kind, .int .i64 t.n, .string ⟨t.s.toArray⟩, .slice a1 t.keys.length c1, .slice a2 t.l.length c2] 25)).alloc (.cells #[.slice a2 t.l.length c2] 23))) := by
      have hb : Below w.heap.size w ((w.alloc (.cells #[.int .i64 t.kind, .int .i64 t.n, .string ⟨t.s.toArray⟩, .slice a1 t.keys.length c1, .slice a2 t.l.length c2] 25)).alloc (.cells #[.slice a2 t.l.length c2] 23)) := bel_al (bel_al (Below.refl _ _) _) _
      refine hidI ⟨w.heap.size + 1, 1, rfl, ⟨[.slice a2 t.l.length c2], own_one (h2b _ _ _) (by omega), ⟨rfl, ?_⟩, fun k hk => by have := hk.2; omega⟩, hb⟩
      intro j l c h3 h4
      cases j with
      | zero =>
        simp only [List.getElem?_cons_zero, Option.some.injEq] at h3 h4
        subst h3 h4
        exact (H.out.bel hb).vals
      | succ j => simp at h3
    clear hk
    go_enter Tryz.func8, Tryz.ntmps8
    go_wp2_with fail
    go_loopg [3] (cnt t) (fun gk lv wr => ∃ ls, cln t = ls.all clns ∧ gk = mu ls ∧ mu ls ≤ 2000000000000 ∧ CI w ok ls lv wr)
    case atStart => exact ⟨[t.l], by rw [HT.out]; simp, by rw [cnt_eq]; simp [mu], by have := cnt_eq t; simp only [mu, List.map_cons, List.map_nil, List.sum_cons, List.sum_nil]; omega, S0.out⟩
    case round =>
      obtain ⟨ls, hcl, hgk, hM, g, cap, rfl, hW, hB⟩ := hrel
      rcases ends ls with rfl | ⟨ms, xs, rfl⟩
      · have R : Hid (cln t = true ∧ Below w.heap.size w wr) := hidI ⟨by rw [hcl]; rfl, hB⟩
        clear hcl hgk hM hW hB
        have e1 : ([] : List (List V)).length = 0 := rfl
        rw [e1]
        go_wp2_with fail
        go_ret
        exact ⟨by rw [R.out.1]; rfl, R.out.2⟩
      · obtain ⟨xv, px, vx, hW'⟩ := hW.pop
        obtain ⟨M, hgM⟩ : ∃ M, gk = M := ⟨_, rfl⟩
        rw [hgM] at hgk
        have GKM := hidI hgM
        clear hgM
        have J0 : Hid (CJ w ok t xs xv M 0 (.slice (some ⟨g, 0, none⟩) ms.length cap) wr) := hidI ⟨ms, by rw [hcl]; simp, by rw [hgk, mu_push]; simp; omega, vx, g, cap, rfl, hW', hB⟩
        have zL := hW.cap
        have eL : (ms ++ [xs]).length = ms.length + 1 := by simp
        rw [eL] at zL ⊢
        obtain ⟨z1, z2⟩ := zL
        obtain ⟨xa, xc, rfl⟩ := vx.form
        have lx := vx.len
        have GM : Hid (M ≤ 2000000000000) := hidI (by rw [hgk]; exact hM)
        clear hcl hW hW' hgk hM vx hB eL
        have y1 : (0 : Int) ≤ (ms.length : Int) := by omega
        have y2 : (ms.length : Int) < ((ms.length + 1 : Nat) : Int) := by omega
        have y3 : (ms.length : Int) ≤ (cap : Int) := by omega
        go_wp2_with fail
        go_loopg [3, 29] xs.length (fun gi lv i wi => ∃ k : Nat, k ≤ xs.length ∧ gi = xs.length - k ∧ i = .int .i64 k ∧ CJ w ok t xs (.slice xa xs.length xc) M k lv wi)
        case atStart => exact ⟨0, Nat.zero_le _, rfl, rfl, J0.out⟩
        case round =>
          obtain ⟨k, hk, hgi, rfl, ls, i1, i2, i3, g', cap', rfl, i4, i5⟩ := hrel
          have GI := hidI hgi
          have J : Hid (cln t = (ls.all clns && clns (xs.drop k)) ∧ mu ls + cnts (xs.drop k) + 1 ≤ M ∧ ValsIn wr (fun k => ok k ∧ k < w.heap.size) xs (.slice xa xs.length xc) ∧ Wait wr w.heap.size (fun k => ok k ∧ k < w.heap.size) ls g' cap' ∧ Below w.heap.size w wr) := hidI ⟨i1, i2, i3, i4, i5⟩
          clear hgi i1 i2 i4 i5
          by_cases hlt : k < xs.length
          · obtain ⟨xb, xo, p5, q5, p6, q6, rfl, x1, x2, g0, g1, g2, g3, g4, g5⟩ := i3.item hlt
            have VX := hidI g5.vals
            have w1 : (0 : Int) ≤ (k : Int) := by omega
            have w2 : (k : Int) < (xs.length : Int) := by omega
            have CD := hidI (clns_drop hlt)
            have ND := hidI (cnts_drop hlt)
            have NE := hidI (cnt_eq xs[k])
            have CE := hidI (cln_eq xs[k])
            clear i3 g5
            by_cases hn : xs[k].kind = 0
            · have e1 : (xs[k].kind == 0) = true := by rw [hn]; rfl
              have R : Hid (cln t = false ∧ Below w.heap.size w (wr.alloc (.cells #[.int .i64 xs[k].kind, .int .i64 xs[k].n, .string ⟨xs[k].s.toArray⟩, .slice p5 xs[k].keys.length q5, .slice p6 xs[k].l.length q6] 25))) := hidI ⟨by rw [J.out.1, CD.out, hn]; simp, bel_trans J.out.2.2.2.2 (bel_alloc _ _)⟩
              clear hn
              go_wp2_with fail
              go_ret
              exact ⟨by rw [R.out.1]; rfl, R.out.2⟩
            · have e1 : (xs[k].kind == 0) = false := by rw [beq_eq_false_iff_ne]; exact hn
              have HN := hidI hn
              by_cases h5 : xs[k].kind = 5
              · have e2 : (xs[k].kind == 5) = true := by rw [h5]; rfl
                have H5 := hidI h5
                have nls : ls.length ≤ 5000000000000 := by have := mu_len ls; have := J.out.2.1; have := GM.out; omega
                have FIN : Hid (∀ (g7 c7 : Nat) (w7 : World) (o1 o2 : Obj), Wait w7 w.heap.size (fun k => ok k ∧ k < w.heap.size) (ls ++ [xs[k].l]) g7 c7 → ((wr.alloc o1).alloc o2).grownBy w7 (some g') → CJ w ok t xs (.slice (some ⟨xb, xo, none⟩) xs.length xc) M (k + 1) (.slice (some ⟨g7, 0, none⟩) (ls.length + 1) c7) w7) := by
                  intro g7 c7 w7 o1 o2 h7 q7
                  have hb : Below wr.heap.size wr ((wr.alloc o1).alloc o2) := bel_al (bel_al (Below.refl _ _) _) _
                  obtain ⟨j1, j2, j3, j4, j5⟩ := J.out
                  have e4 := ND.out
                  have e5 := NE.out
                  have lg := j4.lt
                  refine ⟨ls ++ [xs[k].l], ?_, by rw [mu_push]; omega, (j3.bel hb).grown q7 (fun j hj => by have := hj.2; omega), g7, c7, by simp, h7, gb_none (gb_out (gb_below (bel_trans j5 hb)) q7 lg.1)⟩
                  rw [j1, CD.out, CE.out, H5.out]
                  simp [Bool.and_assoc]
                clear hn h5
                go_wp2_with (at_builtin; go_must (refine wpList_push rfl _ _ rfl rfl rfl (J.out.2.2.2.1.bel (bel_al (bel_al (Below.refl _ _) _) _)) (h2b _ _ _) (VX.out.bel (bel_al (bel_al (Below.refl _ _) _) _)) nls (fun j hj => low_wait (bel_trans J.out.2.2.2.2 (bel_al (bel_al (Below.refl _ _) _) _)) j hj) ?_); intro g7 c7 w7 h7 q7 o7; refine Hid.out ?_)
                refine hidI ?_
                have P7 := hidI (FIN.out _ _ _ _ _ h7 q7)
                clear h7 q7 o7
                go_wp2_with fail
                go_roundg (xs.length - (k + 1))
                case measure => rw [GI.out]; omega
                case rel => exact ⟨k + 1, hlt, rfl, by go_num, P7.out⟩
              · have e2 : (xs[k].kind == 5) = false := by rw [beq_eq_false_iff_ne]; exact h5
                have FIN : Hid (CJ w ok t xs (.slice (some ⟨xb, xo, none⟩) xs.length xc) M (k + 1) (.slice (some ⟨g', 0, none⟩) ls.length cap') (wr.alloc (.cells #[.int .i64 xs[k].kind, .int .i64 xs[k].n, .string ⟨xs[k].s.toArray⟩, .slice p5 xs[k].keys.length q5, .slice p6 xs[k].l.length q6] 25))) := by
                  obtain ⟨j1, j2, j3, j4, j5⟩ := J.out
                  have e4 := ND.out
                  refine hidI ⟨ls, ?_, by omega, j3.bel (bel_alloc _ _), g', cap', rfl, j4.bel (bel_alloc _ _), bel_trans j5 (bel_alloc _ _)⟩
                  rw [j1, CD.out, CE.out]
                  simp [hn, h5]
                clear hn h5
                go_wp2_with fail
                go_roundg (xs.length - (k + 1))
                case measure => rw [GI.out]; omega
                case rel => exact ⟨k + 1, hlt, rfl, by go_num, FIN.out⟩
          · have FIN : Hid ((∃ ls2, cln t = ls2.all clns ∧ mu ls = mu ls2 ∧ mu ls2 ≤ 2000000000000 ∧ CI w ok ls2 (.slice (some ⟨g', 0, none⟩) ls.length cap') wr) ∧ mu ls < M) := by
              obtain ⟨j1, j2, j3, j4, j5⟩ := J.out
              have l1 : xs.drop k = [] := List.drop_eq_nil_of_le (by omega)
              have := GM.out
              refine hidI ⟨⟨ls, by rw [j1, l1]; simp [clns_nil], rfl, by omega, g', cap', rfl, j4, j5⟩, by omega⟩
            have d1 : ¬ (k : Int) < (xs.length : Int) := by omega
            clear i3 J
            go_wp2_with fail
            go_roundg (mu ls)
            case measure => rw [GKM.out]; exact FIN.out.2
            case rel => exact FIN.out.1
  · have e0 : (t.kind != 5) = true := by rw [bne_iff_ne]; exact hk
    have HT : Hid (cln t = true) := hidI (by rw [cln_eq]; simp [hk])
    clear hk
    go_enter Tryz.func8, Tryz.ntmps8
    go_wp2_with fail
    go_ret
    exact ⟨by rw [HT.out]; rfl, bel_alloc _ _⟩
end Go.Proofs.YtfbddgpekbhpfacGreatDoor
