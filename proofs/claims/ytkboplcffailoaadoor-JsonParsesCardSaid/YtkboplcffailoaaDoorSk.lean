/- Lists of values that wait, in a row of the call's own. -/
import Derived.Test.YtkboplcffailoaaDoorSj
import Derived.Deep.AppendLies
set_option linter.unusedSimpArgs false
set_option linter.unusedVariables false
namespace Go.Proofs.YtkboplcffailoaaDoor
open Go.RowKit

theorem own_belK {w w' : World} {B : Nat} {e : TypeId} {size : Nat} {v : Value} {n : Nat} {xs : List Value} (h : w.ownsRow B e size v n xs) (hb : Below w.heap.size w w') : w'.ownsRow B e size v n xs := h.kept (gb_below (r := none) hb) (by cases v.ownBlock <;> simp)
/- What waits: a list for each cell. -/
def StackIn (w : World) (ok : Nat → Prop) (ls : List (List V)) (cs : List Value) : Prop := cs.length = ls.length ∧ ∀ (j : Nat) (l : List V) (c : Value), ls[j]? = some l → cs[j]? = some c → ValsIn w ok l c
theorem StackIn.imp {w w' : World} {ok : Nat → Prop} {ls : List (List V)} {cs : List Value} (h : StackIn w ok ls cs) (hi : ∀ l c, ValsIn w ok l c → ValsIn w' ok l c) : StackIn w' ok ls cs :=
  ⟨h.1, fun j l c h1 h2 => hi l c (h.2 j l c h1 h2)⟩
theorem StackIn.push {w : World} {ok : Nat → Prop} {ls : List (List V)} {cs : List Value} (h : StackIn w ok ls cs) {l : List V} {c : Value} (hl : ValsIn w ok l c) : StackIn w ok (ls ++ [l]) (cs ++ [c]) := by
  refine ⟨by simp [h.1], fun j l' c' h1 h2 => ?_⟩
  by_cases hj : j < ls.length
  · rw [List.getElem?_append_left hj] at h1
    rw [List.getElem?_append_left (by rw [h.1]; exact hj)] at h2
    exact h.2 j l' c' h1 h2
  · have : j < (ls ++ [l]).length := (List.getElem?_eq_some_iff.1 h1).1
    simp only [List.length_append, List.length_cons, List.length_nil] at this
    have e : j = ls.length := by omega
    subst e
    rw [List.getElem?_append_right (by omega)] at h1
    rw [List.getElem?_append_right (by rw [h.1]; omega)] at h2
    simp only [Nat.sub_self, List.getElem?_cons_zero, Option.some.injEq] at h1
    rw [h.1] at h2
    simp only [Nat.sub_self, List.getElem?_cons_zero, Option.some.injEq] at h2
    rw [← h1, ← h2]; exact hl
theorem StackIn.pop {w : World} {ok : Nat → Prop} {ls : List (List V)} {l : List V} {cs : List Value} (h : StackIn w ok (ls ++ [l]) cs) : ∃ ds c, cs = ds ++ [c] ∧ StackIn w ok ls ds ∧ ValsIn w ok l c := by
  have hl : cs.length = ls.length + 1 := by simpa using h.1
  obtain ⟨ds, c, rfl⟩ : ∃ ds c, cs = ds ++ [c] := ⟨cs.dropLast, cs.getLast (by intro e; rw [e] at hl; simp at hl), (List.dropLast_concat_getLast _).symm⟩
  have hd : ds.length = ls.length := by simpa using hl
  refine ⟨ds, c, rfl, ⟨hd, fun j l' c' h1 h2 => ?_⟩, ?_⟩
  · have h3 := (List.getElem?_eq_some_iff.1 h1).1
    exact h.2 j l' c' (by rw [List.getElem?_append_left h3]; exact h1) (by rw [List.getElem?_append_left (by omega)]; exact h2)
  · exact h.2 ls.length l c (by simp) (by rw [← hd]; simp)
def Wait (w : World) (B : Nat) (ok : Nat → Prop) (ls : List (List V)) (g cap : Nat) : Prop :=
  ∃ cs, w.ownsRow B 23 1 (.slice (some ⟨g, 0, none⟩) ls.length cap) ls.length cs ∧ StackIn w ok ls cs ∧ ∀ k, ok k → k ≠ g
theorem Wait.lt {w : World} {B : Nat} {ok : Nat → Prop} {ls : List (List V)} {g cap : Nat} (h : Wait w B ok ls g cap) : B ≤ g ∧ g < w.heap.size := by
  obtain ⟨cs, h, -, -⟩ := h
  rcases h.2 with ⟨e, _⟩ | ⟨g', cap', cur, e, h1, h2, _⟩
  · cases e
  · cases e
    exact ⟨h1, (Array.getElem?_eq_some_iff.1 h2).1⟩
theorem Wait.cap {w : World} {B : Nat} {ok : Nat → Prop} {ls : List (List V)} {g cap : Nat} (h : Wait w B ok ls g cap) : ls.length ≤ cap ∧ cap ≤ 9223372036854775807 := by
  obtain ⟨cs, h, -, -⟩ := h
  rcases h.2 with ⟨e, _⟩ | ⟨g', cap', cur, e, h1, h2, h3, h4, _⟩
  · cases e
  · cases e
    exact ⟨h3, h4⟩
theorem Wait.bel {w w' : World} {B : Nat} {ok : Nat → Prop} {ls : List (List V)} {g cap : Nat} (h : Wait w B ok ls g cap) (hb : Below w.heap.size w w') : Wait w' B ok ls g cap := by
  obtain ⟨cs, h1, h2, h3⟩ := h
  exact ⟨cs, own_belK h1 hb, h2.imp fun _ _ h => h.bel hb, h3⟩
theorem Wait.far {w w' : World} {B : Nat} {ok : Nat → Prop} {ls : List (List V)} {g cap g' : Nat} (h : Wait w B ok ls g cap) (hg : w.grownBy w' (some g')) (hne : g ≠ g') (hok : ∀ k, ok k → k ≠ g') : Wait w' B ok ls g cap := by
  obtain ⟨cs, h1, h2, h3⟩ := h
  exact ⟨cs, h1.kept hg (by simp [Value.ownBlock, hne]), h2.imp fun _ _ h => h.grown hg hok, h3⟩
/- The last one, and the others. -/
theorem Wait.pop {w : World} {B : Nat} {ok : Nat → Prop} {ls : List (List V)} {l : List V} {g cap : Nat} (h : Wait w B ok (ls ++ [l]) g cap) : ∃ c, w.cell? ⟨g, ls.length, none⟩ = some c ∧ ValsIn w ok l c ∧ Wait w B ok ls g cap := by
  obtain ⟨cs, h1, h2, h3⟩ := h
  obtain ⟨ds, c, rfl, h4, h5⟩ := h2.pop
  rcases h1.2 with ⟨e, _⟩ | ⟨g', cap', cur, e, q1, q2, q3, q4, q5, q6⟩
  · cases e
  · cases e
    have hl : ds.length = ls.length := h4.1
    simp only [List.length_append, List.length_cons, List.length_nil, Nat.mul_one] at q3 q6
    refine ⟨c, ?_, h5, ds, ⟨by simp [hl], .inr ⟨g, cap, cur, rfl, q1, q2, by omega, q4, q5, ?_⟩⟩, h4, h3⟩
    · have : cur.toList[ls.length]? = some c := by
        have e9 : (cur.toList.take (ls.length + (0 + 1)))[ls.length]? = (ds ++ [c])[ls.length]? := by rw [q6]
        rw [List.getElem?_take_of_lt (by omega)] at e9
        rw [e9, ← hl]; simp
      simp only [World.cell?, q2]
      simpa using this
    · have := congrArg (List.take ls.length) q6
      rw [List.take_take, Nat.min_eq_left (by omega), List.take_append_of_le_length (by omega), List.take_of_length_le (show ds.length ≤ ls.length by omega)] at this
      simpa using this
theorem info23 : (Tryd.prog.info? 23).map (fun i => (i.zero, i.size, i.bytes)) = some (some (.slice none 0 0), 1, 24) := by kernel_rfl
/- One more waits. -/
theorem run_push {w : World} {B : Nat} {ok : Nat → Prop} {ls : List (List V)} {g cap nb : Nat} {l : List V} {c : Value} (hW : Wait w B ok ls g cap) (hnb : w.heap[nb]? = some (.cells #[c] 23)) (hv : ValsIn w ok l c) (hn : ls.length ≤ 5000000000000) (hlow : ∀ k, ok k → k < w.heap.size) (ty : TypeId) :
    ∃ g' cap' w', (Builtin.append_ #[87, 87] ty #[.slice (some ⟨g, 0, none⟩) ls.length cap, .slice (some ⟨nb, 0, none⟩) 1 1]).run Tryd.prog w = .ok (.slice (some ⟨g', 0, none⟩) (ls.length + 1) cap') w' ∧ Wait w' B ok (ls ++ [l]) g' cap' ∧ w.grownBy w' (some g) ∧ (g' = g ∨ w.heap.size = g') := by
  obtain ⟨i0, hi, hz0, hz1, hz2⟩ := info_parts info23
  have hgl := hW.lt
  obtain ⟨cs, h1, h2, h3⟩ := hW
  obtain ⟨a9, c9, rfl⟩ := hv.form
  obtain ⟨g', cap', w', hr, ho, hg, hat, hlt⟩ := run_append_lies (P := Tryd.prog) w 87 ty B 23 i0 _ 1 24 Tryd.underlying87 hi hz0 hz1 hz2 rfl (by decide) _ ls.length cs h1 ⟨nb, 0, none⟩ 1 1 [.slice a9 l.length c9] rfl
    (World.news_of_block (cs := #[.slice a9 l.length c9]) hnb) (by intro u hu; simp only [List.mem_cons, List.not_mem_nil, or_false] at hu; subst hu; rfl) (by decide) (by unfold maxLen; omega) (by omega) (by omega) w.heap.size rfl
  have hgb : w.grownBy w' (some g) := by simpa [Value.ownBlock] using hg
  refine ⟨g', cap', w', hr, ⟨cs ++ [.slice a9 l.length c9], by simpa using ho, (h2.imp fun _ _ h => h.grown hgb h3).push (hv.grown hgb h3), ?_⟩, hgb, ?_⟩
  · intro k hk
    rcases hat with hat | hat
    · simp only [Value.ownBlock, Option.some.injEq] at hat
      rw [← hat]; exact h3 k hk
    · have := hlow k hk; omega
  · rcases hat with hat | hat
    · simp only [Value.ownBlock, Option.some.injEq] at hat
      exact .inl hat.symm
    · exact .inr hat.symm
theorem wp_push {w : World} {o : Oper} {a : Act} {K : Act → World → Prop} {Q : Exit → Act → World → Prop} (s x : Operand) (ho : o.op = .call { callee := .builtin .append, args := #[s, x], argTypes := #[87, 87] })
    {B : Nat} {ok : Nat → Prop} {ls : List (List V)} {g cap nb : Nat} {l : List V} {c : Value} (hs : a.eval s = .slice (some ⟨g, 0, none⟩) ls.length cap) (hx : a.eval x = .slice (some ⟨nb, 0, none⟩) 1 1)
    (hW : Wait w B ok ls g cap) (hnb : w.heap[nb]? = some (.cells #[c] 23)) (hv : ValsIn w ok l c) (hn : ls.length ≤ 5000000000000) (hlow : ∀ k, ok k → k < w.heap.size)
    (hK : ∀ g' cap' w', Wait w' B ok (ls ++ [l]) g' cap' → w.grownBy w' (some g) → (g' = g ∨ w.heap.size = g') → K (a.put o.dst (.slice (some ⟨g', 0, none⟩) (ls.length + 1) cap')) w') : o.wp Tryd.prog a w K Q := by
  obtain ⟨g', cap', w', hr, h2, h3, h4⟩ := run_push hW hnb hv hn hlow o.type
  unfold Oper.wp execOp
  simp only [ho, resolve, invoke, builtin, Sem.run_bind, Sem.run_pure, Result.andThen_ok, List.map_toArray, List.map_cons, List.map_nil, hs, hx, hr]
  exact hK g' cap' w' h2 h3 h4
theorem wpList_push {w : World} {ops : Array Oper} {rest : List Oper} {o : Oper} {a : Act} {Q : Exit → Act → World → Prop} (hgd : o.guard = none) (s x : Operand) (ho : o.op = .call { callee := .builtin .append, args := #[s, x], argTypes := #[87, 87] })
    {B : Nat} {ok : Nat → Prop} {ls : List (List V)} {g cap nb : Nat} {l : List V} {c : Value} (hs : a.eval s = .slice (some ⟨g, 0, none⟩) ls.length cap) (hx : a.eval x = .slice (some ⟨nb, 0, none⟩) 1 1)
    (hW : Wait w B ok ls g cap) (hnb : w.heap[nb]? = some (.cells #[c] 23)) (hv : ValsIn w ok l c) (hn : ls.length ≤ 5000000000000) (hlow : ∀ k, ok k → k < w.heap.size)
    (hK : ∀ g' cap' w', Wait w' B ok (ls ++ [l]) g' cap' → w.grownBy w' (some g) → (g' = g ∨ w.heap.size = g') → wpList Tryd.prog ops Q rest (a.put o.dst (.slice (some ⟨g', 0, none⟩) (ls.length + 1) cap')) w') : wpList Tryd.prog ops Q (o :: rest) a w :=
  wpList_plain hgd fun _ hK' => wp_push s x ho hs hx hW hnb hv hn hlow fun g' cap' w' h2 h3 h4 => hK' _ _ (hK g' cap' w' h2 h3 h4)
theorem step_push {w : World} {ops : Array Oper} {o : Oper} {a : Act} {K : Act → World → Prop} {Q : Exit → Act → World → Prop} {E : Prop} (hgd : o.guard = none) (s x : Operand) (ho : o.op = .call { callee := .builtin .append, args := #[s, x], argTypes := #[87, 87] })
    {B : Nat} {ok : Nat → Prop} {ls : List (List V)} {g cap nb : Nat} {l : List V} {c : Value} (hs : a.eval s = .slice (some ⟨g, 0, none⟩) ls.length cap) (hx : a.eval x = .slice (some ⟨nb, 0, none⟩) 1 1)
    (hW : Wait w B ok ls g cap) (hnb : w.heap[nb]? = some (.cells #[c] 23)) (hv : ValsIn w ok l c) (hn : ls.length ≤ 5000000000000) (hlow : ∀ k, ok k → k < w.heap.size)
    (hK : ∀ g' cap' w', Wait w' B ok (ls ++ [l]) g' cap' → w.grownBy w' (some g) → (g' = g ∨ w.heap.size = g') → K (a.put o.dst (.slice (some ⟨g', 0, none⟩) (ls.length + 1) cap')) w') :
    if Region.wanted o (yielded ops a.tmps) = true then Oper.wp Tryd.prog o a w K Q else E := by
  have hw : Region.wanted o (yielded ops a.tmps) = true := by simp [Region.wanted, hgd]
  rw [if_pos hw]
  exact wp_push s x ho hs hx hW hnb hv hn hlow hK
end Go.Proofs.YtkboplcffailoaaDoor
