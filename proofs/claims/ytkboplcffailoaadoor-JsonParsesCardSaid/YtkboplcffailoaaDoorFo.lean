/- An object that is being made: a row of keys and a row of items, side by side. -/
import Derived.Test.YtkboplcffailoaaDoorFb
import Derived.Test.YtkboplcffailoaaDoorCe
import Derived.Test.YtkboplcffailoaaDoorMa
import Derived.Test.YtkboplcffailoaaDoorSl
import Derived.Test.YtkboplcffailoaaDoorSq
set_option linter.unusedSimpArgs false
set_option linter.unusedVariables false
namespace Go.Proofs.YtkboplcffailoaaDoor
open Go.RowKit

theorem run_pushV {W : World} {B : Nat} {v : Value} {n : Nat} {cs : List Value} {nb : Nat} {k m : Int} {ss : ByteArray} {a7 a8 : Option Addr} {l7 c7 l8 c8 : Nat} (ho : W.ownsRow B 25 5 v n cs) (hnb : W.heap[nb]? = some (.cells #[.int .i64 k, .int .i64 m, .string ss, .slice a7 l7 c7, .slice a8 l8 c8] 25)) (hn : n ≤ 1000000) (hB : B ≤ W.heap.size) (ty : TypeId) :
    ∃ g cap W', (Builtin.append_ #[23, 23] ty #[v, .slice (some ⟨nb, 0, none⟩) 1 1]).run Tryd.prog W = .ok (.slice (some ⟨g, 0, none⟩) (n + 1) cap) W' ∧ W'.ownsRow B 25 5 (.slice (some ⟨g, 0, none⟩) (n + 1) cap) (n + 1) (cs ++ [.int .i64 k, .int .i64 m, .string ss, .slice a7 l7 c7, .slice a8 l8 c8]) ∧ W.grownBy W' v.ownBlock ∧ (v.ownBlock = some g ∨ W.heap.size = g) := by
  obtain ⟨i0, hi, hz0, hz1, hz2⟩ := info_parts info25
  obtain ⟨g, cap, W', hr, h1, h2, h3, -⟩ := run_append_lies (P := Tryd.prog) W 23 ty B 25 i0 _ 5 80 Tryd.underlying23 hi hz0 hz1 hz2 rfl (by decide) v n cs ho ⟨nb, 0, none⟩ 1 1 [.int .i64 k, .int .i64 m, .string ss, .slice a7 l7 c7, .slice a8 l8 c8] rfl
    (World.news_of_block (cs := #[.int .i64 k, .int .i64 m, .string ss, .slice a7 l7 c7, .slice a8 l8 c8]) hnb) (one5 _ _ _ _ _ _ _ _ _) (by decide) (by unfold maxLen; omega) (by omega) hB W.heap.size rfl
  exact ⟨g, cap, W', hr, h1, h2, h3.imp id Eq.symm⟩
/- An append in a region that draws, by its run. -/
theorem step_run {w : World} {ops : Array Oper} {o : Oper} {a : Act} {K : Act → World → Prop} {Q : Exit → Act → World → Prop} {E : Prop} (hgd : o.guard = none) (s x : Operand) (t : TypeId) (ho : o.op = .call { callee := .builtin .append, args := #[s, x], argTypes := #[t, t] })
    (v u : Value) (hs : a.eval s = v) (hx : a.eval x = u) (R : Value → World → Prop) (hr : ∀ ty, ∃ v' w', (Builtin.append_ #[t, t] ty #[v, u]).run Tryd.prog w = .ok v' w' ∧ R v' w') (hK : ∀ v' w', R v' w' → K (a.put o.dst v') w') :
    if Region.wanted o (yielded ops a.tmps) = true then Oper.wp Tryd.prog o a w K Q else E := by
  have hw : Region.wanted o (yielded ops a.tmps) = true := by simp [Region.wanted, hgd]
  rw [if_pos hw]
  obtain ⟨v', w', h1, h2⟩ := hr o.type
  unfold Oper.wp execOp
  simp only [ho, resolve, invoke, builtin, Sem.run_bind, Sem.run_pure, Result.andThen_ok, List.map_toArray, List.map_cons, List.map_nil, hs, hx, h1]
  exact hK v' w' h2
/- Both rows. -/
def OE (w : World) (ok : Nat → Prop) (B d : Nat) (ks : List (List UInt8)) (l : List V) (kv lv : Value) (wr : World) : Prop :=
  ∃ cs, wr.ownsRow B 9 1 kv ks.length (ks.map str) ∧ wr.ownsRow B 25 5 lv l.length cs ∧ RowV (VIs wr (fun k => ok k ∧ k < w.heap.size) d) l cs ∧ (∀ g, kv.ownBlock = some g → lv.ownBlock ≠ some g) ∧ Below w.heap.size w wr ∧ w.heap.size ≤ B
theorem OE.bel {w wr wr' : World} {ok : Nat → Prop} {B d : Nat} {ks : List (List UInt8)} {l : List V} {kv lv : Value} (h : OE w ok B d ks l kv lv wr) (hb : Below wr.heap.size wr wr') : OE w ok B d ks l kv lv wr' := by
  obtain ⟨cs, h1, h2, h3, h4, h5, h6⟩ := h
  exact ⟨cs, own_bel h1 hb, own_bel h2 hb, h3.imp fun _ _ h => h.bel hb, h4, bel_trans h5 hb, h6⟩
/- A key more. -/
theorem OE.key {w W : World} {ok : Nat → Prop} {B d : Nat} {ks : List (List UInt8)} {l : List V} {kv lv : Value} (h : OE w ok B d ks l kv lv W) {nb : Nat} {k : List UInt8} (hnb : W.heap[nb]? = some (.cells #[.string ⟨k.toArray⟩] 9)) (hn : ks.length ≤ 1000000) (hB : B ≤ W.heap.size) (ty : TypeId) :
    ∃ v' W', (Builtin.append_ #[22, 22] ty #[kv, .slice (some ⟨nb, 0, none⟩) 1 1]).run Tryd.prog W = .ok v' W' ∧ OE w ok B d (ks ++ [k]) l v' lv W' ∧ W.grownBy W' kv.ownBlock ∧ ∃ g cap, v' = .slice (some ⟨g, 0, none⟩) (ks.length + 1) cap := by
  obtain ⟨cs, h1, h2, h3, h4, h5, h6⟩ := h
  obtain ⟨g, cap, W', hr, ho, hg, hor⟩ := run_pushS h1 hnb hn hB ty
  have low : ∀ g', kv.ownBlock = some g' → w.heap.size ≤ g' := fun g' e => Nat.le_trans h6 (h1.lt g' e).1
  refine ⟨_, W', hr, ⟨cs, by simpa [str] using ho, h2.kept hg ?_, h3.imp fun _ _ h => h.grown hg (fun j hj e => by have := low j e.symm; have := hj.2; omega), ?_, gb_far h5 hg low, h6⟩, hg, g, cap, rfl⟩
  · cases hl : lv.ownBlock with
    | none => exact .inl rfl
    | some g' => exact .inr fun e => h4 g' e.symm hl
  · intro g' e hl
    simp only [Value.ownBlock, Option.some.injEq] at e
    subst e
    rcases hor with h0 | h0
    · exact h4 _ h0 hl
    · have := (h2.lt _ hl).2; omega
/- An item more. -/
theorem OE.item {w W : World} {ok : Nat → Prop} {B d : Nat} {ks : List (List UInt8)} {l : List V} {kv lv : Value} (h : OE w ok B d ks l kv lv W) {nb : Nat} {y : V} {a7 a8 : Option Addr} {c7 c8 : Nat} (hnb : W.heap[nb]? = some (.cells #[.int .i64 y.kind, .int .i64 y.n, .string ⟨y.s.toArray⟩, .slice a7 y.keys.length c7, .slice a8 y.l.length c8] 25))
    (hy : VIs W (fun k => ok k ∧ k < w.heap.size) d y (.agg #[.int .i64 y.kind, .int .i64 y.n, .string ⟨y.s.toArray⟩, .slice a7 y.keys.length c7, .slice a8 y.l.length c8])) (hn : l.length ≤ 1000000) (hB : B ≤ W.heap.size) (ty : TypeId) :
    ∃ v' W', (Builtin.append_ #[23, 23] ty #[lv, .slice (some ⟨nb, 0, none⟩) 1 1]).run Tryd.prog W = .ok v' W' ∧ OE w ok B d ks (l ++ [y]) kv v' W' ∧ W.grownBy W' lv.ownBlock ∧ ∃ g cap, v' = .slice (some ⟨g, 0, none⟩) (l.length + 1) cap := by
  obtain ⟨cs, h1, h2, h3, h4, h5, h6⟩ := h
  obtain ⟨g, cap, W', hr, ho, hg, hor⟩ := run_pushV h2 hnb hn hB ty
  have low : ∀ g', lv.ownBlock = some g' → w.heap.size ≤ g' := fun g' e => Nat.le_trans h6 (h2.lt g' e).1
  have conv : ∀ x v, VIs W (fun k => ok k ∧ k < w.heap.size) d x v → VIs W' (fun k => ok k ∧ k < w.heap.size) d x v := fun x v h => h.grown hg (fun j hj e => by have := low j e.symm; have := hj.2; omega)
  have rx : RowV (VIs W' (fun k => ok k ∧ k < w.heap.size) d) [y] [.int .i64 y.kind, .int .i64 y.n, .string ⟨y.s.toArray⟩, .slice a7 y.keys.length c7, .slice a8 y.l.length c8] := ⟨_, _, _, _, _, [], rfl, conv _ _ hy, rfl⟩
  refine ⟨_, W', hr, ⟨_, h1.kept hg ?_, by simpa using ho, rx.append (h3.imp conv), ?_, gb_far h5 hg low, h6⟩, hg, g, cap, rfl⟩
  · cases hl : kv.ownBlock with
    | none => exact .inl rfl
    | some g' => exact .inr fun e => h4 g' hl e.symm
  · intro g' e hl
    simp only [Value.ownBlock, Option.some.injEq] at hl
    subst hl
    rcases hor with h0 | h0
    · exact h4 _ e h0
    · have := (h1.lt _ e).2; omega
end Go.Proofs.YtkboplcffailoaaDoor
