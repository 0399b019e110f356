/- What appendList of package json does, if appendValue does what is said of it. -/
import Derived.Test.YtfbddgpekbhpfacGreatDoorQb
set_option linter.unusedSimpArgs false
set_option linter.unusedVariables false
namespace Go.Proofs.YtfbddgpekbhpfacGreatDoor
open Go.RowKit

def commaS : List (List UInt8) → List UInt8
  | [] => []
  | [x] => x
  | x :: y :: r => x ++ 44 :: commaS (y :: r)
theorem commaS_snoc (x : List UInt8) : ∀ xs, commaS (xs ++ [x]) = (if xs = [] then [] else commaS xs ++ [44]) ++ x
  | [] => by simp [commaS]
  | [y] => by simp [commaS]
  | y :: z :: r => by
    have h := commaS_snoc x (z :: r)
    simp only [List.cons_append, commaS, reduceCtorEq, if_false] at h ⊢
    rw [h]; simp
theorem commaS_prefix : ∀ (xs : List (List UInt8)) (k : Nat), ∃ r, commaS xs = commaS (xs.take k) ++ r
  | [], k => ⟨[], by simp [commaS]⟩
  | [x], 0 => ⟨x, by simp [commaS]⟩
  | [x], k + 1 => ⟨[], by simp [commaS]⟩
  | x :: y :: r, 0 => ⟨_, by simp [commaS]; rfl⟩
  | x :: y :: r, 1 => ⟨44 :: commaS (y :: r), by simp [commaS]⟩
  | x :: y :: r, k + 2 => by
    obtain ⟨s, h⟩ := commaS_prefix (y :: r) (k + 1)
    refine ⟨s, ?_⟩
    simp only [List.take_succ_cons, commaS] at h ⊢
    rw [h]; simp
def pairS (g : V → List UInt8) (ks : List (List UInt8)) (l : List V) : List (List UInt8) := List.zipWith (fun k x => quoteS k ++ 58 :: g x) ks l
def printS : Nat → V → List UInt8
  | 0, _ => []
  | d + 1, t => if t.kind = 0 then [110, 117, 108, 108] else if t.kind = 1 then boolS (t.n == 1) else if t.kind = 2 then Lib.itoa t.n else if t.kind = 3 then quoteS t.s
    else if t.kind = 4 then 91 :: commaS (t.l.map (printS d)) ++ [93] else 123 :: commaS (pairS (printS d) t.keys t.l) ++ [125]
def SmallV : Nat → V → Prop
  | 0, _ => True
  | d + 1, t => t.s.length ≤ 1000 ∧ (t.kind ≠ 4 → t.l.length ≤ t.keys.length) ∧ (∀ k ∈ t.keys, k.length ≤ 1000) ∧ ∀ x ∈ t.l, SmallV d x

/- What is said of appendValue. -/
def AppC (d : Nat) : Prop := ∀ (w : World) (B : Nat) (v : Value) (acc : List UInt8) (t : V) (val : Value), VIs w (fun k => k < B) d t val → SmallV d t → BRow w B v acc → B ≤ w.heap.size → Glob w → 4 ≤ B → acc.length + (printS d t).length ≤ 100000000 →
    Calls Tryz.prog 33 #[v, val] w fun e w' => ∃ v', e = .returned v' ∧ BRow w' B v' (acc ++ printS d t) ∧ Fr B w w'

theorem VIs.fr {w w' : World} {B d : Nat} {t : V} {v : Value} (h : VIs w (fun k => k < B) d t v) (hf : Fr B w w') : VIs w' (fun k => k < B) d t v :=
  VIs.imp (fun a x h1 h2 => ⟨h1, (World.cell?_of_block (hf.1.block _ h1)).trans h2⟩) d h
theorem Glob.fr {w w' : World} {B : Nat} (h : Glob w) (hf : Fr B w w') (hB : 4 ≤ B) : Glob w' := by
  obtain ⟨⟨tp, p, t, f, h1⟩, ⟨tq, q, t2, f2, h2⟩, ⟨t3, f3, h3⟩⟩ := h
  exact ⟨⟨tp, p, t, f, (hf.1.block _ (by omega)).trans h1⟩, ⟨tq, q, t2, f2, (hf.1.block _ (by omega)).trans h2⟩, ⟨t3, f3, (hf.1.block _ (by omega)).trans h3⟩⟩
theorem part_len {xs : List (List UInt8)} {k : Nat} {x : List UInt8} (hx : xs[k]? = some x) : (commaS (xs.take k)).length + (if k = 0 then 0 else 1) + x.length ≤ (commaS xs).length := by
  obtain ⟨r, hr⟩ := commaS_prefix xs (k + 1)
  rw [take_step hx, commaS_snoc] at hr
  have hlt := (List.getElem?_eq_some_iff.1 hx).1
  rw [hr]
  by_cases hk : k = 0
  · subst hk; simp [commaS]
  · have h9 : xs.take k ≠ [] := by
      intro e; have := congrArg List.length e; simp only [List.length_take, List.length_nil] at this; omega
    simp only [if_neg h9, if_neg hk, List.length_append, List.length_cons, List.length_nil]; omega

theorem append_bytesG {w : World} {ops : Array Oper} {rest : List Oper} {o : Oper} {a : Act} {Q : Exit → Act → World → Prop} (hgd : o.guard = none) (s x : Operand)
    (ho : o.op = .call { callee := .builtin .append, args := #[s, x], argTypes := #[50, 50] }) (B : Nat) (v : Value) (acc news : List UInt8) (cs : Array Value) (hcs : cs.toList = Lib.byteCells news) (m : Nat) (hm : m = news.length) (hs : a.eval s = v) (g : Nat) (hg : w.heap.size = g)
    (hx : a.eval x = .slice (some ⟨g, 0, none⟩) m m) (hown : BRow w B v acc) (hB : B ≤ w.heap.size) (hl : acc.length ≤ 1000000000) (hn : m ≤ 1000)
    (hK : ∀ v' w', BRow w' B v' (acc ++ news) → Fr B w w' → wpList Tryz.prog ops Q rest (a.put o.dst v') w') : wpList Tryz.prog ops Q (o :: rest) a (w.alloc (.cells cs 5)) :=
  append_bytes hgd s x ho B v acc news cs hcs m hm hs (by rw [hg]; exact hx) hown hB hl hn hK
set_option maxRecDepth 100000 in
set_option maxHeartbeats 4000000 in
theorem appendList_st (d : Nat) (ih : AppC d) (w : World) (B : Nat) (v : Value) (acc : List UInt8) (t : V) (val : Value) (hv : VIs w (fun k => k < B) (d + 1) t val) (hsm : SmallV (d + 1) t) (h : BRow w B v acc) (hB : B ≤ w.heap.size) (hG : Glob w) (hgB : 4 ≤ B)
    (hl : acc.length + (commaS (t.l.map (printS d))).length + 2 ≤ 100000000) :
    Calls Tryz.prog 51 #[v, val] w fun e w' => ∃ v', e = .returned v' ∧ BRow w' B v' (acc ++ (91 :: commaS (t.l.map (printS d)) ++ [93])) ∧ Fr B w w' := by
  obtain ⟨a7, a8, c7, c8, rfl⟩ := hv.shape
  have HV := hidI hv
  have IH := hidI ih
  have H := hidI h
  have HG := hidI hG
  have HS := hidI hsm
  have l2 : t.l.length ≤ maxLen := by obtain ⟨ks, ls, e, h1, h2, h3, h4, h5⟩ := hv; exact h5.1
  unfold maxLen at l2
  clear hv ih h hG hsm
  have hB1 : B ≤ (w.alloc (.cells #[.int .i64 t.kind, .int .i64 t.n, .string ⟨t.s.toArray⟩, .slice a7 t.keys.length c7, .slice a8 t.l.length c8] 25)).heap.size := by simp; omega
  go_enter Tryz.func51, Tryz.ntmps51
  go_wp2_with (at_builtin; go_must (refine append_bytesG rfl _ _ rfl B v acc [91] _ (by rfl) 1 rfl rfl (w.heap.size + 1) (by simp) rfl (by exact H.out.alloc _) hB1 (by omega) (by decide) ?_); intro v4 w4 hown4 hgrow4; refine Hid.out ?_)
  refine hidI ?_
  have q4 := (hgrow4.box (g := w.heap.size) (heap_alloc_new w _)).c.2.2.2.2.1
  have D := hidI (And.intro hown4 ((fr_alloc w B _ hB).trans hgrow4))
  clear hown4 hgrow4
  go_wp2_with fail
  go_loopg [0, 13] t.l.length (fun gk u i wr => ∃ (k : Nat), k ≤ t.l.length ∧ gk = t.l.length - k ∧ i = .int .i64 k ∧ BRow wr B u (acc ++ [91] ++ commaS ((t.l.map (printS d)).take k)) ∧ Fr B w wr)
  case atStart => exact ⟨0, Nat.zero_le _, rfl, rfl, by simpa [commaS] using D.out.1, D.out.2⟩
  case round =>
    obtain ⟨k, hk, hgk, rfl, hrow, hbel⟩ := hrel
    have A := hidI (And.intro hrow hbel)
    have hBr : B ≤ wr.heap.size := Nat.le_trans hB hbel.size
    clear hrow hbel q4
    by_cases hlt : k < t.l.length
    · have hvr := HV.out.fr A.out.2
      have hxm : (t.l.map (printS d))[k]? = some (printS d t.l[k]) := by rw [List.getElem?_map, List.getElem?_eq_getElem hlt]; rfl
      have hpl := part_len hxm
      have HX := hidI hxm
      clear hxm
      obtain ⟨ks, ls, e, -, -, -, -, h5⟩ := hvr
      simp only [Value.agg.injEq, Array.mk.injEq, List.cons.injEq, and_true] at e
      obtain ⟨-, -, -, -, rfl⟩ := e
      obtain ⟨_, h5⟩ := h5
      rcases h5 with ⟨e, _⟩ | ⟨b, off, c, hls, hc1, hc2, hcs⟩
      · rw [e] at hlt; simp at hlt
      simp only [Value.slice.injEq] at hls
      obtain ⟨rfl, -, rfl⟩ := hls
      obtain ⟨v0, v1, v2, v3, v4', g', g0, g1, g2, g3, g4, g5⟩ := hcs k t.l[k] (List.getElem?_eq_getElem hlt)
      have G5 := hidI g5
      obtain ⟨rfl, rfl, rfl, ⟨a5, c5, rfl⟩, ⟨a6, c6, rfl⟩⟩ := g5.agg
      clear hcs g5
      unfold maxLen at hc2
      have hsx : Hid (SmallV d t.l[k]) := HS.out.2.2.2 _ (List.getElem_mem hlt)
      have hBr1 : ∀ o, B ≤ (wr.alloc o).heap.size := fun o => by simp; omega
      by_cases hk0 : k = 0
      · subst hk0
        simp only [Nat.zero_mul, Nat.add_zero] at g0 g1 g2 g3 g4
        go_wp2_with fail
        refine (IH.out _ B u0 (acc ++ [91] ++ commaS ((t.l.map (printS d)).take 0)) t.l[0] _ (by exact G5.out.fr (fr_alloc _ _ _ hBr)) hsx.out (by exact A.out.1.alloc _) (by exact hBr1 _) (by exact HG.out.fr (A.out.2.trans (fr_alloc _ _ _ hBr)) hgB) hgB ?_).mono ?_
        · simp only [if_true] at hpl
          simp only [List.length_append, List.length_cons, List.length_nil]; omega
        rintro e w5 ⟨v5, rfl, hrow5, hbel5⟩
        have D5 := hidI (And.intro hrow5 hbel5)
        clear hrow5 hbel5
        go_wp2_with fail
        go_roundg (t.l.length - 1)
        case measure => omega
        case rel => exact ⟨1, hlt, rfl, by go_num, by rw [take_step HX.out, commaS_snoc]; simpa [commaS] using D5.out.1, A.out.2.trans ((fr_alloc _ _ _ hBr).trans D5.out.2)⟩
      · have hk1 : 0 < (k : Int) := by omega
        have h9 : Hid ((t.l.map (printS d)).take k ≠ []) := by
          intro e; have := congrArg List.length e; simp only [List.length_take, List.length_map, List.length_nil] at this; omega
        have hl9 : (acc ++ [91] ++ commaS ((t.l.map (printS d)).take k)).length ≤ 1000000000 := by
          simp only [List.length_append, List.length_cons, List.length_nil]; omega
        go_wp2_with (at_builtin; go_must (refine append_bytesG rfl _ _ rfl B u0 _ [44] _ (by rfl) 1 rfl rfl (wr.heap.size + 1) (by simp) rfl (by exact A.out.1.alloc _) (hBr1 _) hl9 (by decide) ?_); intro v6 w6 hown6 hgrow6; refine Hid.out ?_)
        refine hidI ?_
        obtain ⟨p0, p1, p2, p3, p4, -⟩ := (hgrow6.box (g := wr.heap.size) (heap_alloc_new wr _)).c
        have D6 := hidI (And.intro hown6 ((fr_alloc wr B _ hBr).trans hgrow6))
        have hB6 : B ≤ w6.heap.size := Nat.le_trans hBr D6.out.2.size
        clear hown6 hgrow6
        go_wp2_with fail
        refine (IH.out _ B v6 (acc ++ [91] ++ commaS ((t.l.map (printS d)).take k) ++ [44]) t.l[k] _ (by exact G5.out.fr D6.out.2) hsx.out (by exact D6.out.1) hB6 (by exact HG.out.fr (A.out.2.trans D6.out.2) hgB) hgB ?_).mono ?_
        · simp only [if_neg hk0] at hpl
          simp only [List.length_append, List.length_cons, List.length_nil]; omega
        rintro e w5 ⟨v5, rfl, hrow5, hbel5⟩
        have D5 := hidI (And.intro hrow5 hbel5)
        clear hrow5 hbel5
        go_wp2_with fail
        go_roundg (t.l.length - (k + 1))
        case measure => omega
        case rel => exact ⟨k + 1, hlt, rfl, by go_num, by rw [take_step HX.out, commaS_snoc, if_neg h9.out]; simpa using D5.out.1, A.out.2.trans (D6.out.2.trans D5.out.2)⟩
    · have hke : k = t.l.length := by omega
      subst hke
      have htk : Hid ((t.l.map (printS d)).take t.l.length = t.l.map (printS d)) := hidI (List.take_of_length_le (by simp))
      have hl9 : (acc ++ [91] ++ commaS ((t.l.map (printS d)).take t.l.length)).length ≤ 1000000000 := by
        rw [htk.out]; simp only [List.length_append, List.length_cons, List.length_nil]; omega
      go_wp2_with (at_builtin; go_must (refine append_bytes rfl _ _ rfl B u0 _ [93] _ (by rfl) 1 rfl rfl rfl A.out.1 hBr hl9 (by decide) ?_); intro v5 w5 hown5 hgrow5; refine Hid.out ?_)
      refine hidI ?_
      have D5 := hidI (And.intro hown5 hgrow5)
      clear hown5 hgrow5
      go_wp2_with fail
      go_ret
      have h8 := D5.out.1
      rw [htk.out] at h8
      exact ⟨v5, rfl, by simpa using h8, A.out.2.trans D5.out.2⟩
end Go.Proofs.YtfbddgpekbhpfacGreatDoor
