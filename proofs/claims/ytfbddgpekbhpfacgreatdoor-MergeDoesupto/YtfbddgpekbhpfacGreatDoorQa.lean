/- What appendByte and AppendBool do: bytes behind a row that the call has made. -/
import Derived.Test.YtfbddgpekbhpfacGreatDoorPa
import Derived.Test.YtfbddgpekbhpfacGreatDoorShelf
import Derived.Lib.AppendStr
import Derived.Lib.AppendIntMem
import Derived.Lib.BufferKept
import Derived.Deep.RegionLaw
set_option linter.unusedSimpArgs false
set_option linter.unusedVariables false
namespace Go.Proofs.YtfbddgpekbhpfacGreatDoor
open Go.RowKit

/- A row of bytes, in a block from B on, or none. -/
def BRow (w : World) (B : Nat) (v : Value) (acc : List UInt8) : Prop := w.ownsRow B 5 1 v acc.length (Lib.byteCells acc)
theorem BRow.nil (w : World) (B : Nat) : BRow w B (.slice none 0 0) [] := World.ownsRow_nil _ _ _ _
theorem BRow.drewN {w : World} {B : Nat} {v : Value} {acc : List UInt8} (h : BRow w B v acc) (n : Nat) : BRow (w.drewN n) B v acc := h
theorem BRow.alloc {w : World} {B : Nat} {v : Value} {acc : List UInt8} (h : BRow w B v acc) (o : Obj) : BRow (w.alloc o) B v acc := World.ownsRow.alloc h o
/- Nothing changes below B, and above it nothing but rows of bytes. -/
def Fr (B : Nat) (w w' : World) : Prop := Below B w w' ∧ Lib.OthersKept 5 none w w'
theorem Fr.refl (B : Nat) (w : World) : Fr B w w := ⟨Below.refl B w, Lib.OthersKept.refl _ _ _⟩
theorem Fr.trans {B : Nat} {a w w' : World} (h : Fr B a w) (k : Fr B w w') : Fr B a w' := ⟨h.1.trans k.1, h.2.trans k.2⟩
theorem Fr.size {B : Nat} {w w' : World} (h : Fr B w w') : w.heap.size ≤ w'.heap.size := h.1.size
theorem fr_own {w w' : World} {B : Nat} {v : Value} {acc : List UInt8} (h : BRow w B v acc) (hg : w.grownBy w' v.ownBlock) (hB : B ≤ w.heap.size) : Fr B w w' := by
  refine ⟨⟨hg.os, hg.tape, hg.output, hg.size, fun k hk => hg.block k (by omega) (fun e => by have := (World.ownsRow.lt h k e.symm).1; omega)⟩, ?_⟩
  intro k o ho _ hno
  have hk : k < w.heap.size := (Array.getElem?_eq_some_iff.1 ho).1
  refine (hg.block k hk ?_).trans ho
  intro e
  rcases h.2 with ⟨hv, -⟩ | ⟨g, cap, cur, hv, -, hh, -⟩
  · subst hv; simp [Value.ownBlock] at e
  · subst hv
    simp only [Value.ownBlock, Option.some.injEq] at e
    subst e
    rw [hh] at ho
    cases ho
    exact hno _ _ rfl
theorem fr_alloc (w : World) (B : Nat) (o : Obj) (hB : B ≤ w.heap.size) : Fr B w (w.alloc o) := ⟨(Below.refl B w).alloc hB o, (Lib.OthersKept.refl _ _ _).alloc o⟩
theorem fr_drewN (w : World) (B n : Nat) : Fr B w (w.drewN n) := ⟨⟨rfl, rfl, rfl, Nat.le_refl _, fun _ _ => rfl⟩, (Lib.OthersKept.refl _ _ _).drewN n⟩
theorem Fr.box {B : Nat} {w w' : World} (h : Fr B w w') {g : Nat} {c0 c1 c2 c3 c4 : Value} (hb : BoxIs w g c0 c1 c2 c3 c4) : BoxIs w' g c0 c1 c2 c3 c4 :=
  h.2 g _ hb (by simp) (by intro c fz e; simp at e)
theorem cells_append (acc news : List UInt8) : Lib.byteCells acc ++ Lib.byteCells news = Lib.byteCells (acc ++ news) := by simp [Lib.byteCells]
theorem cells_one (news : List UInt8) : ∀ u ∈ Lib.byteCells news, u.oneCell' = true := by
  intro u hu
  simp only [Lib.byteCells, List.mem_map] at hu
  obtain ⟨c, -, rfl⟩ := hu
  rfl
theorem cells_len (news : List UInt8) : (Lib.byteCells news).length = news.length := by simp [Lib.byteCells]

theorem wp_bytes {w : World} {o : Oper} {a : Act} {K : Act → World → Prop} {Q : Exit → Act → World → Prop} (s x : Operand)
    (ho : o.op = .call { callee := .builtin .append, args := #[s, x], argTypes := #[50, 50] }) (B : Nat) (v : Value) (acc news : List UInt8) (cs : Array Value) (hcs : cs.toList = Lib.byteCells news) (m : Nat) (hm : m = news.length) (hs : a.eval s = v)
    (hx : a.eval x = .slice (some ⟨w.heap.size, 0, none⟩) m m) (hown : BRow w B v acc) (hB : B ≤ w.heap.size) (hl : acc.length ≤ 1000000000) (hn : m ≤ 1000)
    (hK : ∀ v' w', BRow w' B v' (acc ++ news) → Fr B w w' → K (a.put o.dst v') w') : o.wp Tryz.prog a (w.alloc (.cells cs 5)) K Q := by
  obtain ⟨i0, hi, hz0, hz1, hz2⟩ := info_parts infoByte
  refine wp_append_own _ s x 50 ho B 5 i0 (.int .u8 0) 1 1 Tryz.underlying50 hi hz0 hz1 hz2 rfl (by decide) v acc.length (Lib.byteCells acc) hs (World.ownsRow.alloc hown _) ⟨w.heap.size, 0, none⟩ m m (Lib.byteCells news) hx (by rw [cells_len, hm]; simp)
    ?_ (cells_one news) (by unfold maxLen; omega) (by omega) (by simp; omega) ?_
  · intro j u hj
    rw [← hcs] at hj
    rw [addr_add]
    simp only [World.cell?, heap_alloc_new, Nat.zero_add]
    simpa using hj
  · intro v' w' h1 h2 _
    rw [cells_append, hm, ← List.length_append] at h1
    exact hK v' w' h1 ((fr_alloc w B _ hB).trans (fr_own (BRow.alloc hown _) h2 (by simp; omega)))
theorem step_bytes {w : World} {ops : Array Oper} {o : Oper} {a : Act} {K : Act → World → Prop} {Q : Exit → Act → World → Prop} {E : Prop} (hgd : o.guard = none) (s x : Operand)
    (ho : o.op = .call { callee := .builtin .append, args := #[s, x], argTypes := #[50, 50] }) (B : Nat) (v : Value) (acc news : List UInt8) (cs : Array Value) (hcs : cs.toList = Lib.byteCells news) (m : Nat) (hm : m = news.length) (hs : a.eval s = v)
    (hx : a.eval x = .slice (some ⟨w.heap.size, 0, none⟩) m m) (hown : BRow w B v acc) (hB : B ≤ w.heap.size) (hl : acc.length ≤ 1000000000) (hn : m ≤ 1000)
    (hK : ∀ v' w', BRow w' B v' (acc ++ news) → Fr B w w' → K (a.put o.dst v') w') : if Region.wanted o (yielded ops a.tmps) = true then Oper.wp Tryz.prog o a (w.alloc (.cells cs 5)) K Q else E := by
  have hw : Region.wanted o (yielded ops a.tmps) = true := by simp [Region.wanted, hgd]
  rw [if_pos hw]
  exact wp_bytes s x ho B v acc news cs hcs m hm hs hx hown hB hl hn hK
theorem append_bytes {w : World} {ops : Array Oper} {rest : List Oper} {o : Oper} {a : Act} {Q : Exit → Act → World → Prop} (hgd : o.guard = none) (s x : Operand)
    (ho : o.op = .call { callee := .builtin .append, args := #[s, x], argTypes := #[50, 50] }) (B : Nat) (v : Value) (acc news : List UInt8) (cs : Array Value) (hcs : cs.toList = Lib.byteCells news) (m : Nat) (hm : m = news.length) (hs : a.eval s = v)
    (hx : a.eval x = .slice (some ⟨w.heap.size, 0, none⟩) m m) (hown : BRow w B v acc) (hB : B ≤ w.heap.size) (hl : acc.length ≤ 1000000000) (hn : m ≤ 1000)
    (hK : ∀ v' w', BRow w' B v' (acc ++ news) → Fr B w w' → wpList Tryz.prog ops Q rest (a.put o.dst v') w') : wpList Tryz.prog ops Q (o :: rest) a (w.alloc (.cells cs 5)) :=
  wpList_plain hgd fun _ hKK => wp_bytes s x ho B v acc news cs hcs m hm hs hx hown hB hl hn fun v' w' h2 h3 => hKK _ _ (hK v' w' h2 h3)
theorem append_text {w : World} {ops : Array Oper} {rest : List Oper} {o : Oper} {a : Act} {Q : Exit → Act → World → Prop} (hgd : o.guard = none) (s x : Operand)
    (ho : o.op = .call { callee := .builtin .append, args := #[s, x], argTypes := #[50, 9] }) (B : Nat) (v : Value) (acc news : List UInt8) (hs : a.eval s = v)
    (hx : a.eval x = .string ⟨news.toArray⟩) (hown : BRow w B v acc) (hB : B ≤ w.heap.size) (hl : acc.length ≤ 1000000000) (hn : news.length ≤ 1000)
    (hK : ∀ v' w', BRow w' B v' (acc ++ news) → Fr B w w' → wpList Tryz.prog ops Q rest (a.put o.dst v') w') : wpList Tryz.prog ops Q (o :: rest) a w := by
  obtain ⟨i0, hi, hz0, hz1, hz2⟩ := info_parts infoByte
  have he : (ByteArray.mk news.toArray).size = news.length := by simp [ByteArray.size]
  refine Lib.wpList_append_own_string w hgd s x 50 9 ho B 5 i0 Tryz.underlying50 Tryz.underlying9 hi hz0 hz1 hz2 v acc.length (Lib.byteCells acc) hs hown ⟨news.toArray⟩ hx (by unfold maxLen; omega) (by omega) hB ?_
  intro v' w' h1 h2 _
  rw [Lib.strCells_toArray, cells_append, he, ← List.length_append] at h1
  exact hK v' w' h1 (fr_own hown h2 hB)

def boolS (b : Bool) : List UInt8 := if b then [116, 114, 117, 101] else [102, 97, 108, 115, 101]

set_option maxRecDepth 100000 in
theorem appendBool_in (w : World) (B : Nat) (v : Value) (acc : List UInt8) (b : Bool) (h : BRow w B v acc) (hB : B ≤ w.heap.size) (hl : acc.length ≤ 1000000000) :
    Calls Tryz.prog 70 #[v, .bool b] w fun e w' => ∃ v', e = .returned v' ∧ BRow w' B v' (acc ++ boolS b) ∧ Fr B w w' := by
  have H := hidI h
  clear h
  cases b with
  | true =>
    go_enter Tryz.func70, Tryz.ntmps70
    go_wp2_with (at_builtin; go_must (refine append_text rfl _ _ rfl B v acc [116, 114, 117, 101] rfl rfl H.out hB hl (by decide) ?_); intro v4 w4 hown4 hgrow4; refine Hid.out ?_)
    refine hidI ?_
    have D := hidI (And.intro hown4 hgrow4)
    clear hown4 hgrow4
    go_wp2_with fail
    go_ret
    exact ⟨v4, rfl, D.out⟩
  | false =>
    go_enter Tryz.func70, Tryz.ntmps70
    go_wp2_with (at_builtin; go_must (refine append_text rfl _ _ rfl B v acc [102, 97, 108, 115, 101] rfl rfl H.out hB hl (by decide) ?_); intro v4 w4 hown4 hgrow4; refine Hid.out ?_)
    refine hidI ?_
    have D := hidI (And.intro hown4 hgrow4)
    clear hown4 hgrow4
    go_wp2_with fail
    go_ret
    exact ⟨v4, rfl, D.out⟩
set_option maxRecDepth 100000 in
theorem appendBool_at (w : World) (B : Nat) (v : Value) (acc : List UInt8) (b : Bool) (h : BRow w B v acc) (hB : B ≤ w.heap.size) (hl : acc.length ≤ 1000000000) :
    Calls Tryz.prog 48 #[v, .bool b] w fun e w' => ∃ v', e = .returned v' ∧ BRow w' B v' (acc ++ boolS b) ∧ Fr B w w' := by
  have H := hidI h
  clear h
  go_enter Tryz.func48, Tryz.ntmps48
  go_wp2_with (go_at_call 70; refine (appendBool_in _ B v acc b H.out hB hl).mono ?_; rintro e w1 ⟨v1, rfl, h1, hb1⟩)
  have D := hidI (And.intro h1 hb1)
  clear h1 hb1
  go_wp2_with fail
  go_ret
  exact ⟨v1, rfl, D.out⟩

def markedL : List UInt8 := [34, 92, 8, 12, 10, 13, 9]
def hexL : List UInt8 := [48, 49, 50, 51, 52, 53, 54, 55, 56, 57, 97, 98, 99, 100, 101, 102]
def hexd (n : Nat) : UInt8 := hexL.getD n 0
def byteS (c : UInt8) : List UInt8 :=
  if c = 34 then [92, 34] else if c = 92 then [92, 92] else if c = 8 then [92, 98] else if c = 12 then [92, 102] else if c = 10 then [92, 110] else if c = 13 then [92, 114] else if c = 9 then [92, 116]
  else if c.toNat < 32 ∨ c.toNat = 127 then [92, 117, 48, 48, hexd (c.toNat / 16), hexd (c.toNat % 16)] else [c]
theorem byteS_len (c : UInt8) : (byteS c).length ≤ 6 := by
  unfold byteS
  repeat' split
  all_goals simp

theorem byteS_marked (c : UInt8) (h : c ∈ markedL) : ∃ i : Nat, i < 7 ∧ Lib.indexByte markedL c = i ∧ ∃ d, ([34, 92, 98, 102, 110, 114, 116] : List UInt8)[i]? = some d ∧ byteS c = [92, d] := by
  simp only [markedL, List.mem_cons, List.not_mem_nil, or_false] at h
  rcases h with rfl | rfl | rfl | rfl | rfl | rfl | rfl
  · exact ⟨0, by decide, by decide, 34, rfl, by decide⟩
  · exact ⟨1, by decide, by decide, 92, rfl, by decide⟩
  · exact ⟨2, by decide, by decide, 98, rfl, by decide⟩
  · exact ⟨3, by decide, by decide, 102, rfl, by decide⟩
  · exact ⟨4, by decide, by decide, 110, rfl, by decide⟩
  · exact ⟨5, by decide, by decide, 114, rfl, by decide⟩
  · exact ⟨6, by decide, by decide, 116, rfl, by decide⟩
theorem idx_none (c : UInt8) : ∀ (l : List UInt8), c ∉ l → Lib.indexByte l c = -1
  | [], _ => rfl
  | x :: l, h => by
    have h1 : (x == c) = false := by rw [beq_eq_false_iff_ne]; rintro rfl; exact h (List.mem_cons_self ..)
    simp [Lib.indexByte, h1, idx_none c l fun hh => h (List.mem_cons_of_mem _ hh)]
theorem byteS_rest (c : UInt8) (h : c ∉ markedL) : byteS c = if c.toNat < 32 ∨ c.toNat = 127 then [92, 117, 48, 48, hexd (c.toNat / 16), hexd (c.toNat % 16)] else [c] := by
  simp only [markedL, List.mem_cons, List.not_mem_nil, or_false, not_or] at h
  obtain ⟨h1, h2, h3, h4, h5, h6, h7⟩ := h
  simp [byteS, h1, h2, h3, h4, h5, h6, h7]
end Go.Proofs.YtfbddgpekbhpfacGreatDoor
