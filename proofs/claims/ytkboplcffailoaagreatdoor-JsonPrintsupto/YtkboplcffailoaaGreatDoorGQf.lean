/- What Print of package json does. -/
import Derived.Test.YtkboplcffailoaaGreatDoorGPa
import Derived.Test.YtkboplcffailoaaGreatDoorShelf
import Derived.Lib.AppendStr
import Derived.Lib.AppendIntMem
import Derived.Lib.BufferKept
import Derived.Deep.RegionLaw
import Derived.Test.YtkboplcffailoaaGreatDoorUp
/- What appendByte and AppendBool do: bytes behind a row that the call has made. -/
set_option linter.unusedSimpArgs false
set_option linter.unusedVariables false
namespace Go.Proofs.YtkboplcffailoaaGreatDoor
open Go.RowKit

/- A row of bytes, in a block from B on, or none. -/
def BRow (w : World) (B : Nat) (v : Value) (acc : List UInt8) : Prop := w.ownsRow B 5 1 v acc.length (Lib.byteCells acc)
theorem BRow.nil (w : World) (B : Nat) : BRow w B (.slice none 0 0) [] := World.ownsRow_nil _ _ _ _
theorem BRow.drewN {w : World} {B : Nat} {v : Value} {acc : List UInt8} (h : BRow w B v acc) (n : Nat) : BRow (w.drewN n) B v acc := h
theorem BRow.alloc {w : World} {B : Nat} {v : Value} {acc : List UInt8} (h : BRow w B v acc) (o : Obj) : BRow (w.alloc o) B v acc := World.ownsRow.alloc h o
/- Nothing changes below B, and above it nothing but rows of bytes. -/
def Fr (B : Nat) (w w' : World) : Prop := Below B w w' ∧ Lib.OthersKept 5 none w w'
theorem Fr.refl (B : Nat) (w : World) : Fr B w w := ⟨Below.refl B w, Lib.OthersKept.refl _ _ _⟩
theorem Fr.trans {B : Nat} {a w w' : World} (h : Fr B a w) (k : Fr B w w') : Fr B a w' := ⟨h.1.trans k.1, h.2.trans k.2⟩
theorem Fr.size {B : Nat} {w w' : World} (h : Fr B w w') : w.heap.size ≤ w'.heap.size := h.1.size
theorem fr_own {w w' : World} {B : Nat} {v : Value} {acc : List UInt8} (h : BRow w B v acc) (hg : w.grownBy w' v.ownBlock) (hB : B ≤ w.heap.size) : Fr B w w' := by
  refine ⟨⟨hg.os, hg.tape, hg.output, hg.size, fun k hk => hg.block k (by omega) (fun e => by have := (World.ownsRow.lt h k e.symm).1; omega)⟩, ?_⟩
  intro k o ho _ hno
  have hk : k < w.heap.size := (Array.getElem?_eq_some_iff.1 ho).1
  refine (hg.block k hk ?_).trans ho
  intro e
  rcases h.2 with ⟨hv, -⟩ | ⟨g, cap, cur, hv, -, hh, -⟩
  · subst hv; simp [Value.ownBlock] at e
  · subst hv
    simp only [Value.ownBlock, Option.some.injEq] at e
    subst e
    rw [hh] at ho
    cases ho
    exact hno _ _ rfl
theorem fr_alloc (w : World) (B : Nat) (o : Obj) (hB : B ≤ w.heap.size) : Fr B w (w.alloc o) := ⟨(Below.refl B w).alloc hB o, (Lib.OthersKept.refl _ _ _).alloc o⟩
theorem fr_drewN (w : World) (B n : Nat) : Fr B w (w.drewN n) := ⟨⟨rfl, rfl, rfl, Nat.le_refl _, fun _ _ => rfl⟩, (Lib.OthersKept.refl _ _ _).drewN n⟩
theorem Fr.box {B : Nat} {w w' : World} (h : Fr B w w') {g : Nat} {c0 c1 c2 c3 c4 : Value} (hb : BoxIs w g c0 c1 c2 c3 c4) : BoxIs w' g c0 c1 c2 c3 c4 :=
  h.2 g _ hb (by simp) (by intro c fz e; simp at e)
theorem cells_append (acc news : List UInt8) : Lib.byteCells acc ++ Lib.byteCells news = Lib.byteCells (acc ++ news) := by simp [Lib.byteCells]
theorem cells_one (news : List UInt8) : ∀ u ∈ Lib.byteCells news, u.oneCell' = true := by
  intro u hu
  simp only [Lib.byteCells, List.mem_map] at hu
  obtain ⟨c, -, rfl⟩ := hu
  rfl
theorem cells_len (news : List UInt8) : (Lib.byteCells news).length = news.length := by simp [Lib.byteCells]

theorem wp_bytes {w : World} {o : Oper} {a : Act} {K : Act → World → Prop} {Q : Exit → Act → World → Prop} (s x : Operand)
    (ho : o.op = .call { callee := .builtin .append, args := #[s, x], argTypes := #[34, 34] }) (B : Nat) (v : Value) (acc news : List UInt8) (cs : Array Value) (hcs : cs.toList = Lib.byteCells news) (m : Nat) (hm : m = news.length) (hs : a.eval s = v)
    (hx : a.eval x = .slice (some ⟨w.heap.size, 0, none⟩) m m) (hown : BRow w B v acc) (hB : B ≤ w.heap.size) (hl : acc.length ≤ 1000000000) (hn : m ≤ 1000)
    (hK : ∀ v' w', BRow w' B v' (acc ++ news) → Fr B w w' → K (a.put o.dst v') w') : o.wp Tryz.prog a (w.alloc (.cells cs 5)) K Q := by
  obtain ⟨i0, hi, hz0, hz1, hz2⟩ := info_parts infoByte
  refine wp_append_own _ s x 34 ho B 5 i0 (.int .u8 0) 1 1 Tryz.underlying34 hi hz0 hz1 hz2 rfl (by decide) v acc.length (Lib.byteCells acc) hs (World.ownsRow.alloc hown _) ⟨w.heap.size, 0, none⟩ m m (Lib.byteCells news) hx (by rw [cells_len, hm]; simp)
    ?_ (cells_one news) (by unfold maxLen; omega) (by omega) (by simp; omega) ?_
  · intro j u hj
    rw [← hcs] at hj
    rw [addr_add]
    simp only [World.cell?, heap_alloc_new, Nat.zero_add]
    simpa using hj
  · intro v' w' h1 h2 _
    rw [cells_append, hm, ← List.length_append] at h1
    exact hK v' w' h1 ((fr_alloc w B _ hB).trans (fr_own (BRow.alloc hown _) h2 (by simp; omega)))
theorem step_bytes {w : World} {ops : Array Oper} {o : Oper} {a : Act} {K : Act → World → Prop} {Q : Exit → Act → World → Prop} {E : Prop} (hgd : o.guard = none) (s x : Operand)
    (ho : o.op = .call { callee := .builtin .append, args := #[s, x], argTypes := #[34, 34] }) (B : Nat) (v : Value) (acc news : List UInt8) (cs : Array Value) (hcs : cs.toList = Lib.byteCells news) (m : Nat) (hm : m = news.length) (hs : a.eval s = v)
    (hx : a.eval x = .slice (some ⟨w.heap.size, 0, none⟩) m m) (hown : BRow w B v acc) (hB : B ≤ w.heap.size) (hl : acc.length ≤ 1000000000) (hn : m ≤ 1000)
    (hK : ∀ v' w', BRow w' B v' (acc ++ news) → Fr B w w' → K (a.put o.dst v') w') : if Region.wanted o (yielded ops a.tmps) = true then Oper.wp Tryz.prog o a (w.alloc (.cells cs 5)) K Q else E := by
  have hw : Region.wanted o (yielded ops a.tmps) = true := by simp [Region.wanted, hgd]
  rw [if_pos hw]
  exact wp_bytes s x ho B v acc news cs hcs m hm hs hx hown hB hl hn hK
theorem append_bytes {w : World} {ops : Array Oper} {rest : List Oper} {o : Oper} {a : Act} {Q : Exit → Act → World → Prop} (hgd : o.guard = none) (s x : Operand)
    (ho : o.op = .call { callee := .builtin .append, args := #[s, x], argTypes := #[34, 34] }) (B : Nat) (v : Value) (acc news : List UInt8) (cs : Array Value) (hcs : cs.toList = Lib.byteCells news) (m : Nat) (hm : m = news.length) (hs : a.eval s = v)
    (hx : a.eval x = .slice (some ⟨w.heap.size, 0, none⟩) m m) (hown : BRow w B v acc) (hB : B ≤ w.heap.size) (hl : acc.length ≤ 1000000000) (hn : m ≤ 1000)
    (hK : ∀ v' w', BRow w' B v' (acc ++ news) → Fr B w w' → wpList Tryz.prog ops Q rest (a.put o.dst v') w') : wpList Tryz.prog ops Q (o :: rest) a (w.alloc (.cells cs 5)) :=
  wpList_plain hgd fun _ hKK => wp_bytes s x ho B v acc news cs hcs m hm hs hx hown hB hl hn fun v' w' h2 h3 => hKK _ _ (hK v' w' h2 h3)
theorem append_text {w : World} {ops : Array Oper} {rest : List Oper} {o : Oper} {a : Act} {Q : Exit → Act → World → Prop} (hgd : o.guard = none) (s x : Operand)
    (ho : o.op = .call { callee := .builtin .append, args := #[s, x], argTypes := #[34, 9] }) (B : Nat) (v : Value) (acc news : List UInt8) (hs : a.eval s = v)
    (hx : a.eval x = .string ⟨news.toArray⟩) (hown : BRow w B v acc) (hB : B ≤ w.heap.size) (hl : acc.length ≤ 1000000000) (hn : news.length ≤ 1000)
    (hK : ∀ v' w', BRow w' B v' (acc ++ news) → Fr B w w' → wpList Tryz.prog ops Q rest (a.put o.dst v') w') : wpList Tryz.prog ops Q (o :: rest) a w := by
  obtain ⟨i0, hi, hz0, hz1, hz2⟩ := info_parts infoByte
  have he : (ByteArray.mk news.toArray).size = news.length := by simp [ByteArray.size]
  refine Lib.wpList_append_own_string w hgd s x 34 9 ho B 5 i0 Tryz.underlying34 Tryz.underlying9 hi hz0 hz1 hz2 v acc.length (Lib.byteCells acc) hs hown ⟨news.toArray⟩ hx (by unfold maxLen; omega) (by omega) hB ?_
  intro v' w' h1 h2 _
  rw [Lib.strCells_toArray, cells_append, he, ← List.length_append] at h1
  exact hK v' w' h1 (fr_own hown h2 hB)

def boolS (b : Bool) : List UInt8 := if b then [116, 114, 117, 101] else [102, 97, 108, 115, 101]

set_option maxRecDepth 100000 in
theorem appendBool_in (w : World) (B : Nat) (v : Value) (acc : List UInt8) (b : Bool) (h : BRow w B v acc) (hB : B ≤ w.heap.size) (hl : acc.length ≤ 1000000000) :
    Calls Tryz.prog 31 #[v, .bool b] w fun e w' => ∃ v', e = .returned v' ∧ BRow w' B v' (acc ++ boolS b) ∧ Fr B w w' := by
  have H := hidI h
  clear h
  cases b with
  | true =>
    go_enter Tryz.func31, Tryz.ntmps31
    go_wp2_with (at_builtin; go_must (refine append_text rfl _ _ rfl B v acc [116, 114, 117, 101] rfl rfl H.out hB hl (by decide) ?_); intro v4 w4 hown4 hgrow4; refine Hid.out ?_)
    refine hidI ?_
    have D := hidI (And.intro hown4 hgrow4)
    clear hown4 hgrow4
    go_wp2_with fail
    go_ret
    exact ⟨v4, rfl, D.out⟩
  | false =>
    go_enter Tryz.func31, Tryz.ntmps31
    go_wp2_with (at_builtin; go_must (refine append_text rfl _ _ rfl B v acc [102, 97, 108, 115, 101] rfl rfl H.out hB hl (by decide) ?_); intro v4 w4 hown4 hgrow4; refine Hid.out ?_)
    refine hidI ?_
    have D := hidI (And.intro hown4 hgrow4)
    clear hown4 hgrow4
    go_wp2_with fail
    go_ret
    exact ⟨v4, rfl, D.out⟩
set_option maxRecDepth 100000 in
theorem appendBool_at (w : World) (B : Nat) (v : Value) (acc : List UInt8) (b : Bool) (h : BRow w B v acc) (hB : B ≤ w.heap.size) (hl : acc.length ≤ 1000000000) :
    Calls Tryz.prog 19 #[v, .bool b] w fun e w' => ∃ v', e = .returned v' ∧ BRow w' B v' (acc ++ boolS b) ∧ Fr B w w' := by
  have H := hidI h
  clear h
  go_enter Tryz.func19, Tryz.ntmps19
  go_wp2_with (go_at_call 31; refine (appendBool_in _ B v acc b H.out hB hl).mono ?_; rintro e w1 ⟨v1, rfl, h1, hb1⟩)
  have D := hidI (And.intro h1 hb1)
  clear h1 hb1
  go_wp2_with fail
  go_ret
  exact ⟨v1, rfl, D.out⟩

def markedL : List UInt8 := [34, 92, 8, 12, 10, 13, 9]
def hexL : List UInt8 := [48, 49, 50, 51, 52, 53, 54, 55, 56, 57, 97, 98, 99, 100, 101, 102]
def hexd (n : Nat) : UInt8 := hexL.getD n 0
def byteS (c : UInt8) : List UInt8 :=
  if c = 34 then [92, 34] else if c = 92 then [92, 92] else if c = 8 then [92, 98] else if c = 12 then [92, 102] else if c = 10 then [92, 110] else if c = 13 then [92, 114] else if c = 9 then [92, 116]
  else if c.toNat < 32 ∨ c.toNat = 127 then [92, 117, 48, 48, hexd (c.toNat / 16), hexd (c.toNat % 16)] else [c]
theorem byteS_len (c : UInt8) : (byteS c).length ≤ 6 := by
  unfold byteS
  repeat' split
  all_goals simp

theorem byteS_marked (c : UInt8) (h : c ∈ markedL) : ∃ i : Nat, i < 7 ∧ Lib.indexByte markedL c = i ∧ ∃ d, ([34, 92, 98, 102, 110, 114, 116] : List UInt8)[i]? = some d ∧ byteS c = [92, d] := by
  simp only [markedL, List.mem_cons, List.not_mem_nil, or_false] at h
  rcases h with rfl | rfl | rfl | rfl | rfl | rfl | rfl
  · exact ⟨0, by decide, by decide, 34, rfl, by decide⟩
  · exact ⟨1, by decide, by decide, 92, rfl, by decide⟩
  · exact ⟨2, by decide, by decide, 98, rfl, by decide⟩
  · exact ⟨3, by decide, by decide, 102, rfl, by decide⟩
  · exact ⟨4, by decide, by decide, 110, rfl, by decide⟩
  · exact ⟨5, by decide, by decide, 114, rfl, by decide⟩
  · exact ⟨6, by decide, by decide, 116, rfl, by decide⟩
theorem idx_none (c : UInt8) : ∀ (l : List UInt8), c ∉ l → Lib.indexByte l c = -1
  | [], _ => rfl
  | x :: l, h => by
    have h1 : (x == c) = false := by rw [beq_eq_false_iff_ne]; rintro rfl; exact h (List.mem_cons_self ..)
    simp [Lib.indexByte, h1, idx_none c l fun hh => h (List.mem_cons_of_mem _ hh)]
theorem byteS_rest (c : UInt8) (h : c ∉ markedL) : byteS c = if c.toNat < 32 ∨ c.toNat = 127 then [92, 117, 48, 48, hexd (c.toNat / 16), hexd (c.toNat % 16)] else [c] := by
  simp only [markedL, List.mem_cons, List.not_mem_nil, or_false, not_or] at h
  obtain ⟨h1, h2, h3, h4, h5, h6, h7⟩ := h
  simp [byteS, h1, h2, h3, h4, h5, h6, h7]
end Go.Proofs.YtkboplcffailoaaGreatDoor

/- What appendByte and appendQuoted of package json do. -/
set_option linter.unusedSimpArgs false
set_option linter.unusedVariables false
namespace Go.Proofs.YtkboplcffailoaaGreatDoor
open Go.RowKit

theorem ba_get {l : List UInt8} {i : Nat} {d : UInt8} (hd : l[i]? = some d) (h : i < (ByteArray.mk l.toArray).size) : (ByteArray.mk l.toArray)[i] = d := by
  obtain ⟨h1, h2⟩ := List.getElem?_eq_some_iff.1 hd
  rw [← h2]; rfl

theorem step_bytesD {w : World} {ops : Array Oper} {o : Oper} {a : Act} {K : Act → World → Prop} {Q : Exit → Act → World → Prop} {E : Prop} (hgd : o.guard = none) (s x : Operand)
    (ho : o.op = .call { callee := .builtin .append, args := #[s, x], argTypes := #[34, 34] }) (B : Nat) (v : Value) (acc news : List UInt8) (cs : Array Value) (hcs : cs.toList = Lib.byteCells news) (m : Nat) (hm : m = news.length) (hs : a.eval s = v)
    (hx : a.eval x = .slice (some ⟨w.heap.size, 0, none⟩) m m) (hown : BRow w B v acc) (hB : B ≤ w.heap.size) (hl : acc.length ≤ 1000000000) (hn : m ≤ 1000)
    (hK : ∀ v' w', BRow w' B v' (acc ++ news) → Fr B w w' → K (a.put o.dst v') w') : if Region.wanted o (yielded ops a.tmps) = true then Oper.wp Tryz.prog o a (w.alloc (.cells cs 5)).drew K Q else E :=
  step_bytes (w := w.drew) hgd s x ho B v acc news cs hcs m hm hs hx hown hB hl hn fun v' w' h1 h2 => hK v' w' h1 ⟨⟨h2.1.os, h2.1.tape, h2.1.output, h2.1.size, h2.1.block⟩, h2.2⟩

set_option maxRecDepth 100000 in
set_option maxHeartbeats 2000000 in
theorem appendByte_at (w : World) (B : Nat) (v : Value) (acc : List UInt8) (c : UInt8) (h : BRow w B v acc) (hB : B ≤ w.heap.size) (hl : acc.length ≤ 1000000000) :
    Calls Tryz.prog 33 #[v, .int .u8 c.toNat] w fun e w' => ∃ v', e = .returned v' ∧ BRow w' B v' (acc ++ byteS c) ∧ Fr B w w' := by
  have H := hidI h
  clear h
  have hc : ((c.toNat : Int).toNat).toUInt8 = c := by simp
  by_cases hm : c ∈ markedL
  · obtain ⟨i, hi, e1, d, hd, e2⟩ := byteS_marked c hm
    have E2 := hidI e2
    clear e2 hm
    have e1' : Lib.indexByte (ByteArray.mk #[34, 92, 8, 12, 10, 13, 9]).data.toList ((c.toNat : Int).toNat).toUInt8 = i := by rw [hc]; exact e1
    have hi7 : i < (ByteArray.mk #[34, 92, 98, 102, 110, 114, 116]).size := hi
    have hd' := ba_get hd hi7
    clear hd e1
    go_enter Tryz.func33, Tryz.ntmps33
    go_wp2_with fail
    refine (Tryz.strings_IndexByte _ _ _).mono ?_
    rintro e w1 ⟨rfl, rfl⟩
    rw [e1']
    clear e1'
    go_wp2_with (at_builtin; go_must (refine append_bytes rfl _ _ rfl B v acc [92, d] _ (by simp [Lib.byteCells, hd']) 2 rfl rfl rfl H.out hB hl (by decide) ?_); intro v4 w4 hown4 hgrow4; refine Hid.out ?_)
    refine hidI ?_
    have D := hidI (And.intro hown4 hgrow4)
    clear hown4 hgrow4
    go_wp2_with fail
    go_ret
    exact ⟨v4, rfl, by rw [E2.out]; exact D.out.1, D.out.2⟩
  · have e1' : Lib.indexByte (ByteArray.mk #[34, 92, 8, 12, 10, 13, 9]).data.toList ((c.toNat : Int).toNat).toUInt8 = -1 := by rw [hc]; exact idx_none c _ hm
    have E2 := hidI (byteS_rest c hm)
    clear hm
    have hlt : c.toNat < 256 := c.toNat_lt
    have fin : Hid (∀ (w' : World) (v' : Value) (news : List UInt8), (c.toNat < 32 ∨ c.toNat = 127) → news = [92, 117, 48, 48, hexd (c.toNat / 16), hexd (c.toNat % 16)] → BRow w' B v' (acc ++ news) → BRow w' B v' (acc ++ byteS c)) := fun w' v' news h1 h2 h3 => by rw [E2.out, if_pos h1, ← h2]; exact h3
    obtain ⟨q, hq⟩ : ∃ q, q = c.toNat / 16 := ⟨_, rfl⟩
    obtain ⟨r, hr⟩ : ∃ r, r = c.toNat % 16 := ⟨_, rfl⟩
    have q1 : IntKind.u8.wrap ((c.toNat : Int) / 16) = (q : Int) := by
      rw [hq]
      simp only [IntKind.wrap, IntKind.signed, IntKind.bits]
      simp
      omega
    have r1 : ((c.toNat : Int)).tmod 16 = (r : Int) := by rw [hr, Int.tmod_eq_emod_of_nonneg (by omega)]; omega
    have q6 : IntKind.u8.wrap (q : Int) = (q : Int) := by
      simp only [IntKind.wrap, IntKind.signed, IntKind.bits]
      simp
      omega
    have q5 : (c.toNat : Int) / 16 = (q : Int) := by omega
    have r5 : (c.toNat : Int) % 16 = (r : Int) := by omega
    have q2 : (q : Int) < 16 := by omega
    have r2 : (r : Int) < 16 := by omega
    have q3 : q < (ByteArray.mk #[48, 49, 50, 51, 52, 53, 54, 55, 56, 57, 97, 98, 99, 100, 101, 102]).size := by show q < 16; omega
    have r3 : r < (ByteArray.mk #[48, 49, 50, 51, 52, 53, 54, 55, 56, 57, 97, 98, 99, 100, 101, 102]).size := by show r < 16; omega
    have q4 : (ByteArray.mk #[48, 49, 50, 51, 52, 53, 54, 55, 56, 57, 97, 98, 99, 100, 101, 102])[q] = hexd q := ba_get (l := hexL) (by unfold hexd; rw [List.getD_eq_getElem?_getD, List.getElem?_eq_getElem (show q < hexL.length from q3)]; rfl) q3
    have r4 : (ByteArray.mk #[48, 49, 50, 51, 52, 53, 54, 55, 56, 57, 97, 98, 99, 100, 101, 102])[r] = hexd r := ba_get (l := hexL) (by unfold hexd; rw [List.getD_eq_getElem?_getD, List.getElem?_eq_getElem (show r < hexL.length from r3)]; rfl) r3
    have HQ := hidI hq
    have HR := hidI hr
    clear hq hr
    by_cases h2 : c.toNat < 32
    · have g1 : (c.toNat : Int) < 32 := by omega
      go_enter Tryz.func33, Tryz.ntmps33
      go_wp2_with fail
      refine (Tryz.strings_IndexByte _ _ _).mono ?_
      rintro e w1 ⟨rfl, rfl⟩
      rw [e1']
      clear e1'
      go_wp2_with fail
      go_region_law ((first | (refine step_bytesD (by rfl) _ _ (by rfl) B v acc [92, 117, 48, 48, hexd q, hexd r] _ (by simp [Lib.byteCells, q4, r4]) 6 (by rfl) (by rfl) (by rfl) (by exact H.out) (by exact hB) hl (by decide) ?_; intro v4 w4 hown4 hgrow4) | fail))
      all_goals
        have D := hidI (And.intro hown4 hgrow4)
        clear hown4 hgrow4
        go_wp2_with fail
        go_ret
        exact ⟨v4, rfl, fin.out _ _ _ (.inl h2) (by rw [HQ.out, HR.out]) D.out.1, D.out.2⟩
    · have g1 : ¬ (c.toNat : Int) < 32 := by omega
      by_cases h3 : c.toNat = 127
      · have hc127 : c = 127 := UInt8.toNat_inj.1 h3
        subst hc127
        clear fin HQ HR q1 r1 q2 r2 q3 r3 q4 r4 q5 q6 r5 e1' E2 hlt g1 h2 h3 hc
        show Calls Tryz.prog 33 #[v, .int .u8 127] w _
        have w7 : IntKind.u8.wrap 7 = 7 := by decide
        have x7 : (ByteArray.mk #[48, 49, 50, 51, 52, 53, 54, 55, 56, 57, 97, 98, 99, 100, 101, 102])[7]'(by decide) = 55 := ba_get (l := hexL) rfl _
        have x15 : (ByteArray.mk #[48, 49, 50, 51, 52, 53, 54, 55, 56, 57, 97, 98, 99, 100, 101, 102])[15]'(by decide) = 102 := ba_get (l := hexL) rfl _
        go_enter Tryz.func33, Tryz.ntmps33
        go_wp2_with fail
        refine (Tryz.strings_IndexByte _ _ _).mono ?_
        rintro e w1 ⟨rfl, rfl⟩
        rw [show Lib.indexByte (ByteArray.mk #[34, 92, 8, 12, 10, 13, 9]).data.toList (Int.toNat 127).toUInt8 = -1 from by decide]
        go_wp2_with fail
        go_region_law ((first | (refine step_bytesD (by rfl) _ _ (by rfl) B v acc [92, 117, 48, 48, 55, 102] _ (by simp [Lib.byteCells, x7, x15]) 6 (by rfl) (by rfl) (by rfl) (by exact H.out) (by exact hB) hl (by decide) ?_; intro v4 w4 hown4 hgrow4) | fail))
        all_goals
          have D := hidI (And.intro hown4 hgrow4)
          clear hown4 hgrow4
          go_wp2_with fail
          go_ret
          exact ⟨v4, rfl, D.out.1, D.out.2⟩
      · have g2 : ((c.toNat : Int) == 127) = false := by rw [beq_eq_false_iff_ne]; omega
        go_enter Tryz.func33, Tryz.ntmps33
        go_wp2_with fail
        refine (Tryz.strings_IndexByte _ _ _).mono ?_
        rintro e w1 ⟨rfl, rfl⟩
        rw [e1']
        clear e1'
        go_wp2_with (at_builtin; go_must (refine append_bytes rfl _ _ rfl B v acc [c] _ (by simp [Lib.byteCells]) 1 rfl rfl rfl H.out hB hl (by decide) ?_); intro v4 w4 hown4 hgrow4; refine Hid.out ?_)
        refine hidI ?_
        have D := hidI (And.intro hown4 hgrow4)
        clear hown4 hgrow4
        go_wp2_with fail
        go_ret
        exact ⟨v4, rfl, by rw [E2.out, if_neg (by omega)]; exact D.out.1, D.out.2⟩

def quoteS (s : List UInt8) : List UInt8 := 34 :: s.flatMap byteS ++ [34]
theorem flat_len (s : List UInt8) : (s.flatMap byteS).length ≤ 6 * s.length := by
  induction s with
  | nil => simp
  | cons c s ih => have := byteS_len c; simp only [List.flatMap_cons, List.length_append, List.length_cons]; omega
theorem take_step {α : Type} {l : List α} {k : Nat} {x : α} (h : l[k]? = some x) : l.take (k + 1) = l.take k ++ [x] := by
  rw [List.take_add_one, h]; rfl

set_option maxRecDepth 100000 in
set_option maxHeartbeats 2000000 in
theorem appendQuoted_at (w : World) (B : Nat) (v : Value) (acc s : List UInt8) (h : BRow w B v acc) (hB : B ≤ w.heap.size) (hl : acc.length ≤ 100000000) (hs : s.length ≤ 1000000) :
    Calls Tryz.prog 21 #[v, str s] w fun e w' => ∃ v', e = .returned v' ∧ BRow w' B v' (acc ++ quoteS s) ∧ Fr B w w' := by
  have H := hidI h
  clear h
  unfold str
  go_enter Tryz.func21, Tryz.ntmps21
  go_wp2_with (at_builtin; go_must (refine append_bytes rfl _ _ rfl B v acc [34] _ (by rfl) 1 rfl rfl rfl H.out hB (by omega) (by decide) ?_); intro v4 w4 hown4 hgrow4; refine Hid.out ?_)
  refine hidI ?_
  have D := hidI (And.intro hown4 hgrow4)
  clear hown4 hgrow4
  go_wp2_with fail
  go_loopg [0, 5] s.length (fun gk u i wr => ∃ (k : Nat), k ≤ s.length ∧ gk = s.length - k ∧ i = .int .i64 k ∧ BRow wr B u (acc ++ [34] ++ (s.take k).flatMap byteS) ∧ Fr B w wr)
  case atStart => exact ⟨0, Nat.zero_le _, rfl, rfl, by simpa using D.out.1, D.out.2⟩
  case round =>
    obtain ⟨k, hk, hgk, rfl, hrow, hbel⟩ := hrel
    have hlen : (acc ++ [34] ++ (s.take k).flatMap byteS).length ≤ 107000000 := by
      have := flat_len (s.take k)
      have h9 : (s.take k).length ≤ 1000000 := by rw [List.length_take]; omega
      simp only [List.length_append, List.length_cons, List.length_nil]; omega
    have A := hidI (And.intro hrow hbel)
    have hBr : B ≤ wr.heap.size := Nat.le_trans hB hbel.size
    clear hrow hbel
    by_cases hlt : k < s.length
    · have c1 : (k : Int) < (s.length : Int) := by omega
      have c2 : k < (ByteArray.mk s.toArray).size := by simpa [ByteArray.size] using hlt
      have hx : s[k]? = some s[k] := List.getElem?_eq_getElem hlt
      have c3 := ba_get hx c2
      go_wp2_with fail
      refine (appendByte_at _ B u0 _ s[k] A.out.1 hBr (by omega)).mono ?_
      rintro e w5 ⟨v5, rfl, hrow5, hbel5⟩
      have D5 := hidI (And.intro hrow5 hbel5)
      clear hrow5 hbel5
      go_wp2_with fail
      go_roundg (s.length - (k + 1))
      case measure => omega
      case rel => exact ⟨k + 1, hlt, rfl, rfl, by rw [take_step hx, List.flatMap_append, ← List.append_assoc]; simpa using D5.out.1, A.out.2.trans D5.out.2⟩
    · have c1 : ¬ (k : Int) < (s.length : Int) := by omega
      have hk' : k = s.length := by omega
      subst hk'
      go_wp2_with (at_builtin; go_must (refine append_bytes rfl _ _ rfl B u0 _ [34] _ (by rfl) 1 rfl rfl rfl A.out.1 hBr (by omega) (by decide) ?_); intro v5 w5 hown5 hgrow5; refine Hid.out ?_)
      refine hidI ?_
      have D5 := hidI (And.intro hown5 hgrow5)
      clear hown5 hgrow5
      go_wp2_with fail
      go_ret
      exact ⟨v5, rfl, by simpa [quoteS] using D5.out.1, A.out.2.trans D5.out.2⟩
end Go.Proofs.YtkboplcffailoaaGreatDoor

/- What appendList of package json does, if appendValue does what is said of it. -/
set_option linter.unusedSimpArgs false
set_option linter.unusedVariables false
namespace Go.Proofs.YtkboplcffailoaaGreatDoor
open Go.RowKit

def commaS : List (List UInt8) → List UInt8
  | [] => []
  | [x] => x
  | x :: y :: r => x ++ 44 :: commaS (y :: r)
theorem commaS_snoc (x : List UInt8) : ∀ xs, commaS (xs ++ [x]) = (if xs = [] then [] else commaS xs ++ [44]) ++ x
  | [] => by simp [commaS]
  | [y] => by simp [commaS]
  | y :: z :: r => by
    have h := commaS_snoc x (z :: r)
    simp only [List.cons_append, commaS, reduceCtorEq, if_false] at h ⊢
    rw [h]; simp
theorem commaS_prefix : ∀ (xs : List (List UInt8)) (k : Nat), ∃ r, commaS xs = commaS (xs.take k) ++ r
  | [], k => ⟨[], by simp [commaS]⟩
  | [x], 0 => ⟨x, by simp [commaS]⟩
  | [x], k + 1 => ⟨[], by simp [commaS]⟩
  | x :: y :: r, 0 => ⟨_, by simp [commaS]; rfl⟩
  | x :: y :: r, 1 => ⟨44 :: commaS (y :: r), by simp [commaS]⟩
  | x :: y :: r, k + 2 => by
    obtain ⟨s, h⟩ := commaS_prefix (y :: r) (k + 1)
    refine ⟨s, ?_⟩
    simp only [List.take_succ_cons, commaS] at h ⊢
    rw [h]; simp
def pairS (g : V → List UInt8) (ks : List (List UInt8)) (l : List V) : List (List UInt8) := List.zipWith (fun k x => quoteS k ++ 58 :: g x) ks l
def printS : Nat → V → List UInt8
  | 0, _ => []
  | d + 1, t => if t.kind = 0 then [110, 117, 108, 108] else if t.kind = 1 then boolS (t.n == 1) else if t.kind = 2 then Lib.itoa t.n else if t.kind = 3 then quoteS t.s
    else if t.kind = 4 then 91 :: commaS (t.l.map (printS d)) ++ [93] else 123 :: commaS (pairS (printS d) t.keys t.l) ++ [125]
def SmallV : Nat → V → Prop
  | 0, _ => True
  | d + 1, t => t.s.length ≤ 1000 ∧ (t.kind ≠ 4 → t.l.length ≤ t.keys.length) ∧ (∀ k ∈ t.keys, k.length ≤ 1000) ∧ ∀ x ∈ t.l, SmallV d x

/- What is said of appendValue. -/
def AppC (d : Nat) : Prop := ∀ (w : World) (B : Nat) (v : Value) (acc : List UInt8) (t : V) (val : Value), VIs w (fun k => k < B) d t val → SmallV d t → BRow w B v acc → B ≤ w.heap.size → Glob w → 4 ≤ B → acc.length + (printS d t).length ≤ 100000000 →
    Calls Tryz.prog 13 #[v, val] w fun e w' => ∃ v', e = .returned v' ∧ BRow w' B v' (acc ++ printS d t) ∧ Fr B w w'

theorem VIs.fr {w w' : World} {B d : Nat} {t : V} {v : Value} (h : VIs w (fun k => k < B) d t v) (hf : Fr B w w') : VIs w' (fun k => k < B) d t v :=
  VIs.imp (fun a x h1 h2 => ⟨h1, (World.cell?_of_block (hf.1.block _ h1)).trans h2⟩) d h
theorem Glob.fr {w w' : World} {B : Nat} (h : Glob w) (hf : Fr B w w') (hB : 4 ≤ B) : Glob w' := by
  obtain ⟨⟨tp, p, t, f, h1⟩, ⟨tq, q, t2, f2, h2⟩, ⟨t3, f3, h3⟩⟩ := h
  exact ⟨⟨tp, p, t, f, (hf.1.block _ (by omega)).trans h1⟩, ⟨tq, q, t2, f2, (hf.1.block _ (by omega)).trans h2⟩, ⟨t3, f3, (hf.1.block _ (by omega)).trans h3⟩⟩
theorem part_len {xs : List (List UInt8)} {k : Nat} {x : List UInt8} (hx : xs[k]? = some x) : (commaS (xs.take k)).length + (if k = 0 then 0 else 1) + x.length ≤ (commaS xs).length := by
  obtain ⟨r, hr⟩ := commaS_prefix xs (k + 1)
  rw [take_step hx, commaS_snoc] at hr
  have hlt := (List.getElem?_eq_some_iff.1 hx).1
  rw [hr]
  by_cases hk : k = 0
  · subst hk; simp [commaS]
  · have h9 : xs.take k ≠ [] := by
      intro e; have := congrArg List.length e; simp only [List.length_take, List.length_nil] at this; omega
    simp only [if_neg h9, if_neg hk, List.length_append, List.length_cons, List.length_nil]; omega

theorem append_bytesG {w : World} {ops : Array Oper} {rest : List Oper} {o : Oper} {a : Act} {Q : Exit → Act → World → Prop} (hgd : o.guard = none) (s x : Operand)
    (ho : o.op = .call { callee := .builtin .append, args := #[s, x], argTypes := #[34, 34] }) (B : Nat) (v : Value) (acc news : List UInt8) (cs : Array Value) (hcs : cs.toList = Lib.byteCells news) (m : Nat) (hm : m = news.length) (hs : a.eval s = v) (g : Nat) (hg : w.heap.size = g)
    (hx : a.eval x = .slice (some ⟨g, 0, none⟩) m m) (hown : BRow w B v acc) (hB : B ≤ w.heap.size) (hl : acc.length ≤ 1000000000) (hn : m ≤ 1000)
    (hK : ∀ v' w', BRow w' B v' (acc ++ news) → Fr B w w' → wpList Tryz.prog ops Q rest (a.put o.dst v') w') : wpList Tryz.prog ops Q (o :: rest) a (w.alloc (.cells cs 5)) :=
  append_bytes hgd s x ho B v acc news cs hcs m hm hs (by rw [hg]; exact hx) hown hB hl hn hK
set_option maxRecDepth 100000 in
set_option maxHeartbeats 4000000 in
theorem appendList_st (d : Nat) (ih : AppC d) (w : World) (B : Nat) (v : Value) (acc : List UInt8) (t : V) (val : Value) (hv : VIs w (fun k => k < B) (d + 1) t val) (hsm : SmallV (d + 1) t) (h : BRow w B v acc) (hB : B ≤ w.heap.size) (hG : Glob w) (hgB : 4 ≤ B)
    (hl : acc.length + (commaS (t.l.map (printS d))).length + 2 ≤ 100000000) :
    Calls Tryz.prog 22 #[v, val] w fun e w' => ∃ v', e = .returned v' ∧ BRow w' B v' (acc ++ (91 :: commaS (t.l.map (printS d)) ++ [93])) ∧ Fr B w w' := by
  obtain ⟨a7, a8, c7, c8, rfl⟩ := hv.shape
  have HV := hidI hv
  have IH := hidI ih
  have H := hidI h
  have HG := hidI hG
  have HS := hidI hsm
  have l2 : t.l.length ≤ maxLen := by obtain ⟨ks, ls, e, h1, h2, h3, h4, h5⟩ := hv; exact h5.1
  unfold maxLen at l2
  clear hv ih h hG hsm
  have hB1 : B ≤ (w.alloc (.cells #[.int .i64 t.kind, .int .i64 t.n, .string ⟨t.s.toArray⟩, .slice a7 t.keys.length c7, .slice a8 t.l.length c8] 25)).heap.size := by simp; omega
  go_enter Tryz.func22, Tryz.ntmps22
  go_wp2_with (at_builtin; go_must (refine append_bytesG rfl _ _ rfl B v acc [91] _ (by rfl) 1 rfl rfl (w.heap.size + 1) (by simp) rfl (by exact H.out.alloc _) hB1 (by omega) (by decide) ?_); intro v4 w4 hown4 hgrow4; refine Hid.out ?_)
  refine hidI ?_
  have q4 := (hgrow4.box (g := w.heap.size) (heap_alloc_new w _)).c.2.2.2.2.1
  have D := hidI (And.intro hown4 ((fr_alloc w B _ hB).trans hgrow4))
  clear hown4 hgrow4
  go_wp2_with fail
  go_loopg [0, 13] t.l.length (fun gk u i wr => ∃ (k : Nat), k ≤ t.l.length ∧ gk = t.l.length - k ∧ i = .int .i64 k ∧ BRow wr B u (acc ++ [91] ++ commaS ((t.l.map (printS d)).take k)) ∧ Fr B w wr)
  case atStart => exact ⟨0, Nat.zero_le _, rfl, rfl, by simpa [commaS] using D.out.1, D.out.2⟩
  case round =>
    obtain ⟨k, hk, hgk, rfl, hrow, hbel⟩ := hrel
    have A := hidI (And.intro hrow hbel)
    have hBr : B ≤ wr.heap.size := Nat.le_trans hB hbel.size
    clear hrow hbel q4
    by_cases hlt : k < t.l.length
    · have hvr := HV.out.fr A.out.2
      have hxm : (t.l.map (printS d))[k]? = some (printS d t.l[k]) := by rw [List.getElem?_map, List.getElem?_eq_getElem hlt]; rfl
      have hpl := part_len hxm
      have HX := hidI hxm
      clear hxm
      obtain ⟨ks, ls, e, -, -, -, -, h5⟩ := hvr
      simp only [Value.agg.injEq, Array.mk.injEq, List.cons.injEq, and_true] at e
      obtain ⟨-, -, -, -, rfl⟩ := e
      obtain ⟨_, h5⟩ := h5
      rcases h5 with ⟨e, _⟩ | ⟨b, off, c, hls, hc1, hc2, hcs⟩
      · rw [e] at hlt; simp at hlt
      simp only [Value.slice.injEq] at hls
      obtain ⟨rfl, -, rfl⟩ := hls
      obtain ⟨v0, v1, v2, v3, v4', g', g0, g1, g2, g3, g4, g5⟩ := hcs k t.l[k] (List.getElem?_eq_getElem hlt)
      have G5 := hidI g5
      obtain ⟨rfl, rfl, rfl, ⟨a5, c5, rfl⟩, ⟨a6, c6, rfl⟩⟩ := g5.agg
      clear hcs g5
      unfold maxLen at hc2
      have hsx : Hid (SmallV d t.l[k]) := HS.out.2.2.2 _ (List.getElem_mem hlt)
      have hBr1 : ∀ o, B ≤ (wr.alloc o).heap.size := fun o => by simp; omega
      by_cases hk0 : k = 0
      · subst hk0
        simp only [Nat.zero_mul, Nat.add_zero] at g0 g1 g2 g3 g4
        go_wp2_with fail
        refine (IH.out _ B u0 (acc ++ [91] ++ commaS ((t.l.map (printS d)).take 0)) t.l[0] _ (by exact G5.out.fr (fr_alloc _ _ _ hBr)) hsx.out (by exact A.out.1.alloc _) (by exact hBr1 _) (by exact HG.out.fr (A.out.2.trans (fr_alloc _ _ _ hBr)) hgB) hgB ?_).mono ?_
        · simp only [if_true] at hpl
          simp only [List.length_append, List.length_cons, List.length_nil]; omega
        rintro e w5 ⟨v5, rfl, hrow5, hbel5⟩
        have D5 := hidI (And.intro hrow5 hbel5)
        clear hrow5 hbel5
        go_wp2_with fail
        go_roundg (t.l.length - 1)
        case measure => omega
        case rel => exact ⟨1, hlt, rfl, by go_num, by rw [take_step HX.out, commaS_snoc]; simpa [commaS] using D5.out.1, A.out.2.trans ((fr_alloc _ _ _ hBr).trans D5.out.2)⟩
      · have hk1 : 0 < (k : Int) := by omega
        have h9 : Hid ((t.l.map (printS d)).take k ≠ []) := by
          intro e; have := congrArg List.length e; simp only [List.length_take, List.length_map, List.length_nil] at this; omega
        have hl9 : (acc ++ [91] ++ commaS ((t.l.map (printS d)).take k)).length ≤ 1000000000 := by
          simp only [List.length_append, List.length_cons, List.length_nil]; omega
        go_wp2_with (at_builtin; go_must (refine append_bytesG rfl _ _ rfl B u0 _ [44] _ (by rfl) 1 rfl rfl (wr.heap.size + 1) (by simp) rfl (by exact A.out.1.alloc _) (hBr1 _) hl9 (by decide) ?_); intro v6 w6 hown6 hgrow6; refine Hid.out ?_)
        refine hidI ?_
        obtain ⟨p0, p1, p2, p3, p4, -⟩ := (hgrow6.box (g := wr.heap.size) (heap_alloc_new wr _)).c
        have D6 := hidI (And.intro hown6 ((fr_alloc wr B _ hBr).trans hgrow6))
        have hB6 : B ≤ w6.heap.size := Nat.le_trans hBr D6.out.2.size
        clear hown6 hgrow6
        go_wp2_with fail
        refine (IH.out _ B v6 (acc ++ [91] ++ commaS ((t.l.map (printS d)).take k) ++ [44]) t.l[k] _ (by exact G5.out.fr D6.out.2) hsx.out (by exact D6.out.1) hB6 (by exact HG.out.fr (A.out.2.trans D6.out.2) hgB) hgB ?_).mono ?_
        · simp only [if_neg hk0] at hpl
          simp only [List.length_append, List.length_cons, List.length_nil]; omega
        rintro e w5 ⟨v5, rfl, hrow5, hbel5⟩
        have D5 := hidI (And.intro hrow5 hbel5)
        clear hrow5 hbel5
        go_wp2_with fail
        go_roundg (t.l.length - (k + 1))
        case measure => omega
        case rel => exact ⟨k + 1, hlt, rfl, by go_num, by rw [take_step HX.out, commaS_snoc, if_neg h9.out]; simpa using D5.out.1, A.out.2.trans (D6.out.2.trans D5.out.2)⟩
    · have hke : k = t.l.length := by omega
      subst hke
      have htk : Hid ((t.l.map (printS d)).take t.l.length = t.l.map (printS d)) := hidI (List.take_of_length_le (by simp))
      have hl9 : (acc ++ [91] ++ commaS ((t.l.map (printS d)).take t.l.length)).length ≤ 1000000000 := by
        rw [htk.out]; simp only [List.length_append, List.length_cons, List.length_nil]; omega
      go_wp2_with (at_builtin; go_must (refine append_bytes rfl _ _ rfl B u0 _ [93] _ (by rfl) 1 rfl rfl rfl A.out.1 hBr hl9 (by decide) ?_); intro v5 w5 hown5 hgrow5; refine Hid.out ?_)
      refine hidI ?_
      have D5 := hidI (And.intro hown5 hgrow5)
      clear hown5 hgrow5
      go_wp2_with fail
      go_ret
      have h8 := D5.out.1
      rw [htk.out] at h8
      exact ⟨v5, rfl, by simpa using h8, A.out.2.trans D5.out.2⟩
end Go.Proofs.YtkboplcffailoaaGreatDoor

/- What appendObject of package json does, if appendValue does what is said of it. -/
set_option linter.unusedSimpArgs false
set_option linter.unusedVariables false
namespace Go.Proofs.YtkboplcffailoaaGreatDoor
open Go.RowKit

set_option maxRecDepth 100000 in
set_option maxHeartbeats 4000000 in
theorem appendObject_st (d : Nat) (ih : AppC d) (w : World) (B : Nat) (v : Value) (acc : List UInt8) (t : V) (val : Value) (hv : VIs w (fun k => k < B) (d + 1) t val) (hsm : SmallV (d + 1) t) (h : BRow w B v acc) (hB : B ≤ w.heap.size) (hG : Glob w) (hgB : 4 ≤ B)
    (hkd : t.kind ≠ 4) (hl : acc.length + (commaS (pairS (printS d) t.keys t.l)).length + 2 ≤ 100000000) :
    Calls Tryz.prog 23 #[v, val] w fun e w' => ∃ v', e = .returned v' ∧ BRow w' B v' (acc ++ (123 :: commaS (pairS (printS d) t.keys t.l) ++ [125])) ∧ Fr B w w' := by
  obtain ⟨a7, a8, c7, c8, rfl⟩ := hv.shape
  have HV := hidI hv
  have IH := hidI ih
  have H := hidI h
  have HG := hidI hG
  have HS := hidI hsm
  have l2 : t.l.length ≤ maxLen := by obtain ⟨ks, ls, e, h1, h2, h3, h4, h5⟩ := hv; exact h5.1
  have lk : t.l.length ≤ t.keys.length := hsm.2.1 hkd
  have lk2 : t.keys.length ≤ maxLen := by obtain ⟨ks, ls, e, h1, h2, h3, h4, h5⟩ := hv; exact h4.1
  unfold maxLen at l2 lk2
  clear hv ih h hG hsm
  have hB1 : B ≤ (w.alloc (.cells #[.int .i64 t.kind, .int .i64 t.n, .string ⟨t.s.toArray⟩, .slice a7 t.keys.length c7, .slice a8 t.l.length c8] 25)).heap.size := by simp; omega
  go_enter Tryz.func23, Tryz.ntmps23
  go_wp2_with (at_builtin; go_must (refine append_bytesG rfl _ _ rfl B v acc [123] _ (by rfl) 1 rfl rfl (w.heap.size + 1) (by simp) rfl (by exact H.out.alloc _) hB1 (by omega) (by decide) ?_); intro v4 w4 hown4 hgrow4; refine Hid.out ?_)
  refine hidI ?_
  have Q4 := hidI (hgrow4.box (g := w.heap.size) (heap_alloc_new w _))
  have q4 := Q4.out.c.2.2.2.2.1
  have D := hidI (And.intro hown4 ((fr_alloc w B _ hB).trans hgrow4))
  clear hown4 hgrow4
  go_wp2_with fail
  go_loopg [0, 13] t.l.length (fun gk u i wr => ∃ (k : Nat), k ≤ t.l.length ∧ gk = t.l.length - k ∧ i = .int .i64 k ∧ BRow wr B u (acc ++ [123] ++ commaS ((pairS (printS d) t.keys t.l).take k)) ∧ Fr B w wr ∧ BoxIs wr w.heap.size (.int .i64 t.kind) (.int .i64 t.n) (.string ⟨t.s.toArray⟩) (.slice a7 t.keys.length c7) (.slice a8 t.l.length c8))
  case atStart => exact ⟨0, Nat.zero_le _, rfl, rfl, by simpa [commaS] using D.out.1, D.out.2, Q4.out⟩
  case round =>
    obtain ⟨k, hk, hgk, rfl, hrow, hbel, hbox⟩ := hrel
    have A := hidI (And.intro hrow hbel)
    have BX := hidI hbox
    have hBr : B ≤ wr.heap.size := Nat.le_trans hB hbel.size
    clear hrow hbel hbox q4
    by_cases hlt : k < t.l.length
    · have hlk : k < t.keys.length := by omega
      have hvr := HV.out.fr A.out.2
      have hxm : (pairS (printS d) t.keys t.l)[k]? = some (quoteS t.keys[k] ++ 58 :: printS d t.l[k]) := by simp [pairS, List.getElem?_zipWith, hlt, hlk]
      have hpl := part_len hxm
      have HX := hidI hxm
      clear hxm
      obtain ⟨ks, ls, e, -, -, -, h4, h5⟩ := hvr
      simp only [Value.agg.injEq, Array.mk.injEq, List.cons.injEq, and_true] at e
      obtain ⟨-, -, -, rfl, rfl⟩ := e
      obtain ⟨_, h5⟩ := h5
      rcases h5 with ⟨e, _⟩ | ⟨b, off, c, hls, hc1, hc2, hcs⟩
      · rw [e] at hlt; simp at hlt
      simp only [Value.slice.injEq] at hls
      obtain ⟨rfl, -, rfl⟩ := hls
      obtain ⟨v0, v1, v2, v3, v4', g', g0, g1, g2, g3, g4, g5⟩ := hcs k t.l[k] (List.getElem?_eq_getElem hlt)
      have G5 := hidI g5
      obtain ⟨rfl, rfl, rfl, ⟨a5, c5, rfl⟩, ⟨a6, c6, rfl⟩⟩ := g5.agg
      clear hcs g5
      unfold maxLen at hc2
      have hsx : Hid (SmallV d t.l[k]) := HS.out.2.2.2 _ (List.getElem_mem hlt)
      have hBr1 : ∀ o, B ≤ (wr.alloc o).heap.size := fun o => by simp; omega
      have hkl : Hid (t.keys[k].length ≤ 1000000) := hidI (Nat.le_trans (HS.out.2.2.1 _ (List.getElem_mem hlk)) (by decide))
      have hbxs : w.heap.size < wr.heap.size := BX.out.lt
      obtain ⟨b2, off2, rfl, kcell, hb2⟩ : ∃ b2 off2, a7 = some ⟨b2, off2, none⟩ ∧ wr.cell? ⟨b2, off2 + k, none⟩ = some (.string ⟨t.keys[k].toArray⟩) ∧ b2 < B := by
        rcases h4.2 with ⟨e, _⟩ | ⟨b2, off2, c2, e, -, -, hcs2⟩
        · rw [e] at hlk; simp at hlk
        · simp only [Value.slice.injEq] at e
          obtain ⟨rfl, -, -⟩ := e
          obtain ⟨-, g1, g2⟩ := hcs2 k t.keys[k] (List.getElem?_eq_getElem hlk)
          exact ⟨b2, off2, rfl, g2, g1⟩
      clear h4
      have KC : Hid (∀ w', Fr B wr w' → w'.cell? ⟨b2, off2 + k, none⟩ = some (.string ⟨t.keys[k].toArray⟩)) := fun w' hf => (World.cell?_of_block (hf.1.block _ hb2)).trans kcell
      have hpl' := hpl
      simp only [List.length_append, List.length_cons] at hpl'
      clear hpl
      by_cases hk0 : k = 0
      · subst hk0
        simp only [Nat.zero_mul, Nat.add_zero] at g0 g1 g2 g3 g4
        have kq : ∀ o, (wr.alloc o).cell? ⟨b2, off2, none⟩ = some (.string ⟨t.keys[0].toArray⟩) := fun o => KC.out _ (fr_alloc _ _ _ hBr)
        have x3 : ∀ o, (wr.alloc o).cell? ⟨w.heap.size, 3, none⟩ = some (.slice (some ⟨b2, off2, none⟩) t.keys.length c7) := fun o => ((fr_alloc wr B o hBr).box BX.out).c.2.2.2.1
        have x3' := BX.out.c.2.2.2.1
        simp only [Nat.add_zero] at kcell
        simp only [if_true] at hpl'
        go_wp2_with fail
        refine (appendQuoted_at _ B u0 (acc ++ [123] ++ commaS ((pairS (printS d) t.keys t.l).take 0)) t.keys[0] (by exact A.out.1.alloc _) (by exact hBr1 _) ?_ hkl.out).mono ?_
        · skip
          simp only [List.length_append, List.length_cons, List.length_nil]; omega
        rintro e w7 ⟨v7, rfl, hrow7, hbel7⟩
        have IB7 := hidI (hbel7.box (g := wr.heap.size) (heap_alloc_new wr _))
        have D7 := hidI (And.intro hrow7 ((fr_alloc wr B _ hBr).trans hbel7))
        have hB7 : B ≤ w7.heap.size := Nat.le_trans hBr D7.out.2.size
        clear hrow7 hbel7
        have hl8 : ((acc ++ ([123] : List UInt8) ++ commaS ((pairS (printS d) t.keys t.l).take 0) : List UInt8) ++ quoteS t.keys[0]).length ≤ 1000000000 := by
          skip
          simp only [List.length_append, List.length_cons, List.length_nil]; omega
        go_wp2_with (at_builtin; go_must (refine append_bytes rfl _ _ rfl B v7 _ [58] _ (by rfl) 1 rfl rfl rfl D7.out.1 hB7 hl8 (by decide) ?_); intro v8 w8 hown8 hgrow8; refine Hid.out ?_)
        refine hidI ?_
        obtain ⟨r0, r1, r2, r3, r4, -⟩ := (hgrow8.box IB7.out).c
        have D8 := hidI (And.intro hown8 (D7.out.2.trans hgrow8))
        have hB8 : B ≤ w8.heap.size := Nat.le_trans hBr D8.out.2.size
        clear hown8 hgrow8
        go_wp2_with fail
        refine (IH.out _ B v8 ((acc ++ ([123] : List UInt8) ++ commaS ((pairS (printS d) t.keys t.l).take 0) : List UInt8) ++ quoteS t.keys[0] ++ ([58] : List UInt8)) t.l[0] _ (by exact G5.out.fr D8.out.2) hsx.out (by exact D8.out.1) hB8 (by exact HG.out.fr (A.out.2.trans D8.out.2) hgB) hgB ?_).mono ?_
        · skip
          simp only [List.length_append, List.length_cons, List.length_nil]; omega
        rintro e w5 ⟨v5, rfl, hrow5, hbel5⟩
        have D5 := hidI (And.intro hrow5 (D8.out.2.trans hbel5))
        clear hrow5 hbel5
        go_wp2_with fail
        go_roundg (t.l.length - (0 + 1))
        case measure => omega
        case rel => exact ⟨0 + 1, hlt, rfl, by go_num, by rw [take_step HX.out, commaS_snoc]; simpa [commaS] using D5.out.1, A.out.2.trans D5.out.2, D5.out.2.box BX.out⟩
      · have hk1 : 0 < (k : Int) := by omega
        have h9 : Hid ((pairS (printS d) t.keys t.l).take k ≠ []) := by
          intro e; have := congrArg List.length e; simp only [List.length_take, pairS, List.length_zipWith, List.length_nil] at this; omega
        simp only [if_neg hk0] at hpl'
        have hl9 : (acc ++ [123] ++ commaS ((pairS (printS d) t.keys t.l).take k)).length ≤ 1000000000 := by
          simp only [List.length_append, List.length_cons, List.length_nil]; omega
        go_wp2_with (at_builtin; go_must (refine append_bytesG rfl _ _ rfl B u0 _ [44] _ (by rfl) 1 rfl rfl (wr.heap.size + 1) (by simp) rfl (by exact A.out.1.alloc _) (hBr1 _) hl9 (by decide) ?_); intro v6 w6 hown6 hgrow6; refine Hid.out ?_)
        refine hidI ?_
        have IB6 := hidI (hgrow6.box (g := wr.heap.size) (heap_alloc_new wr _))
        have D6 := hidI (And.intro hown6 ((fr_alloc wr B _ hBr).trans hgrow6))
        have hB6 : B ≤ w6.heap.size := Nat.le_trans hBr D6.out.2.size
        have kq := KC.out _ D6.out.2
        have x3 := (D6.out.2.box BX.out).c.2.2.2.1
        clear hown6 hgrow6
        go_wp2_with fail
        refine (appendQuoted_at _ B v6 (acc ++ [123] ++ commaS ((pairS (printS d) t.keys t.l).take k) ++ [44]) t.keys[k] (by exact D6.out.1) (by exact hB6) ?_ hkl.out).mono ?_
        · skip
          simp only [List.length_append, List.length_cons, List.length_nil]; omega
        rintro e w7 ⟨v7, rfl, hrow7, hbel7⟩
        have IB7 := hidI (hbel7.box (g := wr.heap.size) IB6.out)
        have D7 := hidI (And.intro hrow7 ((D6.out.2).trans hbel7))
        have hB7 : B ≤ w7.heap.size := Nat.le_trans hBr D7.out.2.size
        clear hrow7 hbel7
        have hl8 : ((acc ++ ([123] : List UInt8) ++ commaS ((pairS (printS d) t.keys t.l).take k) ++ [44] : List UInt8) ++ quoteS t.keys[k]).length ≤ 1000000000 := by
          skip
          simp only [List.length_append, List.length_cons, List.length_nil]; omega
        go_wp2_with (at_builtin; go_must (refine append_bytes rfl _ _ rfl B v7 _ [58] _ (by rfl) 1 rfl rfl rfl D7.out.1 hB7 hl8 (by decide) ?_); intro v8 w8 hown8 hgrow8; refine Hid.out ?_)
        refine hidI ?_
        obtain ⟨r0, r1, r2, r3, r4, -⟩ := (hgrow8.box IB7.out).c
        have D8 := hidI (And.intro hown8 (D7.out.2.trans hgrow8))
        have hB8 : B ≤ w8.heap.size := Nat.le_trans hBr D8.out.2.size
        clear hown8 hgrow8
        go_wp2_with fail
        refine (IH.out _ B v8 ((acc ++ ([123] : List UInt8) ++ commaS ((pairS (printS d) t.keys t.l).take k) ++ [44] : List UInt8) ++ quoteS t.keys[k] ++ ([58] : List UInt8)) t.l[k] _ (by exact G5.out.fr D8.out.2) hsx.out (by exact D8.out.1) hB8 (by exact HG.out.fr (A.out.2.trans D8.out.2) hgB) hgB ?_).mono ?_
        · skip
          simp only [List.length_append, List.length_cons, List.length_nil]; omega
        rintro e w5 ⟨v5, rfl, hrow5, hbel5⟩
        have D5 := hidI (And.intro hrow5 (D8.out.2.trans hbel5))
        clear hrow5 hbel5
        go_wp2_with fail
        go_roundg (t.l.length - (k + 1))
        case measure => omega
        case rel => exact ⟨k + 1, hlt, rfl, by go_num, by rw [take_step HX.out, commaS_snoc, if_neg h9.out]; simpa [commaS] using D5.out.1, A.out.2.trans D5.out.2, D5.out.2.box BX.out⟩
    · have hke : k = t.l.length := by omega
      subst hke
      have htk : Hid ((pairS (printS d) t.keys t.l).take t.l.length = pairS (printS d) t.keys t.l) := hidI (List.take_of_length_le (by simp only [pairS, List.length_zipWith]; omega))
      have hl9 : (acc ++ [123] ++ commaS ((pairS (printS d) t.keys t.l).take t.l.length)).length ≤ 1000000000 := by
        rw [htk.out]; simp only [List.length_append, List.length_cons, List.length_nil]; omega
      go_wp2_with (at_builtin; go_must (refine append_bytes rfl _ _ rfl B u0 _ [125] _ (by rfl) 1 rfl rfl rfl A.out.1 hBr hl9 (by decide) ?_); intro v5 w5 hown5 hgrow5; refine Hid.out ?_)
      refine hidI ?_
      have D5 := hidI (And.intro hown5 hgrow5)
      clear hown5 hgrow5
      go_wp2_with fail
      go_ret
      have h8 := D5.out.1
      rw [htk.out] at h8
      exact ⟨v5, rfl, by simpa using h8, A.out.2.trans D5.out.2⟩
end Go.Proofs.YtkboplcffailoaaGreatDoor

/- What appendValue of package json does, and Print. -/
set_option linter.unusedSimpArgs false
set_option linter.unusedVariables false
namespace Go.Proofs.YtkboplcffailoaaGreatDoor
open Go.RowKit

theorem tab_below {w : World} {B : Nat} (hG : Glob w) (hB : 4 ≤ B) : Lib.TabBelow Tryz.prog B w "internal/strconv.uint64pow10" .u64 Lib.pow10Tab := by
  intro w' hb
  obtain ⟨_, _, t3, f3, h3⟩ := hG
  have h4 := (hb.block 0 (by omega)).trans h3
  unfold Lib.TabIs World.var?
  rw [show Program.globalNamed Tryz.prog _ = some 0 from by kernel_rfl]
  simp [h4]
theorem appendInt_at (w : World) (B : Nat) (v : Value) (acc : List UInt8) (n : Int) (hn : I64 n) (h : BRow w B v acc) (hB : B ≤ w.heap.size) (hl : acc.length ≤ 1000000000) (hG : Glob w) (hgB : 4 ≤ B) :
    Calls Tryz.prog 20 #[v, .int .i64 n, .int .i64 10] w fun e w' => ∃ v', e = .returned v' ∧ BRow w' B v' (acc ++ Lib.itoa n) ∧ Fr B w w' := by
  refine (Tryz.strconv_AppendInt_10 B acc.length n hn.1 hn.2 v (Lib.byteCells acc) w h hB (by omega) (tab_below hG hgB)).mono ?_
  rintro e w' ⟨v', rfl, h1, h2, h3⟩
  rw [cells_append, ← List.length_append] at h1
  exact ⟨v', rfl, h1, h2, h3⟩

theorem app_zero : AppC 0 := fun _ _ _ _ _ _ hv => hv.elim
set_option maxRecDepth 100000 in
set_option maxHeartbeats 4000000 in
theorem app_succ (d : Nat) (ih : AppC d) : AppC (d + 1) := by
  intro w B v acc t val hv hsm h hB hG hgB hl
  have HV := hidI hv
  have IH := hidI ih
  have H := hidI h
  have HG := hidI hG
  have HS := hidI hsm
  obtain ⟨a7, a8, c7, c8, rfl⟩ := hv.shape
  have hn : I64 t.n := by obtain ⟨ks, ls, e, h1, h2, h3, h4, h5⟩ := hv; exact h2
  have HN := hidI hn
  have hs6 := hsm.1
  clear hv ih h hG hsm hn
  have hB1 : B ≤ (w.alloc (.cells #[.int .i64 t.kind, .int .i64 t.n, .string ⟨t.s.toArray⟩, .slice a7 t.keys.length c7, .slice a8 t.l.length c8] 25)).heap.size := by simp; omega
  have F1 : Hid (Fr B w (w.alloc (.cells #[.int .i64 t.kind, .int .i64 t.n, .string ⟨t.s.toArray⟩, .slice a7 t.keys.length c7, .slice a8 t.l.length c8] 25))) := fr_alloc _ _ _ hB
  have hla : acc.length ≤ 1000000000 := by omega
  by_cases k0 : t.kind = 0
  · have e0 : (t.kind == 0) = true := by simp [k0]
    have P : Hid (printS (d + 1) t = [110, 117, 108, 108]) := hidI (by simp [printS, k0])
    rw [P.out] at hl
    have K := hidI k0
    clear k0
    go_enter Tryz.func13, Tryz.ntmps13
    go_wp2_with (at_builtin; go_must (refine append_text rfl _ _ rfl B v acc [110, 117, 108, 108] rfl rfl (by exact H.out.alloc _) hB1 hla (by decide) ?_); intro v4 w4 hown4 hgrow4; refine Hid.out ?_)
    refine hidI ?_
    have D := hidI (And.intro hown4 (F1.out.trans hgrow4))
    clear hown4 hgrow4
    go_wp2_with fail
    go_ret
    exact ⟨v4, rfl, by rw [P.out]; exact D.out.1, D.out.2⟩
  by_cases k1 : t.kind = 1
  · have e1 : (t.kind == 1) = true := by simp [k1]
    have f0 : (t.kind == 0) = false := by simp [k1]
    have P : Hid (printS (d + 1) t = boolS (t.n == 1)) := hidI (by simp [printS, k1])
    rw [P.out] at hl
    have K := hidI k1
    clear k1
    go_enter Tryz.func13, Tryz.ntmps13
    go_wp2_with fail
    refine (appendBool_at _ B v acc (t.n == 1) (by exact H.out.alloc _) (by exact hB1) hla).mono ?_
    rintro e w4 ⟨v4, rfl, hown4, hgrow4⟩
    have D := hidI (And.intro hown4 (F1.out.trans hgrow4))
    clear hown4 hgrow4
    go_wp2_with fail
    go_ret
    exact ⟨v4, rfl, by rw [P.out]; exact D.out.1, D.out.2⟩
  by_cases k2 : t.kind = 2
  · have e2 : (t.kind == 2) = true := by simp [k2]
    have f0 : (t.kind == 0) = false := by simp [k2]
    have f1 : (t.kind == 1) = false := by simp [k2]
    have P : Hid (printS (d + 1) t = Lib.itoa t.n) := hidI (by simp [printS, k2])
    rw [P.out] at hl
    have K := hidI k2
    clear k2
    go_enter Tryz.func13, Tryz.ntmps13
    go_wp2_with fail
    refine (appendInt_at _ B v acc t.n HN.out (by exact H.out.alloc _) (by exact hB1) hla (by exact HG.out.fr F1.out hgB) hgB).mono ?_
    rintro e w4 ⟨v4, rfl, hown4, hgrow4⟩
    have D := hidI (And.intro hown4 (F1.out.trans hgrow4))
    clear hown4 hgrow4
    go_wp2_with fail
    go_ret
    exact ⟨v4, rfl, by rw [P.out]; exact D.out.1, D.out.2⟩
  by_cases k3 : t.kind = 3
  · have e3 : (t.kind == 3) = true := by simp [k3]
    have f0 : (t.kind == 0) = false := by simp [k3]
    have f1 : (t.kind == 1) = false := by simp [k3]
    have f2 : (t.kind == 2) = false := by simp [k3]
    have P : Hid (printS (d + 1) t = quoteS t.s) := hidI (by simp [printS, k3])
    rw [P.out] at hl
    have K := hidI k3
    clear k3
    go_enter Tryz.func13, Tryz.ntmps13
    go_wp2_with fail
    refine (appendQuoted_at _ B v acc t.s (by exact H.out.alloc _) (by exact hB1) (by omega) (by omega)).mono ?_
    rintro e w4 ⟨v4, rfl, hown4, hgrow4⟩
    have D := hidI (And.intro hown4 (F1.out.trans hgrow4))
    clear hown4 hgrow4
    go_wp2_with fail
    go_ret
    exact ⟨v4, rfl, by rw [P.out]; exact D.out.1, D.out.2⟩
  by_cases k4 : t.kind = 4
  · have e4 : (t.kind == 4) = true := by simp [k4]
    have f0 : (t.kind == 0) = false := by simp [k4]
    have f1 : (t.kind == 1) = false := by simp [k4]
    have f2 : (t.kind == 2) = false := by simp [k4]
    have f3 : (t.kind == 3) = false := by simp [k4]
    have P : Hid (printS (d + 1) t = 91 :: commaS (t.l.map (printS d)) ++ [93]) := hidI (by simp [printS, k4])
    rw [P.out] at hl
    have K := hidI k4
    clear k4
    go_enter Tryz.func13, Tryz.ntmps13
    go_wp2_with fail
    refine (appendList_st d IH.out _ B v acc t _ (by exact HV.out.fr F1.out) HS.out (by exact H.out.alloc _) (by exact hB1) (by exact HG.out.fr F1.out hgB) hgB (by simp only [List.length_append, List.length_cons, List.length_nil] at hl; omega)).mono ?_
    rintro e w4 ⟨v4, rfl, hown4, hgrow4⟩
    have D := hidI (And.intro hown4 (F1.out.trans hgrow4))
    clear hown4 hgrow4
    go_wp2_with fail
    go_ret
    exact ⟨v4, rfl, by rw [P.out]; exact D.out.1, D.out.2⟩
  have f0 : (t.kind == 0) = false := by rw [beq_eq_false_iff_ne]; exact k0
  have f1 : (t.kind == 1) = false := by rw [beq_eq_false_iff_ne]; exact k1
  have f2 : (t.kind == 2) = false := by rw [beq_eq_false_iff_ne]; exact k2
  have f3 : (t.kind == 3) = false := by rw [beq_eq_false_iff_ne]; exact k3
  have f4 : (t.kind == 4) = false := by rw [beq_eq_false_iff_ne]; exact k4
  have P : Hid (printS (d + 1) t = 123 :: commaS (pairS (printS d) t.keys t.l) ++ [125]) := hidI (by simp only [printS, if_neg k0, if_neg k1, if_neg k2, if_neg k3, if_neg k4])
  rw [P.out] at hl
  have K4 := hidI k4
  clear k0 k1 k2 k3 k4
  go_enter Tryz.func13, Tryz.ntmps13
  go_wp2_with fail
  refine (appendObject_st d IH.out _ B v acc t _ (by exact HV.out.fr F1.out) HS.out (by exact H.out.alloc _) (by exact hB1) (by exact HG.out.fr F1.out hgB) hgB K4.out (by simp only [List.length_append, List.length_cons, List.length_nil] at hl; omega)).mono ?_
  rintro e w4 ⟨v4, rfl, hown4, hgrow4⟩
  have D := hidI (And.intro hown4 (F1.out.trans hgrow4))
  clear hown4 hgrow4
  go_wp2_with fail
  go_ret
  exact ⟨v4, rfl, by rw [P.out]; exact D.out.1, D.out.2⟩
theorem app_all (d : Nat) : AppC d := by
  induction d with
  | zero => exact app_zero
  | succ d ih => exact app_succ d ih
end Go.Proofs.YtkboplcffailoaaGreatDoor

set_option linter.unusedSimpArgs false
set_option linter.unusedVariables false
namespace Go.Proofs.YtkboplcffailoaaGreatDoor
open Go.RowKit

theorem rise_len : ∀ (ks : List (List UInt8)) (p : Option (List UInt8)), riseFrom p ks = true → ∀ k ∈ ks, k.length ≤ 60
  | [], _, _, k, hk => by simp at hk
  | x :: ks, p, h, k, hk => by
    simp only [riseFrom, Bool.and_eq_true] at h
    rcases List.mem_cons.1 hk with rfl | hk
    · have := h.1.1; simp only [plainB, Bool.and_eq_true, decide_eq_true_eq] at this; exact this.1
    · exact rise_len ks _ h.2 k hk
theorem shaped_small {t : V} (h : shapedB t = true) : t.s.length ≤ 60 ∧ (t.kind ≠ 4 → t.l.length ≤ t.keys.length) ∧ (∀ k ∈ t.keys, k.length ≤ 60) ∧ -9007199254740992 ≤ t.n ∧ t.n ≤ 9007199254740992 := by
  have nk : t.keys.length = 0 → ∀ k ∈ t.keys, k.length ≤ 60 := fun e k hk => by rw [List.eq_nil_of_length_eq_zero e] at hk; simp at hk
  unfold shapedB at h
  split at h
  · simp only [listlessB, Bool.and_eq_true, decide_eq_true_eq] at h
    obtain ⟨⟨h1, h2⟩, h3, h4⟩ := h
    exact ⟨by rw [h2]; simp, fun _ => by omega, nk h3, by omega, by omega⟩
  split at h
  · simp only [listlessB, Bool.and_eq_true, Bool.or_eq_true, decide_eq_true_eq] at h
    obtain ⟨⟨h1, h2⟩, h3, h4⟩ := h
    exact ⟨by rw [h2]; simp, fun _ => by omega, nk h3, by omega, by omega⟩
  split at h
  · simp only [listlessB, Bool.and_eq_true, decide_eq_true_eq] at h
    obtain ⟨⟨⟨h0, h1⟩, h2⟩, h3, h4⟩ := h
    exact ⟨by rw [h2]; simp, fun _ => by omega, nk h3, by omega, by omega⟩
  split at h
  · simp only [listlessB, plainB, Bool.and_eq_true, decide_eq_true_eq] at h
    obtain ⟨⟨h1, h2, _⟩, h3, h4⟩ := h
    exact ⟨h2, fun _ => by omega, nk h3, by omega, by omega⟩
  split at h
  · rename_i hk
    simp only [Bool.and_eq_true, decide_eq_true_eq] at h
    obtain ⟨⟨h1, h2⟩, h3⟩ := h
    exact ⟨by rw [h2]; simp, fun e => absurd hk e, nk h3, by omega, by omega⟩
  split at h
  · simp only [Bool.and_eq_true, decide_eq_true_eq] at h
    obtain ⟨⟨⟨h1, h2⟩, h3⟩, h4⟩ := h
    exact ⟨by rw [h2]; simp, fun _ => by omega, rise_len _ _ h4, by omega, by omega⟩
  · cases h
theorem good_small (d : Nat) : ∀ (D : Nat) (t : V) (r p : Int), goodS D t r = (true, p) → SmallV d t := by
  induction d with
  | zero => intro D t r p _; trivial
  | succ d ih =>
    intro D t r p h
    obtain ⟨D', rfl, hs, h0, hf⟩ := goodS_succ h
    obtain ⟨s1, s2, s3, -, -⟩ := shaped_small hs
    refine ⟨by omega, s2, fun k hk => Nat.le_trans (s3 k hk) (by decide), ?_⟩
    have : ∀ (l : List V) (r p : Int), gfold D' l r = (true, p) → ∀ x ∈ l, SmallV d x := by
      intro l
      induction l with
      | nil => intro r p _ x hx; simp at hx
      | cons y l ihl =>
        intro r p hf x hx
        obtain ⟨q, h1, h2⟩ := gfold_cons hf
        rcases List.mem_cons.1 hx with rfl | hx
        · exact ih D' _ r q h1
        · exact ihl q p h2 x hx
    exact this t.l _ _ hf
theorem comma_len (x : List UInt8) (xs : List (List UInt8)) : (commaS (x :: xs)).length ≤ x.length + 1 + (commaS xs).length := by
  cases xs with
  | nil => simp [commaS]
  | cons y ys => simp only [commaS, List.length_append, List.length_cons]; omega
theorem quote_len (s : List UInt8) (h : s.length ≤ 60) : (quoteS s).length ≤ 362 := by
  have := flat_len s
  simp only [quoteS, List.length_append, List.length_cons, List.length_nil]; omega
theorem good_len (d : Nat) : ∀ (D : Nat) (t : V) (r p : Int), 0 ≤ r → goodS D t r = (true, p) → ((printS d t).length : Int) + 400 ≤ 1000 * (r - p) := by
  induction d with
  | zero =>
    intro D t r p hr h
    obtain ⟨D', rfl, hs, h0, hf⟩ := goodS_succ h
    have := (fold_room (goodS_room D') t.l (r - 1) h0).2.1
    have e : (gfold D' t.l (r - 1)).2 = p := by rw [hf]
    unfold gfold at e
    rw [e] at this
    simp only [printS, List.length_nil]; omega
  | succ d ih =>
    intro D t r p hr h
    obtain ⟨D', rfl, hs, h0, hf⟩ := goodS_succ h
    have hp : p ≤ r - 1 := by
      have := (fold_room (goodS_room D') t.l (r - 1) h0).2.1
      have e : (gfold D' t.l (r - 1)).2 = p := by rw [hf]
      unfold gfold at e
      rwa [e] at this
    obtain ⟨s1, s2, s3, s4, s5⟩ := shaped_small hs
    have sums : ∀ (l : List V) (ks : List (List UInt8)) (r p : Int), 0 ≤ r → (∀ k ∈ ks, k.length ≤ 60) → gfold D' l r = (true, p) → ((commaS (l.map (printS d))).length : Int) ≤ 1000 * (r - p) ∧ ((commaS (pairS (printS d) ks l)).length : Int) ≤ 1000 * (r - p) := by
      intro l
      induction l with
      | nil =>
        intro ks r p _ _ hf
        have e : (true, r) = (true, p) := hf
        cases e
        simp [commaS, pairS]
      | cons x l ihl =>
        intro ks r p hr hks hf
        obtain ⟨q, h1, h2⟩ := gfold_cons hf
        have g1 := ih D' x r q hr h1
        have hq : 0 ≤ q := by have := (goodS_room D' x r hr).2.2; rw [h1] at this; exact this rfl
        constructor
        · obtain ⟨g2, -⟩ := ihl [] q p hq (by simp) h2
          have := comma_len (printS d x) (l.map (printS d))
          simp only [List.map_cons]; omega
        · cases ks with
          | nil =>
            obtain ⟨-, g2⟩ := ihl [] q p hq (by simp) h2
            simp only [pairS, List.zipWith_nil_left, commaS, List.length_nil] at g2 ⊢
            omega
          | cons k ks =>
            obtain ⟨-, g2⟩ := ihl ks q p hq (fun j hj => hks j (List.mem_cons_of_mem _ hj)) h2
            have := comma_len (quoteS k ++ 58 :: printS d x) (pairS (printS d) ks l)
            have h9 := quote_len k (hks k (List.mem_cons_self ..))
            simp only [List.length_append, List.length_cons] at this
            simp only [pairS, List.zipWith_cons_cons] at this g2 ⊢
            omega
    obtain ⟨m1, m2⟩ := sums t.l t.keys (r - 1) p h0 s3 hf
    have hi := Lib.itoa_length_le t.n (by omega) (by omega)
    have hq := quote_len t.s s1
    simp only [printS]
    split
    · simp only [List.length_cons, List.length_nil]; omega
    split
    · unfold boolS; split <;> simp only [List.length_cons, List.length_nil] <;> omega
    split
    · omega
    split
    · omega
    split
    · simp only [List.length_append, List.length_cons, List.length_nil]; omega
    · simp only [List.length_append, List.length_cons, List.length_nil]; omega

def printR (d : Nat) (t : V) : List UInt8 × Int := if goodV t then (if (printS d t).length ≤ 2000 then (printS d t, 0) else ([], 2)) else ([], 1)

set_option maxRecDepth 100000 in
set_option maxHeartbeats 4000000 in
theorem Print_at (w : World) (ok : Nat → Prop) (d : Nat) (t : V) (v : Value) (h : VIs w ok d t v) (hG : Glob w) :
    Calls Tryz.prog 5 #[v] w fun e w' => ∃ (l : List UInt8) (ee : Int), e = .returned (.tuple #[.string ⟨l.toArray⟩, .int .i64 ee]) ∧ printR d t = (l, ee) ∧ Below w.heap.size w w' := by
  obtain ⟨a7, a8, c7, c8, rfl⟩ := h.shape
  have HV := hidI h
  have HG := hidI hG
  clear h hG
  cases hgd : goodV t with
  | false =>
    have P : Hid (printR d t = ([], 1)) := hidI (by simp [printR, hgd])
    have HGD := hidI hgd
    clear hgd
    go_enter Tryz.func5, Tryz.ntmps5
    go_wp2_with fail
    refine (Good_at _ ok d t _ (by exact HV.out.bel (bel_alloc _ _))).mono ?_
    rintro e w2 ⟨rfl, hb2⟩
    rw [HGD.out]
    have B2 := hidI (bel_trans (bel_alloc w _) hb2)
    clear hb2
    go_wp2_with fail
    refine bodyPost_ret (v := .tuple #[.string ⟨#[]⟩, .int .i64 1]) (by simp [results, Tryz.results5, go_sem] <;> rfl) rfl ?_
    exact ⟨[], 1, rfl, P.out, B2.out⟩
  | true =>
    have HGD := hidI hgd
    have P : Hid (printR d t = if (printS d t).length ≤ 2000 then (printS d t, 0) else ([], 2)) := hidI (by simp [printR, hgd])
    have hg : goodS 12 t 120 = (true, (goodS 12 t 120).2) := by unfold goodV at hgd; rw [← hgd]
    have hln : ((printS d t).length : Int) ≤ 122000 := by
      have h1 := good_len d 12 t 120 _ (by decide) hg
      have h2 := (goodS_room 12 t 120 (by decide)).1
      omega
    have SM : Hid (SmallV d t) := good_small d 12 t 120 _ hg
    clear hgd hg
    go_enter Tryz.func5, Tryz.ntmps5
    go_wp2_with fail
    refine (Good_at _ ok d t _ (by exact HV.out.bel (bel_alloc _ _))).mono ?_
    rintro e w2 ⟨rfl, hb2⟩
    rw [HGD.out]
    obtain ⟨p0, p1, p2, p3, p4, -⟩ := (box_bel hb2 (heap_alloc_new w _)).c
    have V2 := hidI ((HV.out.bel (bel_trans (bel_alloc w _) hb2)).below.weak (ok' := fun k => k < w2.heap.size) fun k hk => hk.2)
    have B2 := hidI (bel_trans (bel_alloc w _) hb2)
    have G2 : Hid (Glob w2) := HG.out.grown (gb_below (r := none) B2.out) (by simp)
    have hsz := G2.out.size
    clear hb2
    go_wp2_with fail
    refine (app_all d w2 w2.heap.size (.slice none 0 0) [] t _ V2.out SM.out (BRow.nil _ _) (Nat.le_refl _) G2.out hsz (by simp only [List.length_nil]; omega)).mono ?_
    rintro e w3 ⟨v3, rfl, h3, hb3⟩
    rw [List.nil_append] at h3
    have B3 : Hid (Below w.heap.size w w3) := bel_trans B2.out hb3.1
    clear hb3
    rcases h3.2 with ⟨hv, hn⟩ | ⟨g, cap, cur, hv, -, -, hn1, hn2, -, -⟩
    · subst hv
      have hnil : printS d t = [] := List.eq_nil_of_length_eq_zero hn
      have hcv := run_convert_bytes_nil (P := Tryz.prog) (w := w3) 34 5 Tryz.underlying34 Tryz.underlying5 0 0
      have HN := hidI hnil
      clear h3 hn hnil
      go_wp2_with fail
      refine bodyPost_ret (v := .tuple #[.string ⟨#[]⟩, .int .i64 0]) (by simp [results, Tryz.results5, go_sem] <;> rfl) rfl ?_
      exact ⟨[], 0, rfl, by rw [P.out, HN.out]; rfl, B3.out⟩
    · subst hv
      unfold maxLen at hn2
      have hcv := run_convert_bytes_back (P := Tryz.prog) w3 34 9 5 ⟨g, 0, none⟩ cap (printS d t) Tryz.underlying34 Tryz.underlying5 Tryz.underlying9 (fun j hj => World.ownsRow.cells h3 (g := g) rfl j _ (by simp [Lib.byteCells, hj]))
      clear h3
      by_cases hle : (printS d t).length ≤ 2000
      · have c1 : ¬ (2000 < ((printS d t).length : Int)) := by omega
        go_wp2_with fail
        refine bodyPost_ret (v := .tuple #[.string ⟨(printS d t).toArray⟩, .int .i64 0]) (by simp [results, Tryz.results5, go_sem] <;> rfl) rfl ?_
        exact ⟨printS d t, 0, rfl, by rw [P.out, if_pos hle], B3.out⟩
      · have c1 : 2000 < ((printS d t).length : Int) := by omega
        clear hcv
        go_wp2_with fail
        refine bodyPost_ret (v := .tuple #[.string ⟨#[]⟩, .int .i64 2]) (by simp [results, Tryz.results5, go_sem] <;> rfl) rfl ?_
        exact ⟨[], 2, rfl, by rw [P.out, if_neg hle], B3.out⟩
end Go.Proofs.YtkboplcffailoaaGreatDoor
