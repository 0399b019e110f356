/- What Join of package point does. -/
import Derived.Test.YtfbddgpekbhpfabDoorWd
import Derived.Shelf.Strings.BuilderK
import Derived.Test.YtfbddgpekbhpfabDoorCc
set_option linter.unusedSimpArgs false
set_option linter.unusedVariables false
namespace Go.Proofs.YtfbddgpekbhpfabDoor
open Go.RowKit

abbrev IsB (B b : Nat) (l : List UInt8) (w : World) : Prop := Lib.IsBuilderF 61 5 B b (Lib.byteCells l) w
theorem IsB.bel {B b : Nat} {l : List UInt8} {w w' : World} (h : IsB B b l w) (hb : Below w.heap.size w w') : IsB B b l w' := by
  rcases h with ⟨h1, v, h2, h3, h4⟩ | ⟨h1, v, h2, h3, h4⟩
  · exact .inl ⟨h1, v, (hb.block _ (Array.getElem?_eq_some_iff.1 h2).1).trans h2, h3.kept (gb_below (r := none) hb) (by cases v.ownBlock <;> simp), h4⟩
  · exact .inr ⟨h1, v, (hb.block _ (Array.getElem?_eq_some_iff.1 h2).1).trans h2, h3.kept (gb_below (r := none) hb) (by cases v.ownBlock <;> simp), h4⟩
theorem writeByte_at (B b : Nat) (l : List UInt8) (w : World) (h : IsB B b l w) (hl : l.length ≤ 1000000000) (hB : B ≤ w.heap.size) :
    Calls Tryd.prog 40 #[.pointer (some ⟨b, 0, none⟩), .int .u8 47] w fun e w' => e = .returned .nilIface ∧ IsB B b (l ++ [47]) w' ∧ Below B w w' := by
  have hl2 : (Lib.byteCells l).length = l.length := by simp [Lib.byteCells]
  refine (Any.Builder_WriteByte_k Tryd.laysB167 Tryd.laysB_extra B b (Lib.byteCells l) 47 w h (by omega) hB).mono ?_
  rintro e w' ⟨rfl, h1, h2, -⟩
  refine ⟨rfl, .inr ?_, h2⟩
  have e1 : Lib.byteCells (l ++ [47]) = Lib.byteCells l ++ [.int .u8 47] := by simp [Lib.byteCells]
  rw [e1]; exact h1
theorem writeString_at (B b : Nat) (l s : List UInt8) (w : World) (h : IsB B b l w) (hl : l.length ≤ 1000000000) (hs : s.length ≤ 1000000000) (hB : B ≤ w.heap.size) :
    Calls Tryd.prog 41 #[.pointer (some ⟨b, 0, none⟩), .string ⟨s.toArray⟩] w fun e w' => e = .returned (.tuple #[.int .i64 s.length, .nilIface]) ∧ IsB B b (l ++ s) w' ∧ Below B w w' := by
  have hl2 : (Lib.byteCells l).length = l.length := by simp [Lib.byteCells]
  refine (Any.Builder_WriteString_k Tryd.laysB166 Tryd.laysB_extra B b (Lib.byteCells l) ⟨s.toArray⟩ w h (by rw [ba_size]; omega) hB).mono ?_
  rintro e w' ⟨rfl, h1, h2, -⟩
  refine ⟨by rw [ba_size], .inr ?_, h2⟩
  have e1 : Lib.byteCells (l ++ s) = Lib.byteCells l ++ Lib.strCells ⟨s.toArray⟩ := by simp [Lib.byteCells, Lib.strCells]
  rw [e1]; exact h1
theorem string_at (B b : Nat) (l : List UInt8) (w : World) (h : IsB B b l w) (hB : B ≤ w.heap.size) :
    Calls Tryd.prog 43 #[.pointer (some ⟨b, 0, none⟩)] w fun e w' => e = .returned (.string ⟨l.toArray⟩) ∧ Below B w w' := by
  refine (Any.Builder_String_any_k Tryd.laysB169 Tryd.laysB_extra B b l w h hB).mono ?_
  rintro e w' ⟨rfl, -, h2, -⟩
  exact ⟨rfl, h2⟩

set_option maxRecDepth 100000 in
set_option maxHeartbeats 10000000 in
theorem marked_at (w : World) (s : List UInt8) (hs : s.length ≤ 10000000) (hM : GlobM w) :
    Calls Tryd.prog 42 #[str s] w fun e w' => e = .returned (str (markedL s)) ∧ Below w.heap.size w w' := by
  have HM := hidI hM
  clear hM
  unfold str
  go_enter Tryd.func42, Tryd.ntmps42
  go_wp2_with fail
  refine (repl_at _ s [126] [126, 48] (by omega) (by simp) (by simp) (by exact HM.out)).mono ?_
  rintro e w1 ⟨rfl, hb1⟩
  have HB1 := hidI hb1
  have HM1 := hidI (HM.out.bel hb1)
  have hl : (Lib.replaceAll s [126] [126, 48]).length ≤ 2 * s.length := by
    rw [mark1]
    generalize s = s
    induction s with
    | nil => simp
    | cons c s ih =>
      have : (if c = 126 then [126, 48] else [c] : List UInt8).length ≤ 2 := by split <;> simp
      simp only [List.flatMap_cons, List.length_append, List.length_cons]; omega
  clear hb1
  go_wp2_with fail
  refine (repl_at _ (Lib.replaceAll s [126] [126, 48]) [47] [126, 49] (by omega) (by simp) (by simp) (by exact HM1.out)).mono ?_
  rintro e w2 ⟨rfl, hb2⟩
  have HB2 := hidI hb2
  clear hb2
  go_wp2_with fail
  go_ret
  exact ⟨rfl, bel_trans HB1.out HB2.out⟩
theorem join_take {l : List (List UInt8)} {k : Nat} (h : k < l.length) : joinP (l.take (k + 1)) = joinP (l.take k) ++ [47] ++ markedL l[k] := by
  unfold joinP
  rw [List.take_add_one, List.getElem?_eq_getElem h, List.flatMap_append]
  simp
theorem join_part (l : List (List UInt8)) (k : Nat) : (joinP (l.take k)).length ≤ (joinP l).length := by
  have : joinP l = joinP (l.take k) ++ joinP (l.drop k) := by
    unfold joinP
    rw [← List.flatMap_append, List.take_append_drop]
  rw [this, List.length_append]; omega
theorem isB_new (w : World) (o : Obj) (ho : o = .cells #[.pointer none, .slice none 0 0] 61) : IsB w.heap.size w.heap.size [] (w.alloc o) := by
  subst ho
  exact .inl ⟨Nat.le_refl _, .slice none 0 0, heap_alloc_new w _, World.ownsRowF_of (World.ownsRow_nil _ _ _ _), by simp [Value.ownBlock]⟩

set_option maxRecDepth 100000 in
set_option maxHeartbeats 4000000 in
theorem join_at (w : World) (ok : Nat → Prop) (l : List (List UInt8)) (v : Value) (hl : StrsAre w ok l v) (hn : ∀ x ∈ l, x.length ≤ 10000000) (hj : (joinP l).length ≤ 10000000) (hM : GlobM w) :
    Calls Tryd.prog 18 #[v] w fun e w' => e = .returned (str (joinP l)) ∧ Below w.heap.size w w' := by
  obtain ⟨a1, c1, rfl⟩ := hl.form
  have HL := hidI hl
  have HN := hidI hn
  have HM := hidI hM
  have hl1 := hl.1
  unfold maxLen at hl1
  clear hl hn hM
  have S0 : Hid (IsB w.heap.size w.heap.size (joinP (l.take 0)) (w.alloc (.cells #[.pointer none, .slice none 0 0] 61)) ∧ Below w.heap.size w (w.alloc (.cells #[.pointer none, .slice none 0 0] 61))) := ⟨isB_new w _ rfl, bel_alloc _ _⟩
  unfold str
  go_enter Tryd.func18, Tryd.ntmps18
  go_wp2_with fail
  go_loopg [8] l.length (fun gk i wr => ∃ k : Nat, k ≤ l.length ∧ gk = l.length - k ∧ i = .int .i64 k ∧ IsB w.heap.size w.heap.size (joinP (l.take k)) wr ∧ Below w.heap.size w wr)
  case atStart => exact ⟨0, Nat.zero_le _, rfl, rfl, S0.out.1, S0.out.2⟩
  case round =>
    obtain ⟨k, hk, hgk, rfl, hh, hbl⟩ := hrel
    have GK := hidI hgk
    have A : Hid (IsB w.heap.size w.heap.size (joinP (l.take k)) wr ∧ Below w.heap.size w wr) := ⟨hh, hbl⟩
    clear hgk hh hbl
    have hpart := join_part l k
    by_cases hlt : k < l.length
    · obtain ⟨kb, ko, rfl, hc1, hc2, hc⟩ := strs_cells HL.out hlt
      have c9 : wr.cell? ⟨kb, ko + k, none⟩ = some (.string ⟨l[k].toArray⟩) := cell_bel A.out.2 hc
      have hpart2 := join_part l (k + 1)
      have JT := hidI (join_take hlt)
      have hlk : l[k].length ≤ 10000000 := HN.out _ (List.getElem_mem _)
      have hmk : (markedL l[k]).length ≤ 10000000 := by
        have e := congrArg List.length JT.out
        simp only [List.length_append, List.length_cons, List.length_nil] at e
        omega
      clear hc
      unfold maxLen at hc2
      go_wp2_with fail
      refine (writeByte_at w.heap.size w.heap.size (joinP (l.take k)) _ (by exact A.out.1) (by omega) (by exact A.out.2.size)).mono ?_
      rintro e w1 ⟨rfl, hB1, hb1⟩
      have A1 : Hid (IsB w.heap.size w.heap.size (joinP (l.take k) ++ [47]) w1 ∧ Below w.heap.size w w1) := ⟨hB1, A.out.2.trans hb1⟩
      clear hB1 hb1
      have M1 := hidI (HM.out.bel A1.out.2)
      go_wp2_with fail
      refine (marked_at _ l[k] (by omega) (by exact M1.out)).mono ?_
      rintro e w2 ⟨rfl, hb2⟩
      have A2 : Hid (IsB w.heap.size w.heap.size (joinP (l.take k) ++ [47]) w2 ∧ Below w.heap.size w w2) := ⟨A1.out.1.bel hb2, bel_trans A1.out.2 hb2⟩
      clear hb2
      unfold str
      go_wp2_with fail
      refine (writeString_at w.heap.size w.heap.size (joinP (l.take k) ++ [47]) (markedL l[k]) _ (by exact A2.out.1) (by simp only [List.length_append, List.length_cons, List.length_nil]; omega) (by omega) (by exact A2.out.2.size)).mono ?_
      rintro e w3 ⟨rfl, hB3, hb3⟩
      have A3 : Hid (IsB w.heap.size w.heap.size (joinP (l.take (k + 1))) w3 ∧ Below w.heap.size w w3) := ⟨by rw [JT.out]; exact hB3, A2.out.2.trans hb3⟩
      clear hB3 hb3
      go_wp2_with fail
      go_roundg (l.length - (k + 1))
      case measure => rw [GK.out]; omega
      case rel => exact ⟨k + 1, by omega, rfl, by go_num, A3.out.1, A3.out.2⟩
    · have hke : k = l.length := by omega
      subst hke
      have A4 : Hid (IsB w.heap.size w.heap.size (joinP l) wr ∧ Below w.heap.size w wr) := ⟨by have := A.out.1; rwa [List.take_length] at this, A.out.2⟩
      clear A
      go_wp2_with fail
      refine (string_at w.heap.size w.heap.size (joinP l) _ (by exact A4.out.1) (by exact A4.out.2.size)).mono ?_
      rintro e w1 ⟨rfl, hb1⟩
      have HB1 := hidI hb1
      clear hb1
      go_wp2_with fail
      go_ret
      exact ⟨rfl, A4.out.2.trans HB1.out⟩
end Go.Proofs.YtfbddgpekbhpfabDoor
