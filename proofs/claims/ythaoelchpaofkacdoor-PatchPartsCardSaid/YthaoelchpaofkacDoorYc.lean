/- What slices.Clone does, at lists of texts and at lists of values. -/
import Derived.Test.YthaoelchpaofkacDoorXa
set_option linter.unusedSimpArgs false
set_option linter.unusedVariables false
namespace Go.Proofs.YthaoelchpaofkacDoor
open Go.RowKit

set_option maxRecDepth 100000 in
set_option maxHeartbeats 1000000 in
theorem cloneS (w : World) (v : Value) (n : Nat) (cells : List Value) (h : SlIs w 1 v n cells) :
    Calls Tryd.prog 67 #[v] w fun e w' => ∃ v', e = .returned v' ∧ w'.ownsRow w.heap.size 9 1 v' n cells ∧ Below w.heap.size w w' := by
  obtain ⟨i0, hi, hz0, hz1, hz2⟩ := info_parts info9
  obtain ⟨g1, g2, g3, g4⟩ := h
  rcases g4 with ⟨rfl, rfl⟩ | ⟨ad, cc, rfl, hcs⟩
  · have hc0 : cells = [] := List.eq_nil_of_length_eq_zero (by rw [g1])
    subst hc0
    have hnil : ∀ W : World, (binOp .eql 22 (.slice none 0 0) (.slice none 0 0)).run Tryd.prog W = .ok (.bool true) W := fun W => Lib.run_eql_slice_nil W _ _ _ _ _ _ _ Tryd.underlying22
    go_enter Tryd.func67, Tryd.ntmps67
    go_wp2
    go_ret
    exact ⟨_, rfl, World.ownsRow_nil _ _ _ _, Below.refl _ _⟩
  · have O : Hid ((w.alloc (.cells #[] 9)).ownsRow w.heap.size 9 1 (.slice (some ⟨w.heap.size, 0, none⟩) 0 0) 0 []) := World.ownsRow_made w #[] 0 (Nat.le_refl _) (by simp) (by simp)
    have C : Hid (cells.length = n * 1 ∧ (∀ u ∈ cells, u.oneCell' = true) ∧ ∀ j u, cells[j]? = some u → (w.alloc (.cells #[] 9)).cell? (ad.add j) = some u) := ⟨g1, g3, fun j u hj => cell_bel (bel_alloc _ _) (hcs j u hj)⟩
    have hnil : ∀ W : World, (binOp .eql 22 (.slice (some ad) n cc) (.slice none 0 0)).run Tryd.prog W = .ok (.bool false) W := fun W => Lib.run_eql_slice_nil W _ _ _ _ _ _ _ Tryd.underlying22
    clear g1 g3 hcs
    go_enter Tryd.func67, Tryd.ntmps67
    go_wp2_with (at_builtin; go_must (refine wpList_append_own _ rfl _ _ 22 rfl w.heap.size 9 i0 _ 1 16 Tryd.underlying22 hi hz0 hz1 hz2 rfl (by decide) (.slice (some ⟨w.heap.size, 0, none⟩) 0 0) 0 [] rfl O.out ad n cc cells rfl C.out.1 C.out.2.2 C.out.2.1 (by unfold maxLen; omega) (by omega) (by simp) ?_); intro v2 w2 ho2 hg2 _; refine Hid.out ?_)
    refine hidI ?_
    have D : Hid (w2.ownsRow w.heap.size 9 1 v2 n cells ∧ Below w.heap.size w w2) := by
      rw [Nat.zero_add, List.nil_append] at ho2
      exact ⟨ho2, (bel_alloc w _).grown hg2 (by simp) (fun k hk => (O.out.lt k hk).1)⟩
    clear ho2 hg2
    go_wp2_with fail
    go_ret
    exact ⟨v2, rfl, D.out.1, D.out.2⟩
set_option maxRecDepth 100000 in
set_option maxHeartbeats 1000000 in
theorem cloneV (w : World) (v : Value) (n : Nat) (cells : List Value) (h : SlIs w 5 v n cells) :
    Calls Tryd.prog 68 #[v] w fun e w' => ∃ v', e = .returned v' ∧ w'.ownsRow w.heap.size 25 5 v' n cells ∧ Below w.heap.size w w' := by
  obtain ⟨i0, hi, hz0, hz1, hz2⟩ := info_parts info25
  obtain ⟨g1, g2, g3, g4⟩ := h
  rcases g4 with ⟨rfl, rfl⟩ | ⟨ad, cc, rfl, hcs⟩
  · have hc0 : cells = [] := List.eq_nil_of_length_eq_zero (by rw [g1])
    subst hc0
    have hnil : ∀ W : World, (binOp .eql 23 (.slice none 0 0) (.slice none 0 0)).run Tryd.prog W = .ok (.bool true) W := fun W => Lib.run_eql_slice_nil W _ _ _ _ _ _ _ Tryd.underlying23
    go_enter Tryd.func68, Tryd.ntmps68
    go_wp2
    go_ret
    exact ⟨_, rfl, World.ownsRow_nil _ _ _ _, Below.refl _ _⟩
  · have O : Hid ((w.alloc (.cells #[] 25)).ownsRow w.heap.size 25 5 (.slice (some ⟨w.heap.size, 0, none⟩) 0 0) 0 []) := World.ownsRow_made w #[] 0 (Nat.le_refl _) (by simp) (by simp)
    have C : Hid (cells.length = n * 5 ∧ (∀ u ∈ cells, u.oneCell' = true) ∧ ∀ j u, cells[j]? = some u → (w.alloc (.cells #[] 25)).cell? (ad.add j) = some u) := ⟨g1, g3, fun j u hj => cell_bel (bel_alloc _ _) (hcs j u hj)⟩
    have hnil : ∀ W : World, (binOp .eql 23 (.slice (some ad) n cc) (.slice none 0 0)).run Tryd.prog W = .ok (.bool false) W := fun W => Lib.run_eql_slice_nil W _ _ _ _ _ _ _ Tryd.underlying23
    clear g1 g3 hcs
    go_enter Tryd.func68, Tryd.ntmps68
    go_wp2_with (at_builtin; go_must (refine wpList_append_own _ rfl _ _ 23 rfl w.heap.size 25 i0 _ 5 80 Tryd.underlying23 hi hz0 hz1 hz2 rfl (by decide) (.slice (some ⟨w.heap.size, 0, none⟩) 0 0) 0 [] rfl O.out ad n cc cells rfl C.out.1 C.out.2.2 C.out.2.1 (by unfold maxLen; omega) (by omega) (by simp) ?_); intro v2 w2 ho2 hg2 _; refine Hid.out ?_)
    refine hidI ?_
    have D : Hid (w2.ownsRow w.heap.size 25 5 v2 n cells ∧ Below w.heap.size w w2) := by
      rw [Nat.zero_add, List.nil_append] at ho2
      exact ⟨ho2, (bel_alloc w _).grown hg2 (by simp) (fun k hk => (O.out.lt k hk).1)⟩
    clear ho2 hg2
    go_wp2_with fail
    go_ret
    exact ⟨v2, rfl, D.out.1, D.out.2⟩
/- An empty list: it is one in every world. -/
def Emp (b : Option Addr) (c : Nat) : Prop := c = 0 ∨ ∃ g o, b = some ⟨g, o, none⟩ ∧ c ≤ 9223372036854775807
theorem Emp.strs {b : Option Addr} {c : Nat} (h : Emp b c) (w : World) (ok : Nat → Prop) : StrsAre w ok [] (.slice b 0 c) := by
  rcases h with rfl | ⟨g, o, rfl, hc⟩
  · exact ⟨by simp, .inl ⟨rfl, b, rfl⟩⟩
  · exact ⟨by simp, .inr ⟨g, o, c, rfl, Nat.zero_le _, hc, fun i x hx => by simp at hx⟩⟩
theorem Emp.vals {b : Option Addr} {c : Nat} (h : Emp b c) (w : World) (ok : Nat → Prop) (R : V → Value → Prop) : ValsAre w ok R [] (.slice b 0 c) := by
  rcases h with rfl | ⟨g, o, rfl, hc⟩
  · exact ⟨by simp, .inl ⟨rfl, b, rfl⟩⟩
  · exact ⟨by simp, .inr ⟨g, o, c, rfl, Nat.zero_le _, hc, fun i x hx => by simp at hx⟩⟩
theorem emp_own {w : World} {B : Nat} {e : TypeId} {size : Nat} {v : Value} (h : w.ownsRow B e size v 0 []) : ∃ b c, v = .slice b 0 c ∧ Emp b c := by
  rcases h.2 with ⟨rfl, -⟩ | ⟨g, cap, cur, rfl, -, -, -, hc, -⟩
  · exact ⟨none, 0, rfl, .inl rfl⟩
  · exact ⟨_, cap, rfl, .inr ⟨g, 0, rfl, hc⟩⟩
theorem emp_sl {b : Option Addr} {c : Nat} (h : Emp b c) (w : World) (size : Nat) : SlIs w size (.slice b 0 c) 0 [] := by
  rcases h with rfl | ⟨g, o, rfl, hc⟩
  · exact slnil w size b
  · exact ⟨by simp, by omega, (fun u hu => absurd hu (by simp)), .inr ⟨_, c, rfl, fun j u hj => by simp at hj⟩⟩
theorem clone0S (w : World) (b : Option Addr) (c : Nat) (h : Emp b c) : Calls Tryd.prog 67 #[.slice b 0 c] w fun e w' => ∃ b' c', e = .returned (.slice b' 0 c') ∧ Emp b' c' ∧ Below w.heap.size w w' := by
  refine (cloneS w _ 0 [] (emp_sl h w 1)).mono ?_
  rintro e w' ⟨v', rfl, ho, hb⟩
  obtain ⟨b', c', rfl, he⟩ := emp_own ho
  exact ⟨b', c', rfl, he, hb⟩
theorem clone0V (w : World) (b : Option Addr) (c : Nat) (h : Emp b c) : Calls Tryd.prog 68 #[.slice b 0 c] w fun e w' => ∃ b' c', e = .returned (.slice b' 0 c') ∧ Emp b' c' ∧ Below w.heap.size w w' := by
  refine (cloneV w _ 0 [] (emp_sl h w 5)).mono ?_
  rintro e w' ⟨v', rfl, ho, hb⟩
  obtain ⟨b', c', rfl, he⟩ := emp_own ho
  exact ⟨b', c', rfl, he, hb⟩
theorem In.leaf {w : World} {ok : Nat → Prop} {k n : Int} {s : List UInt8} {v : Value} (h : In w ok ⟨k, n, s, [], []⟩ v) : ∃ b c b' c', v = .agg #[.int .i64 k, .int .i64 n, .string ⟨s.toArray⟩, .slice b 0 c, .slice b' 0 c'] ∧ Emp b c ∧ Emp b' c' ∧ I64 k ∧ I64 n ∧ s.length ≤ 9223372036854775807 := by
  obtain ⟨d, h⟩ := h.at
  obtain ⟨ks, ls, e, h1, h2, h3, h4, h5⟩ := h
  have f4 : ∃ b c, ks = .slice b 0 c ∧ Emp b c := by
    rcases h4.2 with ⟨-, a, rfl⟩ | ⟨b, off, c, rfl, -, hc, -⟩
    · exact ⟨a, 0, rfl, .inl rfl⟩
    · exact ⟨_, c, rfl, .inr ⟨b, off, rfl, hc⟩⟩
  have f5 : ∃ b c, ls = .slice b 0 c ∧ Emp b c := by
    rcases h5.2 with ⟨-, a, rfl⟩ | ⟨b, off, c, rfl, -, hc, -⟩
    · exact ⟨a, 0, rfl, .inl rfl⟩
    · exact ⟨_, c, rfl, .inr ⟨b, off, rfl, hc⟩⟩
  obtain ⟨b, c, rfl, e4⟩ := f4
  obtain ⟨b', c', rfl, e5⟩ := f5
  exact ⟨b, c, b', c', e, e4, e5, h1, h2, h3⟩
theorem leaf_in {b b' : Option Addr} {c c' : Nat} (h : Emp b c) (h' : Emp b' c') (w : World) (ok : Nat → Prop) {k n : Int} (hk : I64 k) (hn : I64 n) {s : List UInt8} (hs : s.length ≤ 9223372036854775807) : In w ok ⟨k, n, s, [], []⟩ (.agg #[.int .i64 k, .int .i64 n, .string ⟨s.toArray⟩, .slice b 0 c, .slice b' 0 c']) :=
  ⟨1, _, _, rfl, hk, hn, hs, h.strs w ok, h'.vals w ok _⟩
end Go.Proofs.YthaoelchpaofkacDoor
