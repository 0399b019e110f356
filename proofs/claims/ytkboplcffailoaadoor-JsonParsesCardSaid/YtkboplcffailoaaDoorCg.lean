/- Concat of three parts, as With calls it. -/
import Derived.Test.YtkboplcffailoaaDoorCh
set_option linter.unusedSimpArgs false
set_option linter.unusedVariables false
namespace Go.Proofs.YtkboplcffailoaaDoor
open Go.RowKit

/- Concat of a part, one element of its own block, and a part, out of two new blocks. -/
theorem conS3 {w2 : World} {v1 v3 : Value} {n1 n3 N : Nat} {cs1 cs3 : List Value} (key : ByteArray) (s1 : SlIs w2 1 v1 n1 cs1) (s3 : SlIs w2 1 v3 n3 cs3) (hN : n1 + 1 + n3 = N) (hn : N ≤ 1000000) (W : World)
    (e1 : W.heap = ((w2.alloc (.cells #[.string key] 9)).alloc (.cells #[v1, .slice (some ⟨w2.heap.size, 0, none⟩) 1 1, v3] 22)).heap) (e2 : W.os = w2.os) (e3 : W.tape = w2.tape) (e4 : W.output = w2.output) :
    Calls Tryd.prog 68 #[.slice (some ⟨w2.heap.size + 1, 0, none⟩) 3 3] W fun e w' => ∃ g cap, e = .returned (.slice (some ⟨g, 0, none⟩) N cap) ∧ w'.ownsRow w2.heap.size 9 1 (.slice (some ⟨g, 0, none⟩) N cap) N (cs1 ++ [.string key] ++ cs3) ∧ Below w2.heap.size w2 w' := by
  have hbW : Below w2.heap.size w2 W := by
    have := bel_trans (bel_alloc w2 (.cells #[.string key] 9)) (bel_alloc _ (.cells #[v1, .slice (some ⟨w2.heap.size, 0, none⟩) 1 1, v3] 22))
    exact ⟨e2, e3, e4, by rw [e1]; exact this.size, fun k hk => by rw [e1]; exact this.block k hk⟩
  have ha := h2a w2 (.cells #[.string key] 9) (.cells #[v1, .slice (some ⟨w2.heap.size, 0, none⟩) 1 1, v3] 22)
  have hb := h2b w2 (.cells #[.string key] 9) (.cells #[v1, .slice (some ⟨w2.heap.size, 0, none⟩) 1 1, v3] 22)
  rw [← e1] at ha hb
  refine (concatS3 W (w2.heap.size + 1) ⟨v1, n1, cs1⟩ ⟨_, 1, _⟩ ⟨v3, n3, cs3⟩ (by simp [World.cell?, hb]) (by simp [World.cell?, hb]) (by simp [World.cell?, hb]) (s1.bel hbW) (slone ha rfl) (s3.bel hbW) (by simp only; omega)).mono ?_
  rintro e w' ⟨v, rfl, ho, hb9⟩
  simp only at ho
  rw [hN] at ho
  have ho' := own_base ho hbW.size
  rcases ho'.2 with ⟨_, h0⟩ | ⟨g, cap, cur, e, rest⟩
  · omega
  · subst e
    exact ⟨g, cap, rfl, ho', bel_trans hbW hb9⟩
theorem conV3 {w2 : World} {v1 v3 : Value} {n1 n3 N : Nat} {cs1 cs3 : List Value} (k n : Int) (s : ByteArray) (a7 a8 : Option Addr) (l7 c7 l8 c8 : Nat) (s1 : SlIs w2 5 v1 n1 cs1) (s3 : SlIs w2 5 v3 n3 cs3) (hN : n1 + 1 + n3 = N) (hn : N ≤ 1000000) (W : World)
    (e1 : W.heap = ((w2.alloc (.cells #[.int .i64 k, .int .i64 n, .string s, .slice a7 l7 c7, .slice a8 l8 c8] 25)).alloc (.cells #[v1, .slice (some ⟨w2.heap.size, 0, none⟩) 1 1, v3] 23)).heap) (e2 : W.os = w2.os) (e3 : W.tape = w2.tape) (e4 : W.output = w2.output) :
    Calls Tryd.prog 67 #[.slice (some ⟨w2.heap.size + 1, 0, none⟩) 3 3] W fun e w' => ∃ g cap, e = .returned (.slice (some ⟨g, 0, none⟩) N cap) ∧ w'.ownsRow w2.heap.size 25 5 (.slice (some ⟨g, 0, none⟩) N cap) N (cs1 ++ [.int .i64 k, .int .i64 n, .string s, .slice a7 l7 c7, .slice a8 l8 c8] ++ cs3) ∧ Below w2.heap.size w2 w' := by
  have hbW : Below w2.heap.size w2 W := by
    have := bel_trans (bel_alloc w2 (.cells #[.int .i64 k, .int .i64 n, .string s, .slice a7 l7 c7, .slice a8 l8 c8] 25)) (bel_alloc _ (.cells #[v1, .slice (some ⟨w2.heap.size, 0, none⟩) 1 1, v3] 23))
    exact ⟨e2, e3, e4, by rw [e1]; exact this.size, fun k hk => by rw [e1]; exact this.block k hk⟩
  have ha := h2a w2 (.cells #[.int .i64 k, .int .i64 n, .string s, .slice a7 l7 c7, .slice a8 l8 c8] 25) (.cells #[v1, .slice (some ⟨w2.heap.size, 0, none⟩) 1 1, v3] 23)
  have hb := h2b w2 (.cells #[.int .i64 k, .int .i64 n, .string s, .slice a7 l7 c7, .slice a8 l8 c8] 25) (.cells #[v1, .slice (some ⟨w2.heap.size, 0, none⟩) 1 1, v3] 23)
  rw [← e1] at ha hb
  refine (concatV3 W (w2.heap.size + 1) ⟨v1, n1, cs1⟩ ⟨_, 1, _⟩ ⟨v3, n3, cs3⟩ (by simp [World.cell?, hb]) (by simp [World.cell?, hb]) (by simp [World.cell?, hb]) (s1.bel hbW) (slbox ha (one5 _ _ _ _ _ _ _ _ _)) (s3.bel hbW) (by simp only; omega)).mono ?_
  rintro e w' ⟨v, rfl, ho, hb9⟩
  simp only at ho
  rw [hN] at ho
  have ho' := own_base ho hbW.size
  rcases ho'.2 with ⟨_, h0⟩ | ⟨g, cap, cur, e, rest⟩
  · omega
  · subst e
    exact ⟨g, cap, rfl, ho', bel_trans hbW hb9⟩
end Go.Proofs.YtkboplcffailoaaDoor
